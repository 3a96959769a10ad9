import Derived.Test.YtlcnkcgmjnfbiaaGreatDoorZd05
set_option linter.unusedSectionVars false
namespace Go.Proofs.YtlcnkcgmjnfbiaaGreatDoor
open Go.RowKit
variable [dK] [iK]

set_option maxRecDepth 100000 in
theorem qsound (kd x y : Int) (w : World) (b : Bool) (hb : b = decide ((kd = 1 ∧ 1 ≤ x) ∨ (kd = 2 ∧ 1 ≤ y))) :
    Calls Tryz.prog 177 #[.agg #[.int .u8 kd, .int .u64 x, .int .u64 y]] w fun e w' => e = .returned (.bool b) ∧ w' = w.alloc (.cells #[.int .u8 kd, .int .u64 x, .int .u64 y] 39) := by
  by_cases h1 : kd = 1
  · subst h1
    have e : b = decide (1 ≤ x) := by rw [hb]; simp
    subst e
    clear hb
    go_enter Tryz.func177, Tryz.ntmps177
    go_wp2
    go_ret
    exact ⟨rfl, rfl⟩
  by_cases h2 : kd = 2
  · subst h2
    have e : b = decide (1 ≤ y) := by rw [hb]; simp
    subst e
    clear hb
    go_enter Tryz.func177, Tryz.ntmps177
    go_wp2
    go_ret
    exact ⟨rfl, rfl⟩
  have e : b = false := by rw [hb]; simp [h1, h2]
  subst e
  clear hb
  have h1' : (kd == 1) = false := by simpa using h1
  have h2' : (kd == 2) = false := by simpa using h2
  go_enter Tryz.func177, Tryz.ntmps177
  go_wp2
  go_ret
  exact ⟨rfl, rfl⟩

set_option maxRecDepth 100000 in
theorem qnew_ok (kd x y : Int) (w : World) (h : (kd = 1 ∧ 1 ≤ x) ∨ (kd = 2 ∧ 1 ≤ y)) :
    Calls Tryz.prog 161 #[.agg #[.int .u8 kd, .int .u64 x, .int .u64 y]] w fun e w' => e = .returned (.tuple #[.agg #[.int .u8 kd, .int .u64 x, .int .u64 y, .int .u64 0, .int .u64 0], .bool true]) ∧ Below w.heap.size w w' := by
  go_enter Tryz.func161, Tryz.ntmps161
  go_wp2_with (go_at_call 177; refine (qsound _ _ _ _ true (by simpa using h)).mono ?_; rintro e w' ⟨rfl, rfl⟩)
  exact bodyPost_ret (v := .tuple #[.agg #[.int .u8 kd, .int .u64 x, .int .u64 y, .int .u64 0, .int .u64 0], .bool true]) (by simp [results, Tryz.results161, go_sem]) rfl ⟨rfl, (((Below.refl _ w).alloc (Nat.le_refl _) _).alloc (by simp) _).alloc (by simp <;> omega) _⟩

set_option maxRecDepth 100000 in
theorem qnew_bad (kd x y : Int) (w : World) (h : ¬ ((kd = 1 ∧ 1 ≤ x) ∨ (kd = 2 ∧ 1 ≤ y))) :
    Calls Tryz.prog 161 #[.agg #[.int .u8 kd, .int .u64 x, .int .u64 y]] w fun e w' => e = .returned (.tuple #[.agg #[.int .u8 0, .int .u64 0, .int .u64 0, .int .u64 0, .int .u64 0], .bool false]) ∧ Below w.heap.size w w' := by
  have hs := fun w => qsound kd x y w false (by simpa using h)
  clear h
  go_enter Tryz.func161, Tryz.ntmps161
  go_wp2_with (go_at_call 177; refine (hs _).mono ?_; rintro e w' ⟨rfl, rfl⟩)
  exact bodyPost_ret (v := .tuple #[.agg #[.int .u8 0, .int .u64 0, .int .u64 0, .int .u64 0, .int .u64 0], .bool false]) (by simp [results, Tryz.results161, go_sem]) rfl ⟨rfl, (((Below.refl _ w).alloc (Nat.le_refl _) _).alloc (by simp) _).alloc (by simp <;> omega) _⟩
end Go.Proofs.YtlcnkcgmjnfbiaaGreatDoor
