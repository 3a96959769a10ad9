import Derived.Test.YtlamgpeiolfffaaGreatDoorZy00
set_option linter.unusedSectionVars false
namespace Go.Proofs.YtlamgpeiolfffaaGreatDoor
open Go.RowKit
variable [dK] [iK]

set_option maxRecDepth 100000 in
set_option maxHeartbeats 1000000 in
theorem qadmS_late (kd x y lv wn now n : Int) (w : World) (hn0 : 0 ≤ n) (hn1 : n ≤ 18446744073709551615) (hx0 : 0 ≤ x) (hx1 : x ≤ 18446744073709551615) (hy0 : 0 ≤ y) (hy1 : y ≤ 18446744073709551615) (hl0 : 0 ≤ lv) (hl1 : lv ≤ 18446744073709551615) (ht0 : 0 ≤ now) (ht1 : now ≤ 18446744073709551615) (hne : n ≠ 0) (s p : Int) (hs : (if lv < now then now else lv) = s) (hp : n * x = p) (hp0 : 0 ≤ p) (h : s + p ≤ 18446744073709551615) (m need : Int) (hm : IntKind.u64.wrap (n - 1) = m) (hnd : IntKind.u64.wrap (m * x) = need) (hf : need ≤ y) (last : Int) (hlast : IntKind.u64.wrap (s + need) = last) (d : Int) (hd : orNever (now + y) = d) (hlt : d < last) (u : Int) (hu : IntKind.u64.wrap (last - y) = u) :
    Calls Tryz.prog 135 #[.agg #[.int .u8 kd, .int .u64 x, .int .u64 y, .int .u64 lv, .int .u64 wn], .int .u64 now, .int .u64 n] w fun e w' =>
      e = .returned (.tuple #[.agg #[.int .u8 kd, .int .u64 x, .int .u64 y, .int .u64 lv, .int .u64 wn], .agg #[.int .u8 3, .int .u64 u, .int .u64 0]]) ∧ Below w.heap.size w w' := by
  have hsn : ∀ w, Calls Tryz.prog 140 #[.int .u64 now, .int .u64 y] w fun e w' => e = .returned (.int .u64 d) ∧ w' = w := fun w => hd ▸ sumNever_any now y w ht0 hy0 ht1 hy1
  clear hd
  by_cases hgt : lv < now
  · rw [if_pos hgt] at hs
    subst hs
    go_enter Tryz.func135, Tryz.ntmps135
    go_wp2_with (first | (go_at_call 138; refine (qafter_room _ _ _ _ _ _ _ p _ hp hn0 hn1 hx0 hx1 (by omega) (by omega) hp0 h).mono ?_; rintro e w1 ⟨rfl, rfl⟩) | (go_at_call 140; refine (hsn _).mono ?_; rintro e w1 ⟨rfl, rfl⟩))
    go_region_with (go_at_call 139; refine (qdenied _ _).mono ?_; rintro e w1 ⟨rfl, rfl⟩)
    all_goals go_wp2
    all_goals exact bodyPost_ret (v := .tuple #[.agg #[.int .u8 kd, .int .u64 x, .int .u64 y, .int .u64 lv, .int .u64 wn], .agg #[.int .u8 3, .int .u64 u, .int .u64 0]]) (by simp [results, Tryz.results135, go_sem]) rfl ⟨rfl, ((((((Below.refl _ w).alloc (Nat.le_refl _) _).alloc (by simp <;> omega) _).alloc (by simp <;> omega) _).alloc (by simp <;> omega) _).alloc (by simp <;> omega) _).drew⟩
  · rw [if_neg hgt] at hs
    subst hs
    go_enter Tryz.func135, Tryz.ntmps135
    go_wp2_with (first | (go_at_call 138; refine (qafter_room _ _ _ _ _ _ _ p _ hp hn0 hn1 hx0 hx1 (by omega) (by omega) hp0 h).mono ?_; rintro e w1 ⟨rfl, rfl⟩) | (go_at_call 140; refine (hsn _).mono ?_; rintro e w1 ⟨rfl, rfl⟩))
    go_region_with (go_at_call 139; refine (qdenied _ _).mono ?_; rintro e w1 ⟨rfl, rfl⟩)
    all_goals go_wp2
    all_goals exact bodyPost_ret (v := .tuple #[.agg #[.int .u8 kd, .int .u64 x, .int .u64 y, .int .u64 lv, .int .u64 wn], .agg #[.int .u8 3, .int .u64 u, .int .u64 0]]) (by simp [results, Tryz.results135, go_sem]) rfl ⟨rfl, ((((((Below.refl _ w).alloc (Nat.le_refl _) _).alloc (by simp <;> omega) _).alloc (by simp <;> omega) _).alloc (by simp <;> omega) _).alloc (by simp <;> omega) _).drew⟩

end Go.Proofs.YtlamgpeiolfffaaGreatDoor
