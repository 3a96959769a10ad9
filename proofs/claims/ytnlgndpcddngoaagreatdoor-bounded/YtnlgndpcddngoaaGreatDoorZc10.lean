import Derived.Test.YtnlgndpcddngoaaGreatDoorZc05
set_option linter.unusedSectionVars false
namespace Go.Proofs.YtnlgndpcddngoaaGreatDoor
open Go.RowKit
variable [dK] [iK]

set_option maxRecDepth 100000 in
set_option maxHeartbeats 1000000 in
theorem qadmW_in (kd x y lv wn now n : Int) (w : World) (hl0 : 0 ≤ lv) (hn0 : 0 ≤ n) (hx1 : x ≤ 18446744073709551615) (h : lv + n ≤ x) :
    Calls Tryz.prog 178 #[.agg #[.int .u8 kd, .int .u64 x, .int .u64 y, .int .u64 lv, .int .u64 wn], .int .u64 now, .int .u64 n] w fun e w' =>
      e = .returned (.tuple #[.agg #[.int .u8 kd, .int .u64 x, .int .u64 y, .int .u64 (lv + n), .int .u64 wn], .agg #[.int .u8 2, .int .u64 (lv + n), .int .u64 wn]]) ∧ Below w.heap.size w w' := by
  go_enter Tryz.func178, Tryz.ntmps178
  go_wp2_with (go_at_call 191; refine (sum_room lv n _ hl0 hn0 (by omega)).mono ?_; rintro e w' ⟨rfl, rfl⟩)
  go_region_with (go_at_call 158; refine (qreply _ _ _ _ _ _ _).mono ?_; rintro e w1 ⟨rfl, rfl⟩)
  all_goals go_wp2
  all_goals exact bodyPost_ret (v := .tuple #[.agg #[.int .u8 kd, .int .u64 x, .int .u64 y, .int .u64 (lv + n), .int .u64 wn], .agg #[.int .u8 2, .int .u64 (lv + n), .int .u64 wn]]) (by simp [results, Tryz.results178, go_sem]) rfl ⟨rfl, ((((((Below.refl _ w).alloc (Nat.le_refl _) _).alloc (by simp <;> omega) _).alloc (by simp <;> omega) _).alloc (by simp <;> omega) _).alloc (by simp <;> omega) _).drew⟩

set_option maxRecDepth 100000 in
set_option maxHeartbeats 1000000 in
theorem qadmW_never (kd x y lv wn now n : Int) (w : World) (hl0 : 0 ≤ lv) (hl1 : lv ≤ 18446744073709551615) (hn0 : 0 ≤ n) (hn1 : n ≤ 18446744073709551615) (_hx1 : x ≤ 18446744073709551615) (h : x < lv + n) (hx : x < n) :
    Calls Tryz.prog 178 #[.agg #[.int .u8 kd, .int .u64 x, .int .u64 y, .int .u64 lv, .int .u64 wn], .int .u64 now, .int .u64 n] w fun e w' =>
      e = .returned (.tuple #[.agg #[.int .u8 kd, .int .u64 x, .int .u64 y, .int .u64 lv, .int .u64 wn], .agg #[.int .u8 3, .int .u64 18446744073709551615, .int .u64 0]]) ∧ Below w.heap.size w w' := by
  by_cases hs : lv + n ≤ 18446744073709551615
  · go_enter Tryz.func178, Tryz.ntmps178
    go_wp2_with (go_at_call 191; refine (sum_room lv n _ hl0 hn0 hs).mono ?_; rintro e w' ⟨rfl, rfl⟩)
    go_region_with (first | (go_at_call 192; refine (qnext_never _ _ _ _ _ _ _ hx).mono ?_; rintro e w1 ⟨rfl, rfl⟩) | (go_at_call 189; refine (qdenied _ _).mono ?_; rintro e w1 ⟨rfl, rfl⟩))
    all_goals go_wp2
    all_goals exact bodyPost_ret (v := .tuple #[.agg #[.int .u8 kd, .int .u64 x, .int .u64 y, .int .u64 lv, .int .u64 wn], .agg #[.int .u8 3, .int .u64 18446744073709551615, .int .u64 0]]) (by simp [results, Tryz.results178, go_sem]) rfl ⟨rfl, ((((((Below.refl _ w).alloc (Nat.le_refl _) _).alloc (by simp <;> omega) _).alloc (by simp <;> omega) _).alloc (by simp <;> omega) _).alloc (by simp <;> omega) _).drew⟩
  · go_enter Tryz.func178, Tryz.ntmps178
    go_wp2_with (go_at_call 191; refine (sum_none lv n _ hl0 hn0 hl1 hn1 (by omega)).mono ?_; rintro e w' ⟨rfl, rfl⟩)
    go_region_with (first | (go_at_call 192; refine (qnext_never _ _ _ _ _ _ _ hx).mono ?_; rintro e w1 ⟨rfl, rfl⟩) | (go_at_call 189; refine (qdenied _ _).mono ?_; rintro e w1 ⟨rfl, rfl⟩))
    all_goals go_wp2
    all_goals exact bodyPost_ret (v := .tuple #[.agg #[.int .u8 kd, .int .u64 x, .int .u64 y, .int .u64 lv, .int .u64 wn], .agg #[.int .u8 3, .int .u64 18446744073709551615, .int .u64 0]]) (by simp [results, Tryz.results178, go_sem]) rfl ⟨rfl, ((((((Below.refl _ w).alloc (Nat.le_refl _) _).alloc (by simp <;> omega) _).alloc (by simp <;> omega) _).alloc (by simp <;> omega) _).alloc (by simp <;> omega) _).drew⟩

set_option maxRecDepth 100000 in
set_option maxHeartbeats 1000000 in
theorem qadmW_next (kd x y lv wn now n : Int) (w : World) (hl0 : 0 ≤ lv) (hl1 : lv ≤ 18446744073709551615) (hn0 : 0 ≤ n) (hn1 : n ≤ 18446744073709551615) (_hx1 : x ≤ 18446744073709551615) (h : x < lv + n) (hx : n ≤ x) (p : Int) (hp : IntKind.u64.wrap (wn * y) = p) (hp0 : 0 ≤ p) (hp1 : p ≤ 18446744073709551615) (hy0 : 0 ≤ y) (hy1 : y ≤ 18446744073709551615) :
    Calls Tryz.prog 178 #[.agg #[.int .u8 kd, .int .u64 x, .int .u64 y, .int .u64 lv, .int .u64 wn], .int .u64 now, .int .u64 n] w fun e w' =>
      e = .returned (.tuple #[.agg #[.int .u8 kd, .int .u64 x, .int .u64 y, .int .u64 lv, .int .u64 wn], .agg #[.int .u8 3, .int .u64 (orNever (p + y)), .int .u64 0]]) ∧ Below w.heap.size w w' := by
  by_cases hs : lv + n ≤ 18446744073709551615
  · go_enter Tryz.func178, Tryz.ntmps178
    go_wp2_with (go_at_call 191; refine (sum_room lv n _ hl0 hn0 hs).mono ?_; rintro e w' ⟨rfl, rfl⟩)
    go_region_with (first | (go_at_call 192; refine (qnext_some _ _ _ _ _ _ p _ hx hp hp0 hp1 hy0 hy1).mono ?_; rintro e w1 ⟨rfl, rfl⟩) | (go_at_call 189; refine (qdenied _ _).mono ?_; rintro e w1 ⟨rfl, rfl⟩))
    all_goals go_wp2
    all_goals exact bodyPost_ret (v := .tuple #[.agg #[.int .u8 kd, .int .u64 x, .int .u64 y, .int .u64 lv, .int .u64 wn], .agg #[.int .u8 3, .int .u64 (orNever (p + y)), .int .u64 0]]) (by simp [results, Tryz.results178, go_sem]) rfl ⟨rfl, ((((((Below.refl _ w).alloc (Nat.le_refl _) _).alloc (by simp <;> omega) _).alloc (by simp <;> omega) _).alloc (by simp <;> omega) _).alloc (by simp <;> omega) _).drew⟩
  · go_enter Tryz.func178, Tryz.ntmps178
    go_wp2_with (go_at_call 191; refine (sum_none lv n _ hl0 hn0 hl1 hn1 (by omega)).mono ?_; rintro e w' ⟨rfl, rfl⟩)
    go_region_with (first | (go_at_call 192; refine (qnext_some _ _ _ _ _ _ p _ hx hp hp0 hp1 hy0 hy1).mono ?_; rintro e w1 ⟨rfl, rfl⟩) | (go_at_call 189; refine (qdenied _ _).mono ?_; rintro e w1 ⟨rfl, rfl⟩))
    all_goals go_wp2
    all_goals exact bodyPost_ret (v := .tuple #[.agg #[.int .u8 kd, .int .u64 x, .int .u64 y, .int .u64 lv, .int .u64 wn], .agg #[.int .u8 3, .int .u64 (orNever (p + y)), .int .u64 0]]) (by simp [results, Tryz.results178, go_sem]) rfl ⟨rfl, ((((((Below.refl _ w).alloc (Nat.le_refl _) _).alloc (by simp <;> omega) _).alloc (by simp <;> omega) _).alloc (by simp <;> omega) _).alloc (by simp <;> omega) _).drew⟩

end Go.Proofs.YtnlgndpcddngoaaGreatDoor
