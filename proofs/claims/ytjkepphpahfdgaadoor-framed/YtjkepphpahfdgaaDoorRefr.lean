import Derived.Test.YtjkepphpahfdgaaDoorRefn
import Derived.Test.YtjkepphpahfdgaaDoorWreq
namespace Go.Proofs.YtjkepphpahfdgaaDoor
open Go.RowKit


set_option maxRecDepth 100000 in
set_option maxHeartbeats 1000000 in
theorem refreq1 (k0 k1 k2 k3 k4 k5 k6 k7 kd x y n : Int) (w : World) (hx0 : 0 ≤ x) (hx1 : x ≤ 18446744073709551615) (hy0 : 0 ≤ y) (hy1 : y ≤ 18446744073709551615) :
    Calls Tryd.prog 6 #[.agg #[.int .u8 1, .int .u8 k0, .int .u8 k1, .int .u8 k2, .int .u8 k3, .int .u8 k4, .int .u8 k5, .int .u8 k6, .int .u8 k7, .int .u8 kd, .int .u64 x, .int .u64 y, .int .u64 n]] w
      fun e w' => ∃ v', e = .returned v' ∧ w'.ownsRow w.heap.size 5 1 v' 27 (([26, 1, k0, k1, k2, k3, k4, k5, k6, k7, kd] ++ be8 x ++ be8 y).map (Value.int .u8)) ∧ Below w.heap.size w w' := by
  obtain ⟨i0, hi, hz0, hz1, hz2⟩ := info_parts Tryd.info5
  have hc1 : ∀ j, ((w.alloc (.cells #[.int .u8 1, .int .u8 k0, .int .u8 k1, .int .u8 k2, .int .u8 k3, .int .u8 k4, .int .u8 k5, .int .u8 k6, .int .u8 k7, .int .u8 kd, .int .u64 x, .int .u64 y, .int .u64 n] 28)).alloc (.cells #[.int .u8 26, .int .u8 1] 5)).cell? ⟨w.heap.size, j, none⟩ = (#[.int .u8 1, .int .u8 k0, .int .u8 k1, .int .u8 k2, .int .u8 k3, .int .u8 k4, .int .u8 k5, .int .u8 k6, .int .u8 k7, .int .u8 kd, .int .u64 x, .int .u64 y, .int .u64 n] : Array Value)[j]? := fun j => (World.cell?_alloc_past _ _ _ (by simp)).trans (cell_box w _ _ j)
  have hown1 : ((w.alloc (.cells #[.int .u8 1, .int .u8 k0, .int .u8 k1, .int .u8 k2, .int .u8 k3, .int .u8 k4, .int .u8 k5, .int .u8 k6, .int .u8 k7, .int .u8 kd, .int .u64 x, .int .u64 y, .int .u64 n] 28)).alloc (.cells #[.int .u8 26, .int .u8 1] 5)).ownsRow (w.heap.size + 1) 5 1 (.slice (some ⟨w.heap.size + 1, 0, none⟩) 2 2) 2 [.int .u8 26, .int .u8 1] := by
    have h := World.ownsRow_lit (base := w.heap.size + 1) (e := 5) (size := 1) (w.alloc (.cells #[.int .u8 1, .int .u8 k0, .int .u8 k1, .int .u8 k2, .int .u8 k3, .int .u8 k4, .int .u8 k5, .int .u8 k6, .int .u8 k7, .int .u8 kd, .int .u64 x, .int .u64 y, .int .u64 n] 28)) #[.int .u8 26, .int .u8 1] 2 (by simp) (by unfold maxLen; omega) rfl
    simpa using h
  have hB1 : Below w.heap.size w ((w.alloc (.cells #[.int .u8 1, .int .u8 k0, .int .u8 k1, .int .u8 k2, .int .u8 k3, .int .u8 k4, .int .u8 k5, .int .u8 k6, .int .u8 k7, .int .u8 kd, .int .u64 x, .int .u64 y, .int .u64 n] 28)).alloc (.cells #[.int .u8 26, .int .u8 1] 5)) := ((Below.refl _ w).alloc (Nat.le_refl _) _).alloc (by simp) _
  have hs1 : w.heap.size + 1 < ((w.alloc (.cells #[.int .u8 1, .int .u8 k0, .int .u8 k1, .int .u8 k2, .int .u8 k3, .int .u8 k4, .int .u8 k5, .int .u8 k6, .int .u8 k7, .int .u8 kd, .int .u64 x, .int .u64 y, .int .u64 n] 28)).alloc (.cells #[.int .u8 26, .int .u8 1] 5)).heap.size := by simp
  have hl : reqLen 1 = 26 := rfl
  go_enter Tryd.func6, Tryd.ntmps6
  go_wp2_with (first | (go_at_call 13; refine (size_any _ _).mono ?_; rintro e w' ⟨rfl, rfl⟩) | (at_builtin; refine wpList_append_own _ rfl (.tmp 17) (.tmp 19) 31 rfl (w.heap.size + 1) 5 i0 (.int .u8 0) 1 1 Tryd.underlying31 hi hz0 hz1 hz2 rfl (by decide) (.slice (some ⟨w.heap.size + 1, 0, none⟩) 2 2) 2 _ rfl hown1 ⟨w.heap.size, 1, none⟩ 8 8 [.int .u8 k0, .int .u8 k1, .int .u8 k2, .int .u8 k3, .int .u8 k4, .int .u8 k5, .int .u8 k6, .int .u8 k7] rfl rfl (src_of hc1 _ (key_src _ _ _ _ _ _ _ _ _ _ _ _ _)) (by simp [Value.oneCell']) (by unfold maxLen; omega) (by omega) (by simp) ?_; intro v2 w2 hown2 hgrow2 _; have hs2 := Nat.lt_of_lt_of_le hs1 hgrow2.size; have hD2 := (Below.refl (w.heap.size + 1) _).grown hgrow2 (Nat.le_of_lt hs1) (fun kk hkk => (hown1.lt kk hkk).1); have hc2 := fun j => (hD2.cell (p := ⟨w.heap.size, j, none⟩) (Nat.lt_succ_self _)).trans (hc1 j)) | (at_builtin; (refine wpList_append_own _ rfl (.tmp 24) (.tmp 28) 31 rfl (w.heap.size + 1) 5 i0 (.int .u8 0) 1 1 Tryd.underlying31 hi hz0 hz1 hz2 rfl (by decide) v2 10 _ rfl (hown2.alloc _) ⟨w2.heap.size, 0, none⟩ 1 1 [.int .u8 kd] rfl rfl (cell_one_new _ _ _) (by simp [Value.oneCell']) (by unfold maxLen; omega) (by omega) (by simp; omega) ?_); intro v3 w3 hown3 hgrow3 _; have hs3 : w.heap.size + 1 < w3.heap.size := (Nat.lt_of_lt_of_le (by simp; omega) hgrow3.size); have hD3 := (hD2.alloc (Nat.le_of_lt hs2) (.cells #[.int .u8 kd] 5)).grown hgrow3 (by simp; omega) (fun kk hkk => (hown2.lt kk hkk).1); have hc3 := fun j => (hD3.cell (p := ⟨w.heap.size, j, none⟩) (Nat.lt_succ_self _)).trans (hc1 j)))
  refine (refnum_any v3 11 (w.heap.size + 1) _ _ _ hown3 (by omega) (by omega) hx0 hx1).mono ?_
  rintro e w4 ⟨v4, rfl, hown4, hb4⟩
  have hs4 : w.heap.size + 1 < w4.heap.size := by have := hb4.size; omega
  have hc4 := fun j => (hb4.cell (p := ⟨w.heap.size, j, none⟩) (Nat.lt_succ_self _)).trans (hc3 j)
  go_wp2_with fail
  refine (refnum_any v4 19 (w.heap.size + 1) _ _ _ hown4 (by omega) (by omega) hy0 hy1).mono ?_
  rintro e w5 ⟨v5, rfl, hown5, hb5⟩
  have hc5 := fun j => (hb5.cell (p := ⟨w.heap.size, j, none⟩) (Nat.lt_succ_self _)).trans (hc4 j)
  go_wp2
  go_ret
  exact ⟨_, rfl, own_down (b := w.heap.size + 1) (by omega) (by simpa using hown5), hB1.trans (((hD3.trans hb4).trans hb5).mono (by omega))⟩

set_option maxRecDepth 100000 in
set_option maxHeartbeats 1000000 in
theorem refreq2 (k0 k1 k2 k3 k4 k5 k6 k7 kd x y n : Int) (w : World) (hn0 : 0 ≤ n) (hn1 : n ≤ 18446744073709551615) :
    Calls Tryd.prog 6 #[.agg #[.int .u8 2, .int .u8 k0, .int .u8 k1, .int .u8 k2, .int .u8 k3, .int .u8 k4, .int .u8 k5, .int .u8 k6, .int .u8 k7, .int .u8 kd, .int .u64 x, .int .u64 y, .int .u64 n]] w
      fun e w' => ∃ v', e = .returned v' ∧ w'.ownsRow w.heap.size 5 1 v' 18 (([17, 2, k0, k1, k2, k3, k4, k5, k6, k7] ++ be8 n).map (Value.int .u8)) ∧ Below w.heap.size w w' := by
  obtain ⟨i0, hi, hz0, hz1, hz2⟩ := info_parts Tryd.info5
  have hc1 : ∀ j, ((w.alloc (.cells #[.int .u8 2, .int .u8 k0, .int .u8 k1, .int .u8 k2, .int .u8 k3, .int .u8 k4, .int .u8 k5, .int .u8 k6, .int .u8 k7, .int .u8 kd, .int .u64 x, .int .u64 y, .int .u64 n] 28)).alloc (.cells #[.int .u8 17, .int .u8 2] 5)).cell? ⟨w.heap.size, j, none⟩ = (#[.int .u8 2, .int .u8 k0, .int .u8 k1, .int .u8 k2, .int .u8 k3, .int .u8 k4, .int .u8 k5, .int .u8 k6, .int .u8 k7, .int .u8 kd, .int .u64 x, .int .u64 y, .int .u64 n] : Array Value)[j]? := fun j => (World.cell?_alloc_past _ _ _ (by simp)).trans (cell_box w _ _ j)
  have hown1 : ((w.alloc (.cells #[.int .u8 2, .int .u8 k0, .int .u8 k1, .int .u8 k2, .int .u8 k3, .int .u8 k4, .int .u8 k5, .int .u8 k6, .int .u8 k7, .int .u8 kd, .int .u64 x, .int .u64 y, .int .u64 n] 28)).alloc (.cells #[.int .u8 17, .int .u8 2] 5)).ownsRow (w.heap.size + 1) 5 1 (.slice (some ⟨w.heap.size + 1, 0, none⟩) 2 2) 2 [.int .u8 17, .int .u8 2] := by
    have h := World.ownsRow_lit (base := w.heap.size + 1) (e := 5) (size := 1) (w.alloc (.cells #[.int .u8 2, .int .u8 k0, .int .u8 k1, .int .u8 k2, .int .u8 k3, .int .u8 k4, .int .u8 k5, .int .u8 k6, .int .u8 k7, .int .u8 kd, .int .u64 x, .int .u64 y, .int .u64 n] 28)) #[.int .u8 17, .int .u8 2] 2 (by simp) (by unfold maxLen; omega) rfl
    simpa using h
  have hB1 : Below w.heap.size w ((w.alloc (.cells #[.int .u8 2, .int .u8 k0, .int .u8 k1, .int .u8 k2, .int .u8 k3, .int .u8 k4, .int .u8 k5, .int .u8 k6, .int .u8 k7, .int .u8 kd, .int .u64 x, .int .u64 y, .int .u64 n] 28)).alloc (.cells #[.int .u8 17, .int .u8 2] 5)) := ((Below.refl _ w).alloc (Nat.le_refl _) _).alloc (by simp) _
  have hs1 : w.heap.size + 1 < ((w.alloc (.cells #[.int .u8 2, .int .u8 k0, .int .u8 k1, .int .u8 k2, .int .u8 k3, .int .u8 k4, .int .u8 k5, .int .u8 k6, .int .u8 k7, .int .u8 kd, .int .u64 x, .int .u64 y, .int .u64 n] 28)).alloc (.cells #[.int .u8 17, .int .u8 2] 5)).heap.size := by simp
  have hl : reqLen 2 = 17 := rfl
  go_enter Tryd.func6, Tryd.ntmps6
  go_wp2_with (first | (go_at_call 13; refine (size_any _ _).mono ?_; rintro e w' ⟨rfl, rfl⟩) | (at_builtin; refine wpList_append_own _ rfl (.tmp 17) (.tmp 19) 31 rfl (w.heap.size + 1) 5 i0 (.int .u8 0) 1 1 Tryd.underlying31 hi hz0 hz1 hz2 rfl (by decide) (.slice (some ⟨w.heap.size + 1, 0, none⟩) 2 2) 2 _ rfl hown1 ⟨w.heap.size, 1, none⟩ 8 8 [.int .u8 k0, .int .u8 k1, .int .u8 k2, .int .u8 k3, .int .u8 k4, .int .u8 k5, .int .u8 k6, .int .u8 k7] rfl rfl (src_of hc1 _ (key_src _ _ _ _ _ _ _ _ _ _ _ _ _)) (by simp [Value.oneCell']) (by unfold maxLen; omega) (by omega) (by simp) ?_; intro v2 w2 hown2 hgrow2 _; have hs2 := Nat.lt_of_lt_of_le hs1 hgrow2.size; have hD2 := (Below.refl (w.heap.size + 1) _).grown hgrow2 (Nat.le_of_lt hs1) (fun kk hkk => (hown1.lt kk hkk).1); have hc2 := fun j => (hD2.cell (p := ⟨w.heap.size, j, none⟩) (Nat.lt_succ_self _)).trans (hc1 j)))
  refine (refnum_any v2 10 (w.heap.size + 1) _ _ _ hown2 (by omega) (by omega) hn0 hn1).mono ?_
  rintro e w3 ⟨v3, rfl, hown3, hb3⟩
  go_wp2
  go_ret
  exact ⟨_, rfl, own_down (b := w.heap.size + 1) (by omega) (by simpa using hown3), hB1.trans ((hD2.trans hb3).mono (by omega))⟩

set_option maxRecDepth 100000 in
set_option maxHeartbeats 1000000 in
theorem refreq3 (k0 k1 k2 k3 k4 k5 k6 k7 kd x y n : Int) (w : World) :
    Calls Tryd.prog 6 #[.agg #[.int .u8 3, .int .u8 k0, .int .u8 k1, .int .u8 k2, .int .u8 k3, .int .u8 k4, .int .u8 k5, .int .u8 k6, .int .u8 k7, .int .u8 kd, .int .u64 x, .int .u64 y, .int .u64 n]] w
      fun e w' => ∃ v', e = .returned v' ∧ w'.ownsRow w.heap.size 5 1 v' 10 (([9, 3, k0, k1, k2, k3, k4, k5, k6, k7]).map (Value.int .u8)) ∧ Below w.heap.size w w' := by
  obtain ⟨i0, hi, hz0, hz1, hz2⟩ := info_parts Tryd.info5
  have hc1 : ∀ j, ((w.alloc (.cells #[.int .u8 3, .int .u8 k0, .int .u8 k1, .int .u8 k2, .int .u8 k3, .int .u8 k4, .int .u8 k5, .int .u8 k6, .int .u8 k7, .int .u8 kd, .int .u64 x, .int .u64 y, .int .u64 n] 28)).alloc (.cells #[.int .u8 9, .int .u8 3] 5)).cell? ⟨w.heap.size, j, none⟩ = (#[.int .u8 3, .int .u8 k0, .int .u8 k1, .int .u8 k2, .int .u8 k3, .int .u8 k4, .int .u8 k5, .int .u8 k6, .int .u8 k7, .int .u8 kd, .int .u64 x, .int .u64 y, .int .u64 n] : Array Value)[j]? := fun j => (World.cell?_alloc_past _ _ _ (by simp)).trans (cell_box w _ _ j)
  have hown1 : ((w.alloc (.cells #[.int .u8 3, .int .u8 k0, .int .u8 k1, .int .u8 k2, .int .u8 k3, .int .u8 k4, .int .u8 k5, .int .u8 k6, .int .u8 k7, .int .u8 kd, .int .u64 x, .int .u64 y, .int .u64 n] 28)).alloc (.cells #[.int .u8 9, .int .u8 3] 5)).ownsRow (w.heap.size + 1) 5 1 (.slice (some ⟨w.heap.size + 1, 0, none⟩) 2 2) 2 [.int .u8 9, .int .u8 3] := by
    have h := World.ownsRow_lit (base := w.heap.size + 1) (e := 5) (size := 1) (w.alloc (.cells #[.int .u8 3, .int .u8 k0, .int .u8 k1, .int .u8 k2, .int .u8 k3, .int .u8 k4, .int .u8 k5, .int .u8 k6, .int .u8 k7, .int .u8 kd, .int .u64 x, .int .u64 y, .int .u64 n] 28)) #[.int .u8 9, .int .u8 3] 2 (by simp) (by unfold maxLen; omega) rfl
    simpa using h
  have hB1 : Below w.heap.size w ((w.alloc (.cells #[.int .u8 3, .int .u8 k0, .int .u8 k1, .int .u8 k2, .int .u8 k3, .int .u8 k4, .int .u8 k5, .int .u8 k6, .int .u8 k7, .int .u8 kd, .int .u64 x, .int .u64 y, .int .u64 n] 28)).alloc (.cells #[.int .u8 9, .int .u8 3] 5)) := ((Below.refl _ w).alloc (Nat.le_refl _) _).alloc (by simp) _
  have hs1 : w.heap.size + 1 < ((w.alloc (.cells #[.int .u8 3, .int .u8 k0, .int .u8 k1, .int .u8 k2, .int .u8 k3, .int .u8 k4, .int .u8 k5, .int .u8 k6, .int .u8 k7, .int .u8 kd, .int .u64 x, .int .u64 y, .int .u64 n] 28)).alloc (.cells #[.int .u8 9, .int .u8 3] 5)).heap.size := by simp
  have hl : reqLen 3 = 9 := rfl
  go_enter Tryd.func6, Tryd.ntmps6
  go_wp2_with (first | (go_at_call 13; refine (size_any _ _).mono ?_; rintro e w' ⟨rfl, rfl⟩) | (at_builtin; refine wpList_append_own _ rfl (.tmp 17) (.tmp 19) 31 rfl (w.heap.size + 1) 5 i0 (.int .u8 0) 1 1 Tryd.underlying31 hi hz0 hz1 hz2 rfl (by decide) (.slice (some ⟨w.heap.size + 1, 0, none⟩) 2 2) 2 _ rfl hown1 ⟨w.heap.size, 1, none⟩ 8 8 [.int .u8 k0, .int .u8 k1, .int .u8 k2, .int .u8 k3, .int .u8 k4, .int .u8 k5, .int .u8 k6, .int .u8 k7] rfl rfl (src_of hc1 _ (key_src _ _ _ _ _ _ _ _ _ _ _ _ _)) (by simp [Value.oneCell']) (by unfold maxLen; omega) (by omega) (by simp) ?_; intro v2 w2 hown2 hgrow2 _; have hs2 := Nat.lt_of_lt_of_le hs1 hgrow2.size; have hD2 := (Below.refl (w.heap.size + 1) _).grown hgrow2 (Nat.le_of_lt hs1) (fun kk hkk => (hown1.lt kk hkk).1); have hc2 := fun j => (hD2.cell (p := ⟨w.heap.size, j, none⟩) (Nat.lt_succ_self _)).trans (hc1 j)))
  go_ret
  exact ⟨_, rfl, own_down (b := w.heap.size + 1) (by omega) (by simpa using hown2), hB1.trans (hD2.mono (by omega))⟩

set_option maxRecDepth 100000 in
set_option maxHeartbeats 1000000 in
theorem refreq4 (k0 k1 k2 k3 k4 k5 k6 k7 kd x y n : Int) (w : World) :
    Calls Tryd.prog 6 #[.agg #[.int .u8 4, .int .u8 k0, .int .u8 k1, .int .u8 k2, .int .u8 k3, .int .u8 k4, .int .u8 k5, .int .u8 k6, .int .u8 k7, .int .u8 kd, .int .u64 x, .int .u64 y, .int .u64 n]] w
      fun e w' => ∃ v', e = .returned v' ∧ w'.ownsRow w.heap.size 5 1 v' 10 (([9, 4, k0, k1, k2, k3, k4, k5, k6, k7]).map (Value.int .u8)) ∧ Below w.heap.size w w' := by
  obtain ⟨i0, hi, hz0, hz1, hz2⟩ := info_parts Tryd.info5
  have hc1 : ∀ j, ((w.alloc (.cells #[.int .u8 4, .int .u8 k0, .int .u8 k1, .int .u8 k2, .int .u8 k3, .int .u8 k4, .int .u8 k5, .int .u8 k6, .int .u8 k7, .int .u8 kd, .int .u64 x, .int .u64 y, .int .u64 n] 28)).alloc (.cells #[.int .u8 9, .int .u8 4] 5)).cell? ⟨w.heap.size, j, none⟩ = (#[.int .u8 4, .int .u8 k0, .int .u8 k1, .int .u8 k2, .int .u8 k3, .int .u8 k4, .int .u8 k5, .int .u8 k6, .int .u8 k7, .int .u8 kd, .int .u64 x, .int .u64 y, .int .u64 n] : Array Value)[j]? := fun j => (World.cell?_alloc_past _ _ _ (by simp)).trans (cell_box w _ _ j)
  have hown1 : ((w.alloc (.cells #[.int .u8 4, .int .u8 k0, .int .u8 k1, .int .u8 k2, .int .u8 k3, .int .u8 k4, .int .u8 k5, .int .u8 k6, .int .u8 k7, .int .u8 kd, .int .u64 x, .int .u64 y, .int .u64 n] 28)).alloc (.cells #[.int .u8 9, .int .u8 4] 5)).ownsRow (w.heap.size + 1) 5 1 (.slice (some ⟨w.heap.size + 1, 0, none⟩) 2 2) 2 [.int .u8 9, .int .u8 4] := by
    have h := World.ownsRow_lit (base := w.heap.size + 1) (e := 5) (size := 1) (w.alloc (.cells #[.int .u8 4, .int .u8 k0, .int .u8 k1, .int .u8 k2, .int .u8 k3, .int .u8 k4, .int .u8 k5, .int .u8 k6, .int .u8 k7, .int .u8 kd, .int .u64 x, .int .u64 y, .int .u64 n] 28)) #[.int .u8 9, .int .u8 4] 2 (by simp) (by unfold maxLen; omega) rfl
    simpa using h
  have hB1 : Below w.heap.size w ((w.alloc (.cells #[.int .u8 4, .int .u8 k0, .int .u8 k1, .int .u8 k2, .int .u8 k3, .int .u8 k4, .int .u8 k5, .int .u8 k6, .int .u8 k7, .int .u8 kd, .int .u64 x, .int .u64 y, .int .u64 n] 28)).alloc (.cells #[.int .u8 9, .int .u8 4] 5)) := ((Below.refl _ w).alloc (Nat.le_refl _) _).alloc (by simp) _
  have hs1 : w.heap.size + 1 < ((w.alloc (.cells #[.int .u8 4, .int .u8 k0, .int .u8 k1, .int .u8 k2, .int .u8 k3, .int .u8 k4, .int .u8 k5, .int .u8 k6, .int .u8 k7, .int .u8 kd, .int .u64 x, .int .u64 y, .int .u64 n] 28)).alloc (.cells #[.int .u8 9, .int .u8 4] 5)).heap.size := by simp
  have hl : reqLen 4 = 9 := rfl
  go_enter Tryd.func6, Tryd.ntmps6
  go_wp2_with (first | (go_at_call 13; refine (size_any _ _).mono ?_; rintro e w' ⟨rfl, rfl⟩) | (at_builtin; refine wpList_append_own _ rfl (.tmp 17) (.tmp 19) 31 rfl (w.heap.size + 1) 5 i0 (.int .u8 0) 1 1 Tryd.underlying31 hi hz0 hz1 hz2 rfl (by decide) (.slice (some ⟨w.heap.size + 1, 0, none⟩) 2 2) 2 _ rfl hown1 ⟨w.heap.size, 1, none⟩ 8 8 [.int .u8 k0, .int .u8 k1, .int .u8 k2, .int .u8 k3, .int .u8 k4, .int .u8 k5, .int .u8 k6, .int .u8 k7] rfl rfl (src_of hc1 _ (key_src _ _ _ _ _ _ _ _ _ _ _ _ _)) (by simp [Value.oneCell']) (by unfold maxLen; omega) (by omega) (by simp) ?_; intro v2 w2 hown2 hgrow2 _; have hs2 := Nat.lt_of_lt_of_le hs1 hgrow2.size; have hD2 := (Below.refl (w.heap.size + 1) _).grown hgrow2 (Nat.le_of_lt hs1) (fun kk hkk => (hown1.lt kk hkk).1); have hc2 := fun j => (hD2.cell (p := ⟨w.heap.size, j, none⟩) (Nat.lt_succ_self _)).trans (hc1 j)))
  go_ret
  exact ⟨_, rfl, own_down (b := w.heap.size + 1) (by omega) (by simpa using hown2), hB1.trans (hD2.mono (by omega))⟩

set_option maxRecDepth 100000 in
set_option maxHeartbeats 1000000 in
theorem refreq5 (k0 k1 k2 k3 k4 k5 k6 k7 kd x y n : Int) (w : World) :
    Calls Tryd.prog 6 #[.agg #[.int .u8 5, .int .u8 k0, .int .u8 k1, .int .u8 k2, .int .u8 k3, .int .u8 k4, .int .u8 k5, .int .u8 k6, .int .u8 k7, .int .u8 kd, .int .u64 x, .int .u64 y, .int .u64 n]] w
      fun e w' => ∃ v', e = .returned v' ∧ w'.ownsRow w.heap.size 5 1 v' 2 (([1, 5]).map (Value.int .u8)) ∧ Below w.heap.size w w' := by
  obtain ⟨i0, hi, hz0, hz1, hz2⟩ := info_parts Tryd.info5
  have hc1 : ∀ j, ((w.alloc (.cells #[.int .u8 5, .int .u8 k0, .int .u8 k1, .int .u8 k2, .int .u8 k3, .int .u8 k4, .int .u8 k5, .int .u8 k6, .int .u8 k7, .int .u8 kd, .int .u64 x, .int .u64 y, .int .u64 n] 28)).alloc (.cells #[.int .u8 1, .int .u8 5] 5)).cell? ⟨w.heap.size, j, none⟩ = (#[.int .u8 5, .int .u8 k0, .int .u8 k1, .int .u8 k2, .int .u8 k3, .int .u8 k4, .int .u8 k5, .int .u8 k6, .int .u8 k7, .int .u8 kd, .int .u64 x, .int .u64 y, .int .u64 n] : Array Value)[j]? := fun j => (World.cell?_alloc_past _ _ _ (by simp)).trans (cell_box w _ _ j)
  have hown1 : ((w.alloc (.cells #[.int .u8 5, .int .u8 k0, .int .u8 k1, .int .u8 k2, .int .u8 k3, .int .u8 k4, .int .u8 k5, .int .u8 k6, .int .u8 k7, .int .u8 kd, .int .u64 x, .int .u64 y, .int .u64 n] 28)).alloc (.cells #[.int .u8 1, .int .u8 5] 5)).ownsRow (w.heap.size + 1) 5 1 (.slice (some ⟨w.heap.size + 1, 0, none⟩) 2 2) 2 [.int .u8 1, .int .u8 5] := by
    have h := World.ownsRow_lit (base := w.heap.size + 1) (e := 5) (size := 1) (w.alloc (.cells #[.int .u8 5, .int .u8 k0, .int .u8 k1, .int .u8 k2, .int .u8 k3, .int .u8 k4, .int .u8 k5, .int .u8 k6, .int .u8 k7, .int .u8 kd, .int .u64 x, .int .u64 y, .int .u64 n] 28)) #[.int .u8 1, .int .u8 5] 2 (by simp) (by unfold maxLen; omega) rfl
    simpa using h
  have hB1 : Below w.heap.size w ((w.alloc (.cells #[.int .u8 5, .int .u8 k0, .int .u8 k1, .int .u8 k2, .int .u8 k3, .int .u8 k4, .int .u8 k5, .int .u8 k6, .int .u8 k7, .int .u8 kd, .int .u64 x, .int .u64 y, .int .u64 n] 28)).alloc (.cells #[.int .u8 1, .int .u8 5] 5)) := ((Below.refl _ w).alloc (Nat.le_refl _) _).alloc (by simp) _
  have hs1 : w.heap.size + 1 < ((w.alloc (.cells #[.int .u8 5, .int .u8 k0, .int .u8 k1, .int .u8 k2, .int .u8 k3, .int .u8 k4, .int .u8 k5, .int .u8 k6, .int .u8 k7, .int .u8 kd, .int .u64 x, .int .u64 y, .int .u64 n] 28)).alloc (.cells #[.int .u8 1, .int .u8 5] 5)).heap.size := by simp
  have hl : reqLen 5 = 1 := rfl
  go_enter Tryd.func6, Tryd.ntmps6
  go_wp2_with (go_at_call 13; refine (size_any _ _).mono ?_; rintro e w' ⟨rfl, rfl⟩)
  go_ret
  exact ⟨_, rfl, own_down (b := w.heap.size + 1) (by omega) (by simpa using hown1), hB1⟩

set_option maxRecDepth 100000 in
set_option maxHeartbeats 1000000 in
theorem refreq6 (k0 k1 k2 k3 k4 k5 k6 k7 kd x y n : Int) (w : World) :
    Calls Tryd.prog 6 #[.agg #[.int .u8 6, .int .u8 k0, .int .u8 k1, .int .u8 k2, .int .u8 k3, .int .u8 k4, .int .u8 k5, .int .u8 k6, .int .u8 k7, .int .u8 kd, .int .u64 x, .int .u64 y, .int .u64 n]] w
      fun e w' => ∃ v', e = .returned v' ∧ w'.ownsRow w.heap.size 5 1 v' 2 (([1, 6]).map (Value.int .u8)) ∧ Below w.heap.size w w' := by
  obtain ⟨i0, hi, hz0, hz1, hz2⟩ := info_parts Tryd.info5
  have hc1 : ∀ j, ((w.alloc (.cells #[.int .u8 6, .int .u8 k0, .int .u8 k1, .int .u8 k2, .int .u8 k3, .int .u8 k4, .int .u8 k5, .int .u8 k6, .int .u8 k7, .int .u8 kd, .int .u64 x, .int .u64 y, .int .u64 n] 28)).alloc (.cells #[.int .u8 1, .int .u8 6] 5)).cell? ⟨w.heap.size, j, none⟩ = (#[.int .u8 6, .int .u8 k0, .int .u8 k1, .int .u8 k2, .int .u8 k3, .int .u8 k4, .int .u8 k5, .int .u8 k6, .int .u8 k7, .int .u8 kd, .int .u64 x, .int .u64 y, .int .u64 n] : Array Value)[j]? := fun j => (World.cell?_alloc_past _ _ _ (by simp)).trans (cell_box w _ _ j)
  have hown1 : ((w.alloc (.cells #[.int .u8 6, .int .u8 k0, .int .u8 k1, .int .u8 k2, .int .u8 k3, .int .u8 k4, .int .u8 k5, .int .u8 k6, .int .u8 k7, .int .u8 kd, .int .u64 x, .int .u64 y, .int .u64 n] 28)).alloc (.cells #[.int .u8 1, .int .u8 6] 5)).ownsRow (w.heap.size + 1) 5 1 (.slice (some ⟨w.heap.size + 1, 0, none⟩) 2 2) 2 [.int .u8 1, .int .u8 6] := by
    have h := World.ownsRow_lit (base := w.heap.size + 1) (e := 5) (size := 1) (w.alloc (.cells #[.int .u8 6, .int .u8 k0, .int .u8 k1, .int .u8 k2, .int .u8 k3, .int .u8 k4, .int .u8 k5, .int .u8 k6, .int .u8 k7, .int .u8 kd, .int .u64 x, .int .u64 y, .int .u64 n] 28)) #[.int .u8 1, .int .u8 6] 2 (by simp) (by unfold maxLen; omega) rfl
    simpa using h
  have hB1 : Below w.heap.size w ((w.alloc (.cells #[.int .u8 6, .int .u8 k0, .int .u8 k1, .int .u8 k2, .int .u8 k3, .int .u8 k4, .int .u8 k5, .int .u8 k6, .int .u8 k7, .int .u8 kd, .int .u64 x, .int .u64 y, .int .u64 n] 28)).alloc (.cells #[.int .u8 1, .int .u8 6] 5)) := ((Below.refl _ w).alloc (Nat.le_refl _) _).alloc (by simp) _
  have hs1 : w.heap.size + 1 < ((w.alloc (.cells #[.int .u8 6, .int .u8 k0, .int .u8 k1, .int .u8 k2, .int .u8 k3, .int .u8 k4, .int .u8 k5, .int .u8 k6, .int .u8 k7, .int .u8 kd, .int .u64 x, .int .u64 y, .int .u64 n] 28)).alloc (.cells #[.int .u8 1, .int .u8 6] 5)).heap.size := by simp
  have hl : reqLen 6 = 1 := rfl
  go_enter Tryd.func6, Tryd.ntmps6
  go_wp2_with (go_at_call 13; refine (size_any _ _).mono ?_; rintro e w' ⟨rfl, rfl⟩)
  go_ret
  exact ⟨_, rfl, own_down (b := w.heap.size + 1) (by omega) (by simpa using hown1), hB1⟩

set_option maxRecDepth 100000 in
set_option maxHeartbeats 1000000 in
theorem refreq0 (op k0 k1 k2 k3 k4 k5 k6 k7 kd x y n : Int) (w : World) (h : reqLen op = 0) :
    Calls Tryd.prog 6 #[.agg #[.int .u8 op, .int .u8 k0, .int .u8 k1, .int .u8 k2, .int .u8 k3, .int .u8 k4, .int .u8 k5, .int .u8 k6, .int .u8 k7, .int .u8 kd, .int .u64 x, .int .u64 y, .int .u64 n]] w fun e w' => e = .returned (.slice none 0 0) ∧ Below w.heap.size w w' := by
  go_enter Tryd.func6, Tryd.ntmps6
  go_wp2_with (go_at_call 13; refine (size_any _ _).mono ?_; rintro e w' ⟨rfl, rfl⟩)
  go_ret
  exact ⟨rfl, (Below.refl _ w).alloc (Nat.le_refl _) _⟩

theorem refreq_any (op k0 k1 k2 k3 k4 k5 k6 k7 kd x y n : Int) (w : World) (hx0 : 0 ≤ x) (hx1 : x ≤ 18446744073709551615) (hy0 : 0 ≤ y) (hy1 : y ≤ 18446744073709551615) (hn0 : 0 ≤ n) (hn1 : n ≤ 18446744073709551615) :
    Calls Tryd.prog 6 #[.agg #[.int .u8 op, .int .u8 k0, .int .u8 k1, .int .u8 k2, .int .u8 k3, .int .u8 k4, .int .u8 k5, .int .u8 k6, .int .u8 k7, .int .u8 kd, .int .u64 x, .int .u64 y, .int .u64 n]] w
      fun e w' => ∃ v', e = .returned v' ∧ w'.ownsRow w.heap.size 5 1 v' (encReq op k0 k1 k2 k3 k4 k5 k6 k7 kd x y n).length ((encReq op k0 k1 k2 k3 k4 k5 k6 k7 kd x y n).map (Value.int .u8)) ∧ Below w.heap.size w w' := by
  by_cases h1 : op = 1
  · subst h1; exact refreq1 k0 k1 k2 k3 k4 k5 k6 k7 kd x y n w hx0 hx1 hy0 hy1
  by_cases h2 : op = 2
  · subst h2; exact refreq2 k0 k1 k2 k3 k4 k5 k6 k7 kd x y n w hn0 hn1
  by_cases h3 : op = 3
  · subst h3; exact refreq3 k0 k1 k2 k3 k4 k5 k6 k7 kd x y n w
  by_cases h4 : op = 4
  · subst h4; exact refreq4 k0 k1 k2 k3 k4 k5 k6 k7 kd x y n w
  by_cases h5 : op = 5
  · subst h5; exact refreq5 k0 k1 k2 k3 k4 k5 k6 k7 kd x y n w
  by_cases h6 : op = 6
  · subst h6; exact refreq6 k0 k1 k2 k3 k4 k5 k6 k7 kd x y n w
  have h0 : reqLen op = 0 := by simp [reqLen, h1, h2, h3, h4, h5, h6]
  have e0 : encReq op k0 k1 k2 k3 k4 k5 k6 k7 kd x y n = [] := by simp [encReq, h1, h2, h3, h4, h5, h6]
  rw [e0]
  refine (refreq0 op k0 k1 k2 k3 k4 k5 k6 k7 kd x y n w h0).mono ?_
  rintro e w' ⟨rfl, hb⟩
  exact ⟨_, rfl, World.ownsRow_nil _ _ _ _, hb⟩
end Go.Proofs.YtjkepphpahfdgaaDoor
