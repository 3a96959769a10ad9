import Derived.Test.YtlamgpeiolfffaaGreatDoorZy00
set_option linter.unusedSectionVars false
namespace Go.Proofs.YtlamgpeiolfffaaGreatDoor
open Go.RowKit
variable [dK] [iK]

theorem cell_grown {w w' : World} {g : Nat} (h : w.grownBy w' (some g)) {b : Nat} (hb : b < w.heap.size) (hne : b ≠ g) (j : Nat) : w'.cell? ⟨b, j, none⟩ = w.cell? ⟨b, j, none⟩ :=
  World.cell?_of_block (w := w) (h.block b hb (by intro e; injection e with e; exact hne e))
theorem cell_box (w : World) (cs : Array Value) (t : TypeId) (j : Nat) : (w.alloc (.cells cs t)).cell? ⟨w.heap.size, j, none⟩ = cs[j]? := by
  rw [World.cell?_alloc_at _ _ _ _ rfl]
theorem src_of {w : World} {b o : Nat} {cs : Array Value} (hc : ∀ j, w.cell? ⟨b, j, none⟩ = cs[j]?) (news : List Value) (hn : ∀ j u, news[j]? = some u → cs[o + j]? = some u) :
    ∀ j u, news[j]? = some u → w.cell? ((⟨b, o, none⟩ : Addr).add j) = some u := by
  intro j u hj
  rw [Addr.add_lit, hc]; exact hn j u hj

theorem own_down {w : World} {b b' : Nat} {v : Value} {n : Nat} {xs : List Value} (hb : b' ≤ b) (h : w.ownsRow b 5 1 v n xs) : w.ownsRow b' 5 1 v n xs := by
  refine ⟨h.1, ?_⟩
  rcases h.2 with h | ⟨g, cap, cur, h1, h2, h3⟩
  · exact .inl h
  · exact .inr ⟨g, cap, cur, h1, Nat.le_trans hb h2, h3⟩
theorem key_src (v0 a b c d e f g h v9 v10 v11 v12 : Value) : ∀ (j : Nat) u, ([a, b, c, d, e, f, g, h] : List Value)[j]? = some u → (#[v0, a, b, c, d, e, f, g, h, v9, v10, v11, v12] : Array Value)[1 + j]? = some u := by
  intro j u hj
  match j, hj with
  | 0, hj => simpa using hj
  | 1, hj => simpa using hj
  | 2, hj => simpa using hj
  | 3, hj => simpa using hj
  | 4, hj => simpa using hj
  | 5, hj => simpa using hj
  | 6, hj => simpa using hj
  | 7, hj => simpa using hj

set_option maxRecDepth 100000 in
set_option maxHeartbeats 1000000 in
theorem wreq1 (k0 k1 k2 k3 k4 k5 k6 k7 kd x y n : Int) (w : World) (hx0 : 0 ≤ x) (hx1 : x ≤ 18446744073709551615) (hy0 : 0 ≤ y) (hy1 : y ≤ 18446744073709551615) :
    Calls Tryz.prog 40 #[.agg #[.int .u8 1, .int .u8 k0, .int .u8 k1, .int .u8 k2, .int .u8 k3, .int .u8 k4, .int .u8 k5, .int .u8 k6, .int .u8 k7, .int .u8 kd, .int .u64 x, .int .u64 y, .int .u64 n]] w
      fun e w' => e = .returned (.slice (some ⟨w.heap.size + 1, 0, none⟩) 27 27) ∧ w'.ownsRow (w.heap.size + 1) 5 1 (.slice (some ⟨w.heap.size + 1, 0, none⟩) 27 27) 27 (([26, 1, k0, k1, k2, k3, k4, k5, k6, k7, kd] ++ be8 x ++ be8 y).map (Value.int .u8)) ∧ Below w.heap.size w w' := by
  obtain ⟨i0, hi, hz0, hz1, hz2⟩ := info_parts Tryz.info5
  go_enter Tryz.func40, Tryz.ntmps40
  go_wp2_with (first | (go_at_call 62; refine (len_any _ _).mono ?_; rintro e w' ⟨rfl, rfl⟩))
  refine (start_at 26 _ _ (w.heap.size + 1) (by simp) (by omega) (by omega)).mono ?_
  rintro e w1 ⟨rfl, hown1, hb1⟩
  have hs1 : w.heap.size + 1 < w1.heap.size := (hown1.lt (w.heap.size + 1) rfl).2
  have hc1 : ∀ j, w1.cell? ⟨w.heap.size, j, none⟩ = (#[.int .u8 1, .int .u8 k0, .int .u8 k1, .int .u8 k2, .int .u8 k3, .int .u8 k4, .int .u8 k5, .int .u8 k6, .int .u8 k7, .int .u8 kd, .int .u64 x, .int .u64 y, .int .u64 n] : Array Value)[j]? := fun j => (hb1.cell (p := ⟨w.heap.size, j, none⟩) (by simp)).trans (cell_box w _ _ j)
  have hB1 : Below w.heap.size w w1 := ((Below.refl _ w).alloc (Nat.le_refl _) _).trans (hb1.mono (by omega))
  clear hb1
  go_wp2_with (first | (at_builtin; refine wpList_append_fits _ rfl (.tmp 18) (.tmp 20) 69 rfl (w.heap.size + 1) 5 i0 1 Tryz.underlying69 hi hz1 (w.heap.size + 1) 2 27 _ rfl hown1 ⟨w.heap.size, 1, none⟩ 8 8 [.int .u8 k0, .int .u8 k1, .int .u8 k2, .int .u8 k3, .int .u8 k4, .int .u8 k5, .int .u8 k6, .int .u8 k7] rfl rfl (src_of hc1 _ (key_src _ _ _ _ _ _ _ _ _ _ _ _ _)) (by simp [Value.oneCell']) (by omega) ?_; intro w2 hown2 hgrow2; have hc2 := fun j => (cell_grown hgrow2 (b := w.heap.size) (by omega) (by omega) j).trans (hc1 j)) | (at_builtin; refine wpList_append_fits _ rfl (.tmp 22) (.tmp 26) 69 rfl (w.heap.size + 1) 5 i0 1 Tryz.underlying69 hi hz1 (w.heap.size + 1) 10 27 _ rfl (hown2.alloc _) ⟨w2.heap.size, 0, none⟩ 1 1 [.int .u8 kd] rfl rfl (cell_one_new _ _ _) (by simp [Value.oneCell']) (by omega) ?_; intro w3 hown3 hgrow3; have hs2 := hgrow2.size; have hc3 := fun j => (cell_grown hgrow3 (b := w.heap.size) (by simp; omega) (by omega) j).trans ((World.cell?_alloc_lt w2 _ ⟨w.heap.size, j, none⟩ (show w.heap.size < w2.heap.size by omega)).trans (hc2 j))))
  refine (num_any (w.heap.size + 1) 11 27 (w.heap.size + 1) _ _ _ hown3 (by omega) hx0 hx1).mono ?_
  rintro e w4 ⟨rfl, hown4, hgrow4⟩
  have hs3 := hgrow3.size
  simp only [World.size_alloc] at hs3
  have hs4 := hgrow4.size
  have hc4 := fun j => (cell_grown hgrow4 (b := w.heap.size) (by omega) (by omega) j).trans (hc3 j)
  go_wp2_with fail
  refine (num_any (w.heap.size + 1) 19 27 (w.heap.size + 1) _ _ _ hown4 (by omega) hy0 hy1).mono ?_
  rintro e w5 ⟨rfl, hown5, hgrow5⟩
  go_wp2
  go_ret
  refine ⟨rfl, hown5, ?_⟩
  exact (((((hB1.grown hgrow2 (by omega) (by simp)).alloc (by omega) _).grown hgrow3 (by simp; omega) (by simp)).grown hgrow4 (by omega) (by simp)).grown hgrow5 (by omega) (by simp))

set_option maxRecDepth 100000 in
set_option maxHeartbeats 1000000 in
theorem wreq2 (k0 k1 k2 k3 k4 k5 k6 k7 kd x y n : Int) (w : World) (hn0 : 0 ≤ n) (hn1 : n ≤ 18446744073709551615) :
    Calls Tryz.prog 40 #[.agg #[.int .u8 2, .int .u8 k0, .int .u8 k1, .int .u8 k2, .int .u8 k3, .int .u8 k4, .int .u8 k5, .int .u8 k6, .int .u8 k7, .int .u8 kd, .int .u64 x, .int .u64 y, .int .u64 n]] w
      fun e w' => e = .returned (.slice (some ⟨w.heap.size + 1, 0, none⟩) 18 18) ∧ w'.ownsRow (w.heap.size + 1) 5 1 (.slice (some ⟨w.heap.size + 1, 0, none⟩) 18 18) 18 (([17, 2, k0, k1, k2, k3, k4, k5, k6, k7] ++ be8 n).map (Value.int .u8)) ∧ Below w.heap.size w w' := by
  obtain ⟨i0, hi, hz0, hz1, hz2⟩ := info_parts Tryz.info5
  go_enter Tryz.func40, Tryz.ntmps40
  go_wp2_with (first | (go_at_call 62; refine (len_any _ _).mono ?_; rintro e w' ⟨rfl, rfl⟩))
  refine (start_at 17 _ _ (w.heap.size + 1) (by simp) (by omega) (by omega)).mono ?_
  rintro e w1 ⟨rfl, hown1, hb1⟩
  have hs1 : w.heap.size + 1 < w1.heap.size := (hown1.lt (w.heap.size + 1) rfl).2
  have hc1 : ∀ j, w1.cell? ⟨w.heap.size, j, none⟩ = (#[.int .u8 2, .int .u8 k0, .int .u8 k1, .int .u8 k2, .int .u8 k3, .int .u8 k4, .int .u8 k5, .int .u8 k6, .int .u8 k7, .int .u8 kd, .int .u64 x, .int .u64 y, .int .u64 n] : Array Value)[j]? := fun j => (hb1.cell (p := ⟨w.heap.size, j, none⟩) (by simp)).trans (cell_box w _ _ j)
  have hB1 : Below w.heap.size w w1 := ((Below.refl _ w).alloc (Nat.le_refl _) _).trans (hb1.mono (by omega))
  clear hb1
  go_wp2_with (at_builtin; refine wpList_append_fits _ rfl (.tmp 40) (.tmp 42) 69 rfl (w.heap.size + 1) 5 i0 1 Tryz.underlying69 hi hz1 (w.heap.size + 1) 2 18 _ rfl hown1 ⟨w.heap.size, 1, none⟩ 8 8 [.int .u8 k0, .int .u8 k1, .int .u8 k2, .int .u8 k3, .int .u8 k4, .int .u8 k5, .int .u8 k6, .int .u8 k7] rfl rfl (src_of hc1 _ (key_src _ _ _ _ _ _ _ _ _ _ _ _ _)) (by simp [Value.oneCell']) (by omega) ?_; intro w2 hown2 hgrow2; have hc2 := fun j => (cell_grown hgrow2 (b := w.heap.size) (by omega) (by omega) j).trans (hc1 j))
  have hs2 := hgrow2.size
  refine (num_any (w.heap.size + 1) 10 18 (w.heap.size + 1) _ _ _ hown2 (by omega) hn0 hn1).mono ?_
  rintro e w3 ⟨rfl, hown3, hgrow3⟩
  go_wp2
  go_ret
  refine ⟨rfl, hown3, ?_⟩
  exact (hB1.grown hgrow2 (by omega) (by simp)).grown hgrow3 (by omega) (by simp)

set_option maxRecDepth 100000 in
set_option maxHeartbeats 1000000 in
theorem wreq3 (k0 k1 k2 k3 k4 k5 k6 k7 kd x y n : Int) (w : World) :
    Calls Tryz.prog 40 #[.agg #[.int .u8 3, .int .u8 k0, .int .u8 k1, .int .u8 k2, .int .u8 k3, .int .u8 k4, .int .u8 k5, .int .u8 k6, .int .u8 k7, .int .u8 kd, .int .u64 x, .int .u64 y, .int .u64 n]] w
      fun e w' => e = .returned (.slice (some ⟨w.heap.size + 1, 0, none⟩) 10 10) ∧ w'.ownsRow (w.heap.size + 1) 5 1 (.slice (some ⟨w.heap.size + 1, 0, none⟩) 10 10) 10 (([9, 3, k0, k1, k2, k3, k4, k5, k6, k7]).map (Value.int .u8)) ∧ Below w.heap.size w w' := by
  obtain ⟨i0, hi, hz0, hz1, hz2⟩ := info_parts Tryz.info5
  go_enter Tryz.func40, Tryz.ntmps40
  go_wp2_with (first | (go_at_call 62; refine (len_any _ _).mono ?_; rintro e w' ⟨rfl, rfl⟩))
  refine (start_at 9 _ _ (w.heap.size + 1) (by simp) (by omega) (by omega)).mono ?_
  rintro e w1 ⟨rfl, hown1, hb1⟩
  have hs1 : w.heap.size + 1 < w1.heap.size := (hown1.lt (w.heap.size + 1) rfl).2
  have hc1 : ∀ j, w1.cell? ⟨w.heap.size, j, none⟩ = (#[.int .u8 3, .int .u8 k0, .int .u8 k1, .int .u8 k2, .int .u8 k3, .int .u8 k4, .int .u8 k5, .int .u8 k6, .int .u8 k7, .int .u8 kd, .int .u64 x, .int .u64 y, .int .u64 n] : Array Value)[j]? := fun j => (hb1.cell (p := ⟨w.heap.size, j, none⟩) (by simp)).trans (cell_box w _ _ j)
  have hB1 : Below w.heap.size w w1 := ((Below.refl _ w).alloc (Nat.le_refl _) _).trans (hb1.mono (by omega))
  clear hb1
  go_wp2_with (at_builtin; refine wpList_append_fits _ rfl (.tmp 51) (.tmp 53) 69 rfl (w.heap.size + 1) 5 i0 1 Tryz.underlying69 hi hz1 (w.heap.size + 1) 2 10 _ rfl hown1 ⟨w.heap.size, 1, none⟩ 8 8 [.int .u8 k0, .int .u8 k1, .int .u8 k2, .int .u8 k3, .int .u8 k4, .int .u8 k5, .int .u8 k6, .int .u8 k7] rfl rfl (src_of hc1 _ (key_src _ _ _ _ _ _ _ _ _ _ _ _ _)) (by simp [Value.oneCell']) (by omega) ?_; intro w2 hown2 hgrow2; have hc2 := fun j => (cell_grown hgrow2 (b := w.heap.size) (by omega) (by omega) j).trans (hc1 j))
  go_ret
  exact ⟨rfl, hown2, hB1.grown hgrow2 (by omega) (by simp)⟩

set_option maxRecDepth 100000 in
set_option maxHeartbeats 1000000 in
theorem wreq4 (k0 k1 k2 k3 k4 k5 k6 k7 kd x y n : Int) (w : World) :
    Calls Tryz.prog 40 #[.agg #[.int .u8 4, .int .u8 k0, .int .u8 k1, .int .u8 k2, .int .u8 k3, .int .u8 k4, .int .u8 k5, .int .u8 k6, .int .u8 k7, .int .u8 kd, .int .u64 x, .int .u64 y, .int .u64 n]] w
      fun e w' => e = .returned (.slice (some ⟨w.heap.size + 1, 0, none⟩) 10 10) ∧ w'.ownsRow (w.heap.size + 1) 5 1 (.slice (some ⟨w.heap.size + 1, 0, none⟩) 10 10) 10 (([9, 4, k0, k1, k2, k3, k4, k5, k6, k7]).map (Value.int .u8)) ∧ Below w.heap.size w w' := by
  obtain ⟨i0, hi, hz0, hz1, hz2⟩ := info_parts Tryz.info5
  go_enter Tryz.func40, Tryz.ntmps40
  go_wp2_with (first | (go_at_call 62; refine (len_any _ _).mono ?_; rintro e w' ⟨rfl, rfl⟩))
  refine (start_at 9 _ _ (w.heap.size + 1) (by simp) (by omega) (by omega)).mono ?_
  rintro e w1 ⟨rfl, hown1, hb1⟩
  have hs1 : w.heap.size + 1 < w1.heap.size := (hown1.lt (w.heap.size + 1) rfl).2
  have hc1 : ∀ j, w1.cell? ⟨w.heap.size, j, none⟩ = (#[.int .u8 4, .int .u8 k0, .int .u8 k1, .int .u8 k2, .int .u8 k3, .int .u8 k4, .int .u8 k5, .int .u8 k6, .int .u8 k7, .int .u8 kd, .int .u64 x, .int .u64 y, .int .u64 n] : Array Value)[j]? := fun j => (hb1.cell (p := ⟨w.heap.size, j, none⟩) (by simp)).trans (cell_box w _ _ j)
  have hB1 : Below w.heap.size w w1 := ((Below.refl _ w).alloc (Nat.le_refl _) _).trans (hb1.mono (by omega))
  clear hb1
  go_wp2_with (at_builtin; refine wpList_append_fits _ rfl (.tmp 51) (.tmp 53) 69 rfl (w.heap.size + 1) 5 i0 1 Tryz.underlying69 hi hz1 (w.heap.size + 1) 2 10 _ rfl hown1 ⟨w.heap.size, 1, none⟩ 8 8 [.int .u8 k0, .int .u8 k1, .int .u8 k2, .int .u8 k3, .int .u8 k4, .int .u8 k5, .int .u8 k6, .int .u8 k7] rfl rfl (src_of hc1 _ (key_src _ _ _ _ _ _ _ _ _ _ _ _ _)) (by simp [Value.oneCell']) (by omega) ?_; intro w2 hown2 hgrow2; have hc2 := fun j => (cell_grown hgrow2 (b := w.heap.size) (by omega) (by omega) j).trans (hc1 j))
  go_ret
  exact ⟨rfl, hown2, hB1.grown hgrow2 (by omega) (by simp)⟩

set_option maxRecDepth 100000 in
set_option maxHeartbeats 1000000 in
theorem wreq5 (k0 k1 k2 k3 k4 k5 k6 k7 kd x y n : Int) (w : World) :
    Calls Tryz.prog 40 #[.agg #[.int .u8 5, .int .u8 k0, .int .u8 k1, .int .u8 k2, .int .u8 k3, .int .u8 k4, .int .u8 k5, .int .u8 k6, .int .u8 k7, .int .u8 kd, .int .u64 x, .int .u64 y, .int .u64 n]] w
      fun e w' => e = .returned (.slice (some ⟨w.heap.size + 1, 0, none⟩) 2 2) ∧ w'.ownsRow (w.heap.size + 1) 5 1 (.slice (some ⟨w.heap.size + 1, 0, none⟩) 2 2) 2 (([1, 5]).map (Value.int .u8)) ∧ Below w.heap.size w w' := by
  obtain ⟨i0, hi, hz0, hz1, hz2⟩ := info_parts Tryz.info5
  go_enter Tryz.func40, Tryz.ntmps40
  go_wp2_with (first | (go_at_call 62; refine (len_any _ _).mono ?_; rintro e w' ⟨rfl, rfl⟩))
  refine (start_at 1 _ _ (w.heap.size + 1) (by simp) (by omega) (by omega)).mono ?_
  rintro e w1 ⟨rfl, hown1, hb1⟩
  have hs1 : w.heap.size + 1 < w1.heap.size := (hown1.lt (w.heap.size + 1) rfl).2
  have hc1 : ∀ j, w1.cell? ⟨w.heap.size, j, none⟩ = (#[.int .u8 5, .int .u8 k0, .int .u8 k1, .int .u8 k2, .int .u8 k3, .int .u8 k4, .int .u8 k5, .int .u8 k6, .int .u8 k7, .int .u8 kd, .int .u64 x, .int .u64 y, .int .u64 n] : Array Value)[j]? := fun j => (hb1.cell (p := ⟨w.heap.size, j, none⟩) (by simp)).trans (cell_box w _ _ j)
  have hB1 : Below w.heap.size w w1 := ((Below.refl _ w).alloc (Nat.le_refl _) _).trans (hb1.mono (by omega))
  clear hb1
  go_wp2
  go_ret
  exact ⟨rfl, hown1, hB1⟩

set_option maxRecDepth 100000 in
set_option maxHeartbeats 1000000 in
theorem wreq6 (k0 k1 k2 k3 k4 k5 k6 k7 kd x y n : Int) (w : World) :
    Calls Tryz.prog 40 #[.agg #[.int .u8 6, .int .u8 k0, .int .u8 k1, .int .u8 k2, .int .u8 k3, .int .u8 k4, .int .u8 k5, .int .u8 k6, .int .u8 k7, .int .u8 kd, .int .u64 x, .int .u64 y, .int .u64 n]] w
      fun e w' => e = .returned (.slice (some ⟨w.heap.size + 1, 0, none⟩) 2 2) ∧ w'.ownsRow (w.heap.size + 1) 5 1 (.slice (some ⟨w.heap.size + 1, 0, none⟩) 2 2) 2 (([1, 6]).map (Value.int .u8)) ∧ Below w.heap.size w w' := by
  obtain ⟨i0, hi, hz0, hz1, hz2⟩ := info_parts Tryz.info5
  go_enter Tryz.func40, Tryz.ntmps40
  go_wp2_with (first | (go_at_call 62; refine (len_any _ _).mono ?_; rintro e w' ⟨rfl, rfl⟩))
  refine (start_at 1 _ _ (w.heap.size + 1) (by simp) (by omega) (by omega)).mono ?_
  rintro e w1 ⟨rfl, hown1, hb1⟩
  have hs1 : w.heap.size + 1 < w1.heap.size := (hown1.lt (w.heap.size + 1) rfl).2
  have hc1 : ∀ j, w1.cell? ⟨w.heap.size, j, none⟩ = (#[.int .u8 6, .int .u8 k0, .int .u8 k1, .int .u8 k2, .int .u8 k3, .int .u8 k4, .int .u8 k5, .int .u8 k6, .int .u8 k7, .int .u8 kd, .int .u64 x, .int .u64 y, .int .u64 n] : Array Value)[j]? := fun j => (hb1.cell (p := ⟨w.heap.size, j, none⟩) (by simp)).trans (cell_box w _ _ j)
  have hB1 : Below w.heap.size w w1 := ((Below.refl _ w).alloc (Nat.le_refl _) _).trans (hb1.mono (by omega))
  clear hb1
  go_wp2
  go_ret
  exact ⟨rfl, hown1, hB1⟩

set_option maxRecDepth 100000 in
set_option maxHeartbeats 1000000 in
theorem wreq0 (op k0 k1 k2 k3 k4 k5 k6 k7 kd x y n : Int) (w : World) (h : reqLen op = 0) :
    Calls Tryz.prog 40 #[.agg #[.int .u8 op, .int .u8 k0, .int .u8 k1, .int .u8 k2, .int .u8 k3, .int .u8 k4, .int .u8 k5, .int .u8 k6, .int .u8 k7, .int .u8 kd, .int .u64 x, .int .u64 y, .int .u64 n]] w
      fun e w' => e = .returned (.slice none 0 0) ∧ Below w.heap.size w w' := by
  go_enter Tryz.func40, Tryz.ntmps40
  go_wp2_with (first | (go_at_call 62; refine (len_any _ _).mono ?_; rintro e w' ⟨rfl, rfl⟩))
  go_ret
  exact ⟨rfl, (Below.refl _ w).alloc (Nat.le_refl _) _⟩

/-- The bytes of a request, by the document (P3). -/
def encReq (op k0 k1 k2 k3 k4 k5 k6 k7 kd x y n : Int) : List Int :=
  if op = 1 then [26, 1, k0, k1, k2, k3, k4, k5, k6, k7, kd] ++ be8 x ++ be8 y
  else if op = 2 then [17, 2, k0, k1, k2, k3, k4, k5, k6, k7] ++ be8 n
  else if op = 3 ∨ op = 4 then [9, op, k0, k1, k2, k3, k4, k5, k6, k7]
  else if op = 5 ∨ op = 6 then [1, op]
  else []
theorem encReq_length (op k0 k1 k2 k3 k4 k5 k6 k7 kd x y n : Int) : ((encReq op k0 k1 k2 k3 k4 k5 k6 k7 kd x y n).length : Int) = if reqLen op = 0 then 0 else reqLen op + 1 := by
  unfold encReq reqLen
  repeat' split
  all_goals first | rfl | omega

theorem wreq_any (op k0 k1 k2 k3 k4 k5 k6 k7 kd x y n : Int) (w : World) (hx0 : 0 ≤ x) (hx1 : x ≤ 18446744073709551615) (hy0 : 0 ≤ y) (hy1 : y ≤ 18446744073709551615) (hn0 : 0 ≤ n) (hn1 : n ≤ 18446744073709551615) :
    Calls Tryz.prog 40 #[.agg #[.int .u8 op, .int .u8 k0, .int .u8 k1, .int .u8 k2, .int .u8 k3, .int .u8 k4, .int .u8 k5, .int .u8 k6, .int .u8 k7, .int .u8 kd, .int .u64 x, .int .u64 y, .int .u64 n]] w
      fun e w' => Below w.heap.size w w' ∧ ((reqLen op = 0 ∧ e = .returned (.slice none 0 0)) ∨
        (reqLen op ≠ 0 ∧ ∃ g L, w.heap.size ≤ g ∧ L = (encReq op k0 k1 k2 k3 k4 k5 k6 k7 kd x y n).length ∧ e = .returned (.slice (some ⟨g, 0, none⟩) L L) ∧ w'.ownsRow w.heap.size 5 1 (.slice (some ⟨g, 0, none⟩) L L) L ((encReq op k0 k1 k2 k3 k4 k5 k6 k7 kd x y n).map (Value.int .u8)))) := by
  by_cases h1 : op = 1
  · subst h1
    refine (wreq1 k0 k1 k2 k3 k4 k5 k6 k7 kd x y n w hx0 hx1 hy0 hy1).mono ?_
    rintro e w' ⟨rfl, ho, hb⟩
    exact ⟨hb, .inr ⟨by decide, w.heap.size + 1, 27, by omega, rfl, rfl, own_down (by omega) ho⟩⟩
  by_cases h2 : op = 2
  · subst h2
    refine (wreq2 k0 k1 k2 k3 k4 k5 k6 k7 kd x y n w hn0 hn1).mono ?_
    rintro e w' ⟨rfl, ho, hb⟩
    exact ⟨hb, .inr ⟨by decide, w.heap.size + 1, 18, by omega, rfl, rfl, own_down (by omega) ho⟩⟩
  by_cases h3 : op = 3
  · subst h3
    refine (wreq3 k0 k1 k2 k3 k4 k5 k6 k7 kd x y n w).mono ?_
    rintro e w' ⟨rfl, ho, hb⟩
    exact ⟨hb, .inr ⟨by decide, w.heap.size + 1, 10, by omega, rfl, rfl, own_down (by omega) ho⟩⟩
  by_cases h4 : op = 4
  · subst h4
    refine (wreq4 k0 k1 k2 k3 k4 k5 k6 k7 kd x y n w).mono ?_
    rintro e w' ⟨rfl, ho, hb⟩
    exact ⟨hb, .inr ⟨by decide, w.heap.size + 1, 10, by omega, rfl, rfl, own_down (by omega) ho⟩⟩
  by_cases h5 : op = 5
  · subst h5
    refine (wreq5 k0 k1 k2 k3 k4 k5 k6 k7 kd x y n w).mono ?_
    rintro e w' ⟨rfl, ho, hb⟩
    exact ⟨hb, .inr ⟨by decide, w.heap.size + 1, 2, by omega, rfl, rfl, own_down (by omega) ho⟩⟩
  by_cases h6 : op = 6
  · subst h6
    refine (wreq6 k0 k1 k2 k3 k4 k5 k6 k7 kd x y n w).mono ?_
    rintro e w' ⟨rfl, ho, hb⟩
    exact ⟨hb, .inr ⟨by decide, w.heap.size + 1, 2, by omega, rfl, rfl, own_down (by omega) ho⟩⟩
  have h0 : reqLen op = 0 := by simp [reqLen, h1, h2, h3, h4, h5, h6]
  refine (wreq0 op k0 k1 k2 k3 k4 k5 k6 k7 kd x y n w h0).mono ?_
  rintro e w' ⟨rfl, hb⟩
  exact ⟨hb, .inl ⟨h0, rfl⟩⟩

set_option maxRecDepth 100000 in
set_option maxHeartbeats 1000000 in
theorem request_any (op k0 k1 k2 k3 k4 k5 k6 k7 kd x y n : Int) (w : World) (hx0 : 0 ≤ x) (hx1 : x ≤ 18446744073709551615) (hy0 : 0 ≤ y) (hy1 : y ≤ 18446744073709551615) (hn0 : 0 ≤ n) (hn1 : n ≤ 18446744073709551615) :
    Calls Tryz.prog 24 #[.agg #[.int .u8 op, .int .u8 k0, .int .u8 k1, .int .u8 k2, .int .u8 k3, .int .u8 k4, .int .u8 k5, .int .u8 k6, .int .u8 k7, .int .u8 kd, .int .u64 x, .int .u64 y, .int .u64 n]] w
      fun e w' => Below w.heap.size w w' ∧ ((reqLen op = 0 ∧ e = .returned (.slice none 0 0)) ∨
        (reqLen op ≠ 0 ∧ ∃ g L, w.heap.size ≤ g ∧ L = (encReq op k0 k1 k2 k3 k4 k5 k6 k7 kd x y n).length ∧ e = .returned (.slice (some ⟨g, 0, none⟩) L L) ∧ w'.ownsRow w.heap.size 5 1 (.slice (some ⟨g, 0, none⟩) L L) L ((encReq op k0 k1 k2 k3 k4 k5 k6 k7 kd x y n).map (Value.int .u8)))) := by
  go_enter Tryz.func24, Tryz.ntmps24
  go_wp2_with fail
  refine (wreq_any op k0 k1 k2 k3 k4 k5 k6 k7 kd x y n _ hx0 hx1 hy0 hy1 hn0 hn1).mono ?_
  rintro e w' ⟨hb, ⟨h, rfl⟩ | ⟨h, g, L, hg, hL, rfl, ho⟩⟩
  · go_wp2
    go_ret
    exact ⟨((Below.refl _ w).alloc (Nat.le_refl _) _).trans (hb.mono (by simp)), .inl ⟨h, rfl⟩⟩
  · have HL := hide hL
    clear hL
    go_wp2
    go_ret
    exact ⟨((Below.refl _ w).alloc (Nat.le_refl _) _).trans (hb.mono (by simp)), .inr ⟨h, g, L, by simp at hg; omega, unhide HL, rfl, own_down (by simp) ho⟩⟩
end Go.Proofs.YtlamgpeiolfffaaGreatDoor
