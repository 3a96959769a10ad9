import Derived.Test.YtnlgndpcddngoaaGreatDoorZc03
import Derived.Test.YtnlgndpcddngoaaGreatDoorZc00
import Derived.Test.YtnlgndpcddngoaaGreatDoorZc05
set_option linter.unusedSectionVars false
namespace Go.Proofs.YtnlgndpcddngoaaGreatDoor
open Go.RowKit
variable [dK] [iK]

theorem cell_grown {w w' : World} {g : Nat} (h : w.grownBy w' (some g)) {b : Nat} (hb : b < w.heap.size) (hne : b ≠ g) (j : Nat) : w'.cell? ⟨b, j, none⟩ = w.cell? ⟨b, j, none⟩ :=
  World.cell?_of_block (w := w) (h.block b hb (by intro e; injection e with e; exact hne e))
theorem cell_box (w : World) (cs : Array Value) (t : TypeId) (j : Nat) : (w.alloc (.cells cs t)).cell? ⟨w.heap.size, j, none⟩ = cs[j]? := by
  rw [World.cell?_alloc_at _ _ _ _ rfl]
theorem src_of {w : World} {b o : Nat} {cs : Array Value} (hc : ∀ j, w.cell? ⟨b, j, none⟩ = cs[j]?) (news : List Value) (hn : ∀ j u, news[j]? = some u → cs[o + j]? = some u) :
    ∀ j u, news[j]? = some u → w.cell? ((⟨b, o, none⟩ : Addr).add j) = some u := by
  intro j u hj
  rw [Addr.add_lit, hc]; exact hn j u hj

theorem own_down {w : World} {b b' : Nat} {v : Value} {n : Nat} {xs : List Value} (hb : b' ≤ b) (h : w.ownsRow b 5 1 v n xs) : w.ownsRow b' 5 1 v n xs := by
  refine ⟨h.1, ?_⟩
  rcases h.2 with h | ⟨g, cap, cur, h1, h2, h3⟩
  · exact .inl h
  · exact .inr ⟨g, cap, cur, h1, Nat.le_trans hb h2, h3⟩
theorem key_src (v0 a b c d e f g h v9 v10 v11 v12 : Value) : ∀ (j : Nat) u, ([a, b, c, d, e, f, g, h] : List Value)[j]? = some u → (#[v0, a, b, c, d, e, f, g, h, v9, v10, v11, v12] : Array Value)[1 + j]? = some u := by
  intro j u hj
  match j, hj with
  | 0, hj => simpa using hj
  | 1, hj => simpa using hj
  | 2, hj => simpa using hj
  | 3, hj => simpa using hj
  | 4, hj => simpa using hj
  | 5, hj => simpa using hj
  | 6, hj => simpa using hj
  | 7, hj => simpa using hj

set_option maxRecDepth 100000 in
set_option maxHeartbeats 1000000 in
theorem wreq1 (k0 k1 k2 k3 k4 k5 k6 k7 kd x y n : Int) (w : World) (hx0 : 0 ≤ x) (hx1 : x ≤ 18446744073709551615) (hy0 : 0 ≤ y) (hy1 : y ≤ 18446744073709551615) :
    Calls Tryz.prog 44 #[.agg #[.int .u8 1, .int .u8 k0, .int .u8 k1, .int .u8 k2, .int .u8 k3, .int .u8 k4, .int .u8 k5, .int .u8 k6, .int .u8 k7, .int .u8 kd, .int .u64 x, .int .u64 y, .int .u64 n]] w
      fun e w' => e = .returned (.slice (some ⟨w.heap.size + 1, 0, none⟩) 27 27) ∧ w'.ownsRow (w.heap.size + 1) 5 1 (.slice (some ⟨w.heap.size + 1, 0, none⟩) 27 27) 27 (([26, 1, k0, k1, k2, k3, k4, k5, k6, k7, kd] ++ be8 x ++ be8 y).map (Value.int .u8)) ∧ Below w.heap.size w w' := by
  obtain ⟨i0, hi, hz0, hz1, hz2⟩ := info_parts Tryz.info5
  go_enter Tryz.func44, Tryz.ntmps44
  go_wp2_with (first | (go_at_call 66; refine (len_any _ _).mono ?_; rintro e w' ⟨rfl, rfl⟩))
  refine (start_at 26 _ _ (w.heap.size + 1) (by simp) (by omega) (by omega)).mono ?_
  rintro e w1 ⟨rfl, hown1, hb1⟩
  have hs1 : w.heap.size + 1 < w1.heap.size := (hown1.lt (w.heap.size + 1) rfl).2
  have hc1 : ∀ j, w1.cell? ⟨w.heap.size, j, none⟩ = (#[.int .u8 1, .int .u8 k0, .int .u8 k1, .int .u8 k2, .int .u8 k3, .int .u8 k4, .int .u8 k5, .int .u8 k6, .int .u8 k7, .int .u8 kd, .int .u64 x, .int .u64 y, .int .u64 n] : Array Value)[j]? := fun j => (hb1.cell (p := ⟨w.heap.size, j, none⟩) (by simp)).trans (cell_box w _ _ j)
  have hB1 : Below w.heap.size w w1 := ((Below.refl _ w).alloc (Nat.le_refl _) _).trans (hb1.mono (by omega))
  clear hb1
  go_wp2_with (first | (at_builtin; refine wpList_append_fits _ rfl (.tmp 18) (.tmp 20) 76 rfl (w.heap.size + 1) 5 i0 1 Tryz.underlying76 hi hz1 (w.heap.size + 1) 2 27 _ rfl hown1 ⟨w.heap.size, 1, none⟩ 8 8 [.int .u8 k0, .int .u8 k1, .int .u8 k2, .int .u8 k3, .int .u8 k4, .int .u8 k5, .int .u8 k6, .int .u8 k7] rfl rfl (src_of hc1 _ (key_src _ _ _ _ _ _ _ _ _ _ _ _ _)) (by simp [Value.oneCell']) (by omega) ?_; intro w2 hown2 hgrow2; have hc2 := fun j => (cell_grown hgrow2 (b := w.heap.size) (by omega) (by omega) j).trans (hc1 j)))
  have hs2 := hgrow2.size
  refine (apol_any (w.heap.size + 1) 10 27 (w.heap.size + 1) _ kd x y _ hown2 (by omega) hx0 hx1 hy0 hy1).mono ?_
  rintro e w5 ⟨rfl, hown5, hgrow5⟩
  go_wp2
  go_ret
  refine ⟨rfl, by simpa using hown5, ?_⟩
  exact (hB1.grown hgrow2 (by omega) (by simp)).grown hgrow5 (by omega) (by simp)

set_option maxRecDepth 100000 in
set_option maxHeartbeats 1000000 in
theorem wreq2 (k0 k1 k2 k3 k4 k5 k6 k7 kd x y n : Int) (w : World) (hn0 : 0 ≤ n) (hn1 : n ≤ 18446744073709551615) :
    Calls Tryz.prog 44 #[.agg #[.int .u8 2, .int .u8 k0, .int .u8 k1, .int .u8 k2, .int .u8 k3, .int .u8 k4, .int .u8 k5, .int .u8 k6, .int .u8 k7, .int .u8 kd, .int .u64 x, .int .u64 y, .int .u64 n]] w
      fun e w' => e = .returned (.slice (some ⟨w.heap.size + 1, 0, none⟩) 18 18) ∧ w'.ownsRow (w.heap.size + 1) 5 1 (.slice (some ⟨w.heap.size + 1, 0, none⟩) 18 18) 18 (([17, 2, k0, k1, k2, k3, k4, k5, k6, k7] ++ be8 n).map (Value.int .u8)) ∧ Below w.heap.size w w' := by
  obtain ⟨i0, hi, hz0, hz1, hz2⟩ := info_parts Tryz.info5
  go_enter Tryz.func44, Tryz.ntmps44
  go_wp2_with (first | (go_at_call 66; refine (len_any _ _).mono ?_; rintro e w' ⟨rfl, rfl⟩))
  refine (start_at 17 _ _ (w.heap.size + 1) (by simp) (by omega) (by omega)).mono ?_
  rintro e w1 ⟨rfl, hown1, hb1⟩
  have hs1 : w.heap.size + 1 < w1.heap.size := (hown1.lt (w.heap.size + 1) rfl).2
  have hc1 : ∀ j, w1.cell? ⟨w.heap.size, j, none⟩ = (#[.int .u8 2, .int .u8 k0, .int .u8 k1, .int .u8 k2, .int .u8 k3, .int .u8 k4, .int .u8 k5, .int .u8 k6, .int .u8 k7, .int .u8 kd, .int .u64 x, .int .u64 y, .int .u64 n] : Array Value)[j]? := fun j => (hb1.cell (p := ⟨w.heap.size, j, none⟩) (by simp)).trans (cell_box w _ _ j)
  have hB1 : Below w.heap.size w w1 := ((Below.refl _ w).alloc (Nat.le_refl _) _).trans (hb1.mono (by omega))
  clear hb1
  go_wp2_with (at_builtin; refine wpList_append_fits _ rfl (.tmp 28) (.tmp 30) 76 rfl (w.heap.size + 1) 5 i0 1 Tryz.underlying76 hi hz1 (w.heap.size + 1) 2 18 _ rfl hown1 ⟨w.heap.size, 1, none⟩ 8 8 [.int .u8 k0, .int .u8 k1, .int .u8 k2, .int .u8 k3, .int .u8 k4, .int .u8 k5, .int .u8 k6, .int .u8 k7] rfl rfl (src_of hc1 _ (key_src _ _ _ _ _ _ _ _ _ _ _ _ _)) (by simp [Value.oneCell']) (by omega) ?_; intro w2 hown2 hgrow2; have hc2 := fun j => (cell_grown hgrow2 (b := w.heap.size) (by omega) (by omega) j).trans (hc1 j))
  have hs2 := hgrow2.size
  refine (num_any (w.heap.size + 1) 10 18 (w.heap.size + 1) _ _ _ hown2 (by omega) hn0 hn1).mono ?_
  rintro e w3 ⟨rfl, hown3, hgrow3⟩
  go_wp2
  go_ret
  refine ⟨rfl, hown3, ?_⟩
  exact (hB1.grown hgrow2 (by omega) (by simp)).grown hgrow3 (by omega) (by simp)

set_option maxRecDepth 100000 in
set_option maxHeartbeats 1000000 in
theorem wreq3 (k0 k1 k2 k3 k4 k5 k6 k7 kd x y n : Int) (w : World) :
    Calls Tryz.prog 44 #[.agg #[.int .u8 3, .int .u8 k0, .int .u8 k1, .int .u8 k2, .int .u8 k3, .int .u8 k4, .int .u8 k5, .int .u8 k6, .int .u8 k7, .int .u8 kd, .int .u64 x, .int .u64 y, .int .u64 n]] w
      fun e w' => e = .returned (.slice (some ⟨w.heap.size + 1, 0, none⟩) 10 10) ∧ w'.ownsRow (w.heap.size + 1) 5 1 (.slice (some ⟨w.heap.size + 1, 0, none⟩) 10 10) 10 (([9, 3, k0, k1, k2, k3, k4, k5, k6, k7]).map (Value.int .u8)) ∧ Below w.heap.size w w' := by
  obtain ⟨i0, hi, hz0, hz1, hz2⟩ := info_parts Tryz.info5
  go_enter Tryz.func44, Tryz.ntmps44
  go_wp2_with (first | (go_at_call 66; refine (len_any _ _).mono ?_; rintro e w' ⟨rfl, rfl⟩))
  refine (start_at 9 _ _ (w.heap.size + 1) (by simp) (by omega) (by omega)).mono ?_
  rintro e w1 ⟨rfl, hown1, hb1⟩
  have hs1 : w.heap.size + 1 < w1.heap.size := (hown1.lt (w.heap.size + 1) rfl).2
  have hc1 : ∀ j, w1.cell? ⟨w.heap.size, j, none⟩ = (#[.int .u8 3, .int .u8 k0, .int .u8 k1, .int .u8 k2, .int .u8 k3, .int .u8 k4, .int .u8 k5, .int .u8 k6, .int .u8 k7, .int .u8 kd, .int .u64 x, .int .u64 y, .int .u64 n] : Array Value)[j]? := fun j => (hb1.cell (p := ⟨w.heap.size, j, none⟩) (by simp)).trans (cell_box w _ _ j)
  have hB1 : Below w.heap.size w w1 := ((Below.refl _ w).alloc (Nat.le_refl _) _).trans (hb1.mono (by omega))
  clear hb1
  go_wp2_with (at_builtin; refine wpList_append_fits _ rfl (.tmp 39) (.tmp 41) 76 rfl (w.heap.size + 1) 5 i0 1 Tryz.underlying76 hi hz1 (w.heap.size + 1) 2 10 _ rfl hown1 ⟨w.heap.size, 1, none⟩ 8 8 [.int .u8 k0, .int .u8 k1, .int .u8 k2, .int .u8 k3, .int .u8 k4, .int .u8 k5, .int .u8 k6, .int .u8 k7] rfl rfl (src_of hc1 _ (key_src _ _ _ _ _ _ _ _ _ _ _ _ _)) (by simp [Value.oneCell']) (by omega) ?_; intro w2 hown2 hgrow2; have hc2 := fun j => (cell_grown hgrow2 (b := w.heap.size) (by omega) (by omega) j).trans (hc1 j))
  go_ret
  exact ⟨rfl, hown2, hB1.grown hgrow2 (by omega) (by simp)⟩

set_option maxRecDepth 100000 in
set_option maxHeartbeats 1000000 in
theorem wreq4 (k0 k1 k2 k3 k4 k5 k6 k7 kd x y n : Int) (w : World) :
    Calls Tryz.prog 44 #[.agg #[.int .u8 4, .int .u8 k0, .int .u8 k1, .int .u8 k2, .int .u8 k3, .int .u8 k4, .int .u8 k5, .int .u8 k6, .int .u8 k7, .int .u8 kd, .int .u64 x, .int .u64 y, .int .u64 n]] w
      fun e w' => e = .returned (.slice (some ⟨w.heap.size + 1, 0, none⟩) 10 10) ∧ w'.ownsRow (w.heap.size + 1) 5 1 (.slice (some ⟨w.heap.size + 1, 0, none⟩) 10 10) 10 (([9, 4, k0, k1, k2, k3, k4, k5, k6, k7]).map (Value.int .u8)) ∧ Below w.heap.size w w' := by
  obtain ⟨i0, hi, hz0, hz1, hz2⟩ := info_parts Tryz.info5
  go_enter Tryz.func44, Tryz.ntmps44
  go_wp2_with (first | (go_at_call 66; refine (len_any _ _).mono ?_; rintro e w' ⟨rfl, rfl⟩))
  refine (start_at 9 _ _ (w.heap.size + 1) (by simp) (by omega) (by omega)).mono ?_
  rintro e w1 ⟨rfl, hown1, hb1⟩
  have hs1 : w.heap.size + 1 < w1.heap.size := (hown1.lt (w.heap.size + 1) rfl).2
  have hc1 : ∀ j, w1.cell? ⟨w.heap.size, j, none⟩ = (#[.int .u8 4, .int .u8 k0, .int .u8 k1, .int .u8 k2, .int .u8 k3, .int .u8 k4, .int .u8 k5, .int .u8 k6, .int .u8 k7, .int .u8 kd, .int .u64 x, .int .u64 y, .int .u64 n] : Array Value)[j]? := fun j => (hb1.cell (p := ⟨w.heap.size, j, none⟩) (by simp)).trans (cell_box w _ _ j)
  have hB1 : Below w.heap.size w w1 := ((Below.refl _ w).alloc (Nat.le_refl _) _).trans (hb1.mono (by omega))
  clear hb1
  go_wp2_with (at_builtin; refine wpList_append_fits _ rfl (.tmp 39) (.tmp 41) 76 rfl (w.heap.size + 1) 5 i0 1 Tryz.underlying76 hi hz1 (w.heap.size + 1) 2 10 _ rfl hown1 ⟨w.heap.size, 1, none⟩ 8 8 [.int .u8 k0, .int .u8 k1, .int .u8 k2, .int .u8 k3, .int .u8 k4, .int .u8 k5, .int .u8 k6, .int .u8 k7] rfl rfl (src_of hc1 _ (key_src _ _ _ _ _ _ _ _ _ _ _ _ _)) (by simp [Value.oneCell']) (by omega) ?_; intro w2 hown2 hgrow2; have hc2 := fun j => (cell_grown hgrow2 (b := w.heap.size) (by omega) (by omega) j).trans (hc1 j))
  go_ret
  exact ⟨rfl, hown2, hB1.grown hgrow2 (by omega) (by simp)⟩

set_option maxRecDepth 100000 in
set_option maxHeartbeats 1000000 in
theorem wreq5 (k0 k1 k2 k3 k4 k5 k6 k7 kd x y n : Int) (w : World) :
    Calls Tryz.prog 44 #[.agg #[.int .u8 5, .int .u8 k0, .int .u8 k1, .int .u8 k2, .int .u8 k3, .int .u8 k4, .int .u8 k5, .int .u8 k6, .int .u8 k7, .int .u8 kd, .int .u64 x, .int .u64 y, .int .u64 n]] w
      fun e w' => e = .returned (.slice (some ⟨w.heap.size + 1, 0, none⟩) 2 2) ∧ w'.ownsRow (w.heap.size + 1) 5 1 (.slice (some ⟨w.heap.size + 1, 0, none⟩) 2 2) 2 (([1, 5]).map (Value.int .u8)) ∧ Below w.heap.size w w' := by
  obtain ⟨i0, hi, hz0, hz1, hz2⟩ := info_parts Tryz.info5
  go_enter Tryz.func44, Tryz.ntmps44
  go_wp2_with (first | (go_at_call 66; refine (len_any _ _).mono ?_; rintro e w' ⟨rfl, rfl⟩))
  refine (start_at 1 _ _ (w.heap.size + 1) (by simp) (by omega) (by omega)).mono ?_
  rintro e w1 ⟨rfl, hown1, hb1⟩
  have hs1 : w.heap.size + 1 < w1.heap.size := (hown1.lt (w.heap.size + 1) rfl).2
  have hc1 : ∀ j, w1.cell? ⟨w.heap.size, j, none⟩ = (#[.int .u8 5, .int .u8 k0, .int .u8 k1, .int .u8 k2, .int .u8 k3, .int .u8 k4, .int .u8 k5, .int .u8 k6, .int .u8 k7, .int .u8 kd, .int .u64 x, .int .u64 y, .int .u64 n] : Array Value)[j]? := fun j => (hb1.cell (p := ⟨w.heap.size, j, none⟩) (by simp)).trans (cell_box w _ _ j)
  have hB1 : Below w.heap.size w w1 := ((Below.refl _ w).alloc (Nat.le_refl _) _).trans (hb1.mono (by omega))
  clear hb1
  go_wp2
  go_ret
  exact ⟨rfl, hown1, hB1⟩

set_option maxRecDepth 100000 in
set_option maxHeartbeats 1000000 in
theorem wreq6 (k0 k1 k2 k3 k4 k5 k6 k7 kd x y n : Int) (w : World) :
    Calls Tryz.prog 44 #[.agg #[.int .u8 6, .int .u8 k0, .int .u8 k1, .int .u8 k2, .int .u8 k3, .int .u8 k4, .int .u8 k5, .int .u8 k6, .int .u8 k7, .int .u8 kd, .int .u64 x, .int .u64 y, .int .u64 n]] w
      fun e w' => e = .returned (.slice (some ⟨w.heap.size + 1, 0, none⟩) 2 2) ∧ w'.ownsRow (w.heap.size + 1) 5 1 (.slice (some ⟨w.heap.size + 1, 0, none⟩) 2 2) 2 (([1, 6]).map (Value.int .u8)) ∧ Below w.heap.size w w' := by
  obtain ⟨i0, hi, hz0, hz1, hz2⟩ := info_parts Tryz.info5
  go_enter Tryz.func44, Tryz.ntmps44
  go_wp2_with (first | (go_at_call 66; refine (len_any _ _).mono ?_; rintro e w' ⟨rfl, rfl⟩))
  refine (start_at 1 _ _ (w.heap.size + 1) (by simp) (by omega) (by omega)).mono ?_
  rintro e w1 ⟨rfl, hown1, hb1⟩
  have hs1 : w.heap.size + 1 < w1.heap.size := (hown1.lt (w.heap.size + 1) rfl).2
  have hc1 : ∀ j, w1.cell? ⟨w.heap.size, j, none⟩ = (#[.int .u8 6, .int .u8 k0, .int .u8 k1, .int .u8 k2, .int .u8 k3, .int .u8 k4, .int .u8 k5, .int .u8 k6, .int .u8 k7, .int .u8 kd, .int .u64 x, .int .u64 y, .int .u64 n] : Array Value)[j]? := fun j => (hb1.cell (p := ⟨w.heap.size, j, none⟩) (by simp)).trans (cell_box w _ _ j)
  have hB1 : Below w.heap.size w w1 := ((Below.refl _ w).alloc (Nat.le_refl _) _).trans (hb1.mono (by omega))
  clear hb1
  go_wp2
  go_ret
  exact ⟨rfl, hown1, hB1⟩

set_option maxRecDepth 100000 in
set_option maxHeartbeats 1000000 in
theorem wreq0 (op k0 k1 k2 k3 k4 k5 k6 k7 kd x y n : Int) (w : World) (h : reqLen op = 0) :
    Calls Tryz.prog 44 #[.agg #[.int .u8 op, .int .u8 k0, .int .u8 k1, .int .u8 k2, .int .u8 k3, .int .u8 k4, .int .u8 k5, .int .u8 k6, .int .u8 k7, .int .u8 kd, .int .u64 x, .int .u64 y, .int .u64 n]] w
      fun e w' => e = .returned (.slice none 0 0) ∧ Below w.heap.size w w' := by
  go_enter Tryz.func44, Tryz.ntmps44
  go_wp2_with (first | (go_at_call 66; refine (len_any _ _).mono ?_; rintro e w' ⟨rfl, rfl⟩))
  go_ret
  exact ⟨rfl, (Below.refl _ w).alloc (Nat.le_refl _) _⟩

/-- The bytes of a request, by the document (P3). -/
def encReq (op k0 k1 k2 k3 k4 k5 k6 k7 kd x y n : Int) : List Int :=
  if op = 1 then [26, 1, k0, k1, k2, k3, k4, k5, k6, k7, kd] ++ be8 x ++ be8 y
  else if op = 2 then [17, 2, k0, k1, k2, k3, k4, k5, k6, k7] ++ be8 n
  else if op = 3 ∨ op = 4 then [9, op, k0, k1, k2, k3, k4, k5, k6, k7]
  else if op = 5 ∨ op = 6 then [1, op]
  else []
theorem encReq_length (op k0 k1 k2 k3 k4 k5 k6 k7 kd x y n : Int) : ((encReq op k0 k1 k2 k3 k4 k5 k6 k7 kd x y n).length : Int) = if reqLen op = 0 then 0 else reqLen op + 1 := by
  unfold encReq reqLen
  repeat' split
  all_goals first | rfl | omega

theorem wreq_any (op k0 k1 k2 k3 k4 k5 k6 k7 kd x y n : Int) (w : World) (hx0 : 0 ≤ x) (hx1 : x ≤ 18446744073709551615) (hy0 : 0 ≤ y) (hy1 : y ≤ 18446744073709551615) (hn0 : 0 ≤ n) (hn1 : n ≤ 18446744073709551615) :
    Calls Tryz.prog 44 #[.agg #[.int .u8 op, .int .u8 k0, .int .u8 k1, .int .u8 k2, .int .u8 k3, .int .u8 k4, .int .u8 k5, .int .u8 k6, .int .u8 k7, .int .u8 kd, .int .u64 x, .int .u64 y, .int .u64 n]] w
      fun e w' => Below w.heap.size w w' ∧ ((reqLen op = 0 ∧ e = .returned (.slice none 0 0)) ∨
        (reqLen op ≠ 0 ∧ ∃ g L, w.heap.size ≤ g ∧ L = (encReq op k0 k1 k2 k3 k4 k5 k6 k7 kd x y n).length ∧ e = .returned (.slice (some ⟨g, 0, none⟩) L L) ∧ w'.ownsRow w.heap.size 5 1 (.slice (some ⟨g, 0, none⟩) L L) L ((encReq op k0 k1 k2 k3 k4 k5 k6 k7 kd x y n).map (Value.int .u8)))) := by
  by_cases h1 : op = 1
  · subst h1
    refine (wreq1 k0 k1 k2 k3 k4 k5 k6 k7 kd x y n w hx0 hx1 hy0 hy1).mono ?_
    rintro e w' ⟨rfl, ho, hb⟩
    exact ⟨hb, .inr ⟨by decide, w.heap.size + 1, 27, by omega, rfl, rfl, own_down (by omega) ho⟩⟩
  by_cases h2 : op = 2
  · subst h2
    refine (wreq2 k0 k1 k2 k3 k4 k5 k6 k7 kd x y n w hn0 hn1).mono ?_
    rintro e w' ⟨rfl, ho, hb⟩
    exact ⟨hb, .inr ⟨by decide, w.heap.size + 1, 18, by omega, rfl, rfl, own_down (by omega) ho⟩⟩
  by_cases h3 : op = 3
  · subst h3
    refine (wreq3 k0 k1 k2 k3 k4 k5 k6 k7 kd x y n w).mono ?_
    rintro e w' ⟨rfl, ho, hb⟩
    exact ⟨hb, .inr ⟨by decide, w.heap.size + 1, 10, by omega, rfl, rfl, own_down (by omega) ho⟩⟩
  by_cases h4 : op = 4
  · subst h4
    refine (wreq4 k0 k1 k2 k3 k4 k5 k6 k7 kd x y n w).mono ?_
    rintro e w' ⟨rfl, ho, hb⟩
    exact ⟨hb, .inr ⟨by decide, w.heap.size + 1, 10, by omega, rfl, rfl, own_down (by omega) ho⟩⟩
  by_cases h5 : op = 5
  · subst h5
    refine (wreq5 k0 k1 k2 k3 k4 k5 k6 k7 kd x y n w).mono ?_
    rintro e w' ⟨rfl, ho, hb⟩
    exact ⟨hb, .inr ⟨by decide, w.heap.size + 1, 2, by omega, rfl, rfl, own_down (by omega) ho⟩⟩
  by_cases h6 : op = 6
  · subst h6
    refine (wreq6 k0 k1 k2 k3 k4 k5 k6 k7 kd x y n w).mono ?_
    rintro e w' ⟨rfl, ho, hb⟩
    exact ⟨hb, .inr ⟨by decide, w.heap.size + 1, 2, by omega, rfl, rfl, own_down (by omega) ho⟩⟩
  have h0 : reqLen op = 0 := by simp [reqLen, h1, h2, h3, h4, h5, h6]
  refine (wreq0 op k0 k1 k2 k3 k4 k5 k6 k7 kd x y n w h0).mono ?_
  rintro e w' ⟨rfl, hb⟩
  exact ⟨hb, .inl ⟨h0, rfl⟩⟩

set_option maxRecDepth 100000 in
set_option maxHeartbeats 1000000 in
theorem request_any (op k0 k1 k2 k3 k4 k5 k6 k7 kd x y n : Int) (w : World) (hx0 : 0 ≤ x) (hx1 : x ≤ 18446744073709551615) (hy0 : 0 ≤ y) (hy1 : y ≤ 18446744073709551615) (hn0 : 0 ≤ n) (hn1 : n ≤ 18446744073709551615) :
    Calls Tryz.prog 28 #[.agg #[.int .u8 op, .int .u8 k0, .int .u8 k1, .int .u8 k2, .int .u8 k3, .int .u8 k4, .int .u8 k5, .int .u8 k6, .int .u8 k7, .int .u8 kd, .int .u64 x, .int .u64 y, .int .u64 n]] w
      fun e w' => Below w.heap.size w w' ∧ ((reqLen op = 0 ∧ e = .returned (.slice none 0 0)) ∨
        (reqLen op ≠ 0 ∧ ∃ g L, w.heap.size ≤ g ∧ L = (encReq op k0 k1 k2 k3 k4 k5 k6 k7 kd x y n).length ∧ e = .returned (.slice (some ⟨g, 0, none⟩) L L) ∧ w'.ownsRow w.heap.size 5 1 (.slice (some ⟨g, 0, none⟩) L L) L ((encReq op k0 k1 k2 k3 k4 k5 k6 k7 kd x y n).map (Value.int .u8)))) := by
  go_enter Tryz.func28, Tryz.ntmps28
  go_wp2_with fail
  refine (wreq_any op k0 k1 k2 k3 k4 k5 k6 k7 kd x y n _ hx0 hx1 hy0 hy1 hn0 hn1).mono ?_
  rintro e w' ⟨hb, ⟨h, rfl⟩ | ⟨h, g, L, hg, hL, rfl, ho⟩⟩
  · go_wp2
    go_ret
    exact ⟨((Below.refl _ w).alloc (Nat.le_refl _) _).trans (hb.mono (by simp)), .inl ⟨h, rfl⟩⟩
  · have HL := hide hL
    clear hL
    go_wp2
    go_ret
    exact ⟨((Below.refl _ w).alloc (Nat.le_refl _) _).trans (hb.mono (by simp)), .inr ⟨h, g, L, by simp at hg; omega, unhide HL, rfl, own_down (by simp) ho⟩⟩
end Go.Proofs.YtnlgndpcddngoaaGreatDoor

namespace Go.Proofs.YtnlgndpcddngoaaGreatDoor
open Go.RowKit
variable [dK] [iK]
theorem set_first (w2 : World) (u v : Value) (rc : Array Value) : ((w2.alloc (.cells #[u] 264)).alloc (.cells rc 65)).setCell ⟨w2.heap.size, 0, none⟩ v = (w2.alloc (.cells #[v] 264)).alloc (.cells rc 65) := by
  rw [World.setCell_alloc_past _ _ _ _ (by simp), World.setCell_alloc_at _ _ _ _ _ rfl]; rfl

theorem after_key {w2 w5 : World} {u v : Value} {rc : Array Value} (h : Below ((w2.alloc (.cells #[u] 264)).alloc (.cells rc 65)).heap.size (((w2.alloc (.cells #[u] 264)).alloc (.cells rc 65)).setCell ⟨w2.heap.size, 0, none⟩ v) w5) :
    (∀ b j, b < w2.heap.size → w5.cell? ⟨b, j, none⟩ = w2.cell? ⟨b, j, none⟩) ∧ (∀ b j, b < w2.heap.size → w5.frozen? ⟨b, j, none⟩ = w2.frozen? ⟨b, j, none⟩) ∧ w5.cell? ⟨w2.heap.size, 0, none⟩ = some v ∧ w5.frozen? ⟨w2.heap.size, 0, none⟩ = false ∧
    (∀ j, w5.cell? ⟨w2.heap.size + 1, j, none⟩ = rc[j]?) ∧ (∀ j, w5.frozen? ⟨w2.heap.size + 1, j, none⟩ = false) ∧ Below w2.heap.size w2 w5 ∧ w2.heap.size + 1 < w5.heap.size := by
  rw [set_first] at h
  have hB : Below w2.heap.size w2 ((w2.alloc (.cells #[v] 264)).alloc (.cells rc 65)) := ((Below.refl _ _).alloc (Nat.le_refl _) _).alloc (by simp) _
  have hB5 : Below w2.heap.size w2 w5 := hB.trans (h.mono (by simp; omega))
  refine ⟨fun b j hb => hB5.cell (p := ⟨b, j, none⟩) hb, fun b j hb => hB5.frozen (p := ⟨b, j, none⟩) hb, ?_, ?_, fun j => ?_, fun j => ?_, hB5, ?_⟩
  · rw [h.cell (p := ⟨w2.heap.size, 0, none⟩) (by simp; omega)]; simp
  · rw [h.frozen (p := ⟨w2.heap.size, 0, none⟩) (by simp; omega)]; simp
  · rw [h.cell (p := ⟨w2.heap.size + 1, j, none⟩) (by simp)]
    simp
  · rw [h.frozen (p := ⟨w2.heap.size + 1, j, none⟩) (by simp)]; simp
  · have := h.size; simp at this; omega
end Go.Proofs.YtnlgndpcddngoaaGreatDoor

namespace Go.Proofs.YtnlgndpcddngoaaGreatDoor
open Go.RowKit
variable [dK] [iK]

/-- How memory stands while a request is read: F: the fields that are left; r: the request; the result; the bytes. -/
structure St (w w2 W : World) (g : Nat) (left : Value) (rc : Array Value) : Prop where
  F : W.cell? ⟨w2.heap.size, 0, none⟩ = some left
  Ff : W.frozen? ⟨w2.heap.size, 0, none⟩ = false
  r : ∀ j, W.cell? ⟨w2.heap.size + 1, j, none⟩ = rc[j]?
  rf : ∀ j, W.frozen? ⟨w2.heap.size + 1, j, none⟩ = false
  R : ∀ j, W.cell? ⟨w.heap.size, j, none⟩ = (#[.int .u8 0, .int .u8 0, .int .u8 0, .int .u8 0, .int .u8 0, .int .u8 0, .int .u8 0, .int .u8 0, .int .u8 0, .int .u8 0, .int .u64 0, .int .u64 0, .int .u64 0] : Array Value)[j]?
  Rf : ∀ j, W.frozen? ⟨w.heap.size, j, none⟩ = false
  G : ∀ j, W.cell? ⟨g, j, none⟩ = w.cell? ⟨g, j, none⟩
  B : Below w.heap.size w W
  sz : w2.heap.size + 1 < W.heap.size
  hg : g < w.heap.size
  h2 : w.heap.size < w2.heap.size

theorem cell_off (W : World) (b i c j : Nat) (u : Value) (h : b ≠ c) : (W.setCell ⟨c, j, none⟩ u).cell? ⟨b, i, none⟩ = W.cell? ⟨b, i, none⟩ :=
  World.cell?_of_block (w := W) (Below.heap_setCell W ⟨c, j, none⟩ u b h)
theorem frozen_off (W : World) (b i c j : Nat) (u : Value) (h : b ≠ c) : (W.setCell ⟨c, j, none⟩ u).frozen? ⟨b, i, none⟩ = W.frozen? ⟨b, i, none⟩ :=
  World.frozen?_of_block (w := W) (Below.heap_setCell W ⟨c, j, none⟩ u b h)

theorem St.setF {w w2 W : World} {g : Nat} {left : Value} {rc : Array Value} (S : St w w2 W g left rc) (v : Value) : St w w2 (W.setCell ⟨w2.heap.size, 0, none⟩ v) g v rc := by
  have h2 := S.h2
  have hg := S.hg
  refine ⟨?_, ?_, fun j => ?_, fun j => ?_, fun j => ?_, fun j => ?_, fun j => ?_, S.B.setCell (by show _ ≤ w2.heap.size; omega) _, by simpa using S.sz, S.hg, S.h2⟩
  · exact World.cell?_setCell_same W _ _ S.F
  · rw [World.frozen?_setCell]; exact S.Ff
  · rw [cell_off _ _ _ _ _ _ (by omega)]; exact S.r j
  · rw [frozen_off _ _ _ _ _ _ (by omega)]; exact S.rf j
  · rw [cell_off _ _ _ _ _ _ (by omega)]; exact S.R j
  · rw [frozen_off _ _ _ _ _ _ (by omega)]; exact S.Rf j
  · rw [cell_off _ _ _ _ _ _ (by omega)]; exact S.G j

theorem St.setr {w w2 W : World} {g : Nat} {left : Value} {rc : Array Value} (S : St w w2 W g left rc) (i : Nat) (hi : i < rc.size) (u : Value) : St w w2 (W.setCell ⟨w2.heap.size + 1, i, none⟩ u) g left (rc.setIfInBounds i u) := by
  have h2 := S.h2
  have hg := S.hg
  refine ⟨?_, ?_, fun j => ?_, fun j => ?_, fun j => ?_, fun j => ?_, fun j => ?_, S.B.setCell (by show _ ≤ w2.heap.size + 1; omega) _, by simpa using S.sz, S.hg, S.h2⟩
  · rw [cell_off _ _ _ _ _ _ (by omega)]; exact S.F
  · rw [frozen_off _ _ _ _ _ _ (by omega)]; exact S.Ff
  · by_cases h : j = i
    · subst h
      have hj := S.r j
      rw [Array.getElem?_eq_getElem hi] at hj
      rw [World.cell?_setCell_same W _ _ hj, Array.getElem?_setIfInBounds, if_pos rfl, if_pos hi]
    · have hne : ¬ i = j := fun e => h e.symm
      rw [Array.getElem?_setIfInBounds, if_neg hne, ← S.r j]
      exact World.cell?_setCell_other W _ _ _ (by intro e; injection e with _ e2 _; exact hne e2)
  · rw [World.frozen?_setCell]; exact S.rf j
  · rw [cell_off _ _ _ _ _ _ (by omega)]; exact S.R j
  · rw [frozen_off _ _ _ _ _ _ (by omega)]; exact S.Rf j
  · rw [cell_off _ _ _ _ _ _ (by omega)]; exact S.G j

theorem St.of_key {w w2 w5 : World} {g : Nat} {u v : Value} {rc : Array Value} (hB2 : Below w.heap.size w w2) (hg : g < w.heap.size) (hs2 : w.heap.size < w2.heap.size)
    (hR : ∀ j, w2.cell? ⟨w.heap.size, j, none⟩ = (#[.int .u8 0, .int .u8 0, .int .u8 0, .int .u8 0, .int .u8 0, .int .u8 0, .int .u8 0, .int .u8 0, .int .u8 0, .int .u8 0, .int .u64 0, .int .u64 0, .int .u64 0] : Array Value)[j]?) (hRf : ∀ j, w2.frozen? ⟨w.heap.size, j, none⟩ = false)
    (h : Below ((w2.alloc (.cells #[u] 264)).alloc (.cells rc 65)).heap.size (((w2.alloc (.cells #[u] 264)).alloc (.cells rc 65)).setCell ⟨w2.heap.size, 0, none⟩ v) w5) : St w w2 w5 g v rc := by
  obtain ⟨hc5, hf5, hF5, hFf5, hr5, hrf5, hB5, hs5⟩ := after_key h
  exact ⟨hF5, hFf5, hr5, hrf5, fun j => (hc5 w.heap.size j hs2).trans (hR j), fun j => (hf5 w.heap.size j hs2).trans (hRf j), fun j => (hc5 g j (by omega)).trans (hB2.cell (p := ⟨g, j, none⟩) hg), hB2.trans (hB5.mono (by omega)), hs5, hg, hs2⟩
end Go.Proofs.YtnlgndpcddngoaaGreatDoor

namespace Go.Proofs.YtnlgndpcddngoaaGreatDoor
open Go.RowKit
variable [dK] [iK]

set_option maxRecDepth 100000 in
set_option maxHeartbeats 400000 in
theorem of_any (ao : Option Addr) (n c : Nat) (w : World) : Calls Tryz.prog 104 #[.slice ao n c] w fun e w' => e = .returned (.pointer (some ⟨w.heap.size, 0, none⟩)) ∧ w' = w.alloc (.cells #[.slice ao n c] 264) := by
  go_enter Tryz.func104, Tryz.ntmps104
  go_wp2
  go_ret
  exact ⟨rfl, rfl⟩

theorem grown_at {w W : World} {F c j : Nat} (v : Value) (h : w.grownBy W (some F)) (hc : c = F ∨ w.heap.size ≤ c) : w.grownBy (W.setCell ⟨c, j, none⟩ v) (some F) := by
  refine ⟨h.os, h.tape, h.output, by simpa using h.size, fun k hk hne => ?_⟩
  refine (Below.heap_setCell W ⟨c, j, none⟩ v k ?_).trans (h.block k hk hne)
  show k ≠ c
  rcases hc with rfl | hc
  · exact fun e => hne (by rw [e])
  · omega

theorem St.of_grown {w w2 W W' : World} {g : Nat} {left v : Value} {rc : Array Value} (S : St w w2 W g left rc) (h : W.grownBy W' (some w2.heap.size)) (hF : W'.cell? ⟨w2.heap.size, 0, none⟩ = some v) (hFf : W'.frozen? ⟨w2.heap.size, 0, none⟩ = false) : St w w2 W' g v rc := by
  have h2 := S.h2
  have hg := S.hg
  have hz := S.sz
  have hs := h.size
  have hc : ∀ b, b ≠ w2.heap.size → b < W.heap.size → W'.heap[b]? = W.heap[b]? := fun b hb hl => h.block b hl (by intro e; injection e with e; exact hb e)
  refine ⟨hF, hFf, fun j => ?_, fun j => ?_, fun j => ?_, fun j => ?_, fun j => ?_, S.B.grown h (by have := S.B.size; omega) (by intro _ e; injection e with e; omega), by omega, S.hg, S.h2⟩
  · exact (World.cell?_of_block (w := W) (hc (w2.heap.size + 1) (by omega) hz)).trans (S.r j)
  · exact (World.frozen?_of_block (w := W) (hc (w2.heap.size + 1) (by omega) hz)).trans (S.rf j)
  · exact (World.cell?_of_block (w := W) (hc w.heap.size (by omega) (by omega))).trans (S.R j)
  · exact (World.frozen?_of_block (w := W) (hc w.heap.size (by omega) (by omega))).trans (S.Rf j)
  · exact (World.cell?_of_block (w := W) (hc g (by omega) (by omega))).trans (S.G j)

set_option maxRecDepth 100000 in
set_option maxHeartbeats 1000000 in
theorem policy_any (F g o m : Nat) (kd : Int) (cx cy : Nat → Int) (w : World) (hFl : F < w.heap.size) (hgF : g ≠ F) (hgl : g < w.heap.size) (hF : w.cell? ⟨F, 0, none⟩ = some (.slice (some ⟨g, o, none⟩) m m)) (hz : w.frozen? ⟨F, 0, none⟩ = false) (hm : 17 ≤ m) (hm1 : m ≤ 255) (hkd : w.cell? ⟨g, o, none⟩ = some (.int .u8 kd)) (hcx : ∀ j, j < 8 → w.cell? ⟨g, o + 1 + j, none⟩ = some (.int .u8 (cx j))) (hxr : ∀ j, 0 ≤ cx j ∧ cx j ≤ 255) (hcy : ∀ j, j < 8 → w.cell? ⟨g, o + 9 + j, none⟩ = some (.int .u8 (cy j))) (hyr : ∀ j, 0 ≤ cy j ∧ cy j ≤ 255) :
    Calls Tryz.prog 107 #[.pointer (some ⟨F, 0, none⟩)] w fun e w' => e = .returned (.agg #[.int .u8 kd, .int .u64 (rdTo cx 8), .int .u64 (rdTo cy 8)]) ∧ (∃ ao, w'.cell? ⟨F, 0, none⟩ = some (.slice ao (m - 17) (m - 17)) ∧ (17 < m → ao = some ⟨g, o + 17, none⟩)) ∧ w'.frozen? ⟨F, 0, none⟩ = false ∧ w.grownBy w' (some F) := by
  have HX := hide hcx
  have HY := hide hcy
  have HXR := hide hxr
  have HYR := hide hyr
  clear hcx hcy hxr hyr
  go_enter Tryz.func107, Tryz.ntmps107
  go_wp2_with fail
  obtain ⟨V, hV⟩ : ∃ V, V = w.alloc (.cells #[.int .u8 0, .int .u64 0, .int .u64 0] 30) := ⟨_, rfl⟩
  rw [← hV]
  have cV : ∀ b j, b < w.heap.size → V.cell? ⟨b, j, none⟩ = w.cell? ⟨b, j, none⟩ := fun b j h => by rw [hV, World.cell?_alloc_lt _ _ ⟨b, j, none⟩ h]
  have fV : V.frozen? ⟨F, 0, none⟩ = false := by rw [hV]; exact (World.frozen?_of_block (w := w) ((World.grownBy_alloc w _ none).block F hFl (by simp))).trans hz
  have nV : ∀ j, V.cell? ⟨w.heap.size, j, none⟩ = (#[.int .u8 0, .int .u64 0, .int .u64 0] : Array Value)[j]? := fun j => by rw [hV]; exact World.cell?_alloc_at _ _ _ _ rfl
  have nfV : ∀ j, V.frozen? ⟨w.heap.size, j, none⟩ = false := fun j => by rw [hV]; simp
  have gV : w.grownBy V (some F) := by rw [hV]; exact World.grownBy_alloc _ _ _
  clear hV
  refine (small_more F g o m kd V ((cV F 0 hFl).trans hF) fV (by omega) (by omega) ((cV g o hgl).trans hkd)).mono ?_
  rintro e w1 ⟨rfl, hw1⟩
  have c1 : ∀ b j, b ≠ F → w1.cell? ⟨b, j, none⟩ = V.cell? ⟨b, j, none⟩ := fun b j h => by rw [hw1]; exact cell_off _ _ _ _ _ _ h
  have F1 : w1.cell? ⟨F, 0, none⟩ = some (.slice (some ⟨g, o + 1, none⟩) (m - 1) (m - 1)) := by rw [hw1]; exact World.cell?_setCell_same V _ _ ((cV F 0 hFl).trans hF)
  have f1 : ∀ b j, V.frozen? ⟨b, j, none⟩ = false → w1.frozen? ⟨b, j, none⟩ = false := fun b j h => by rw [hw1, World.frozen?_setCell]; exact h
  have g1 : w.grownBy w1 (some F) := by rw [hw1]; exact grown_at _ gV (Or.inl rfl)
  clear hw1
  go_wp2_with fail
  refine (number_any F g (o + 1) (m - 1) cx w1 F1 (f1 _ _ fV) (by omega) (by omega) (fun j hj => (c1 g _ hgF).trans ((cV g _ hgl).trans (HX.out j hj))) HXR.out).mono ?_
  rintro e w2 ⟨rfl, ao, hw2, hao⟩
  obtain rfl := hao (by omega)
  clear hao
  have c2 : ∀ b j, b ≠ F → w2.cell? ⟨b, j, none⟩ = V.cell? ⟨b, j, none⟩ := fun b j h => by rw [hw2]; exact (cell_off _ _ _ _ _ _ h).trans (c1 b j h)
  have F2 : w2.cell? ⟨F, 0, none⟩ = some (.slice (some ⟨g, o + 9, none⟩) (m - 9) (m - 9)) := by rw [hw2]; exact World.cell?_setCell_same w1 _ _ F1
  have f2 : ∀ b j, V.frozen? ⟨b, j, none⟩ = false → w2.frozen? ⟨b, j, none⟩ = false := fun b j h => by rw [hw2, World.frozen?_setCell]; exact f1 b j h
  have g2 : w.grownBy w2 (some F) := by rw [hw2]; exact grown_at _ g1 (Or.inl rfl)
  clear hw2
  go_wp2_with fail
  refine (number_any F g (o + 9) (m - 9) cy w2 F2 (f2 _ _ fV) (by omega) (by omega) (fun j hj => (c2 g _ hgF).trans ((cV g _ hgl).trans (HY.out j hj))) HYR.out).mono ?_
  rintro e w3 ⟨rfl, ao, hw3, hao⟩
  have c3 : ∀ j, w3.cell? ⟨w.heap.size, j, none⟩ = (#[.int .u8 0, .int .u64 0, .int .u64 0] : Array Value)[j]? := fun j => by rw [hw3]; exact ((cell_off _ _ _ _ _ _ (by omega)).trans (c2 _ j (by omega))).trans (nV j)
  have F3 : w3.cell? ⟨F, 0, none⟩ = some (.slice ao (m - 17) (m - 17)) := by rw [hw3]; exact World.cell?_setCell_same w2 _ _ F2
  have f3 : ∀ b j, V.frozen? ⟨b, j, none⟩ = false → w3.frozen? ⟨b, j, none⟩ = false := fun b j h => by rw [hw3, World.frozen?_setCell]; exact f2 b j h
  have g3 : w.grownBy w3 (some F) := by rw [hw3]; exact grown_at _ g2 (Or.inl rfl)
  have n3 : ∀ j, w3.frozen? ⟨w.heap.size, j, none⟩ = false := fun j => f3 _ _ (nfV j)
  have z3 := f3 _ _ fV
  clear hw3 f1 f2 f3 c1 c2 cV nV nfV hF hz hkd fV gV g1 g2 F1 F2
  have hFn : ¬ F = w.heap.size := by omega
  have HF3 := hide F3
  have HA := hide hao
  have HG3 := hide g3
  have HZ := hide z3
  clear F3 hao g3 z3
  go_wp2
  refine bodyPost_ret (v := .agg #[.int .u8 kd, .int .u64 (rdTo cx 8), .int .u64 (rdTo cy 8)]) (by simp [results, Tryz.results107, go_sem, c3]) rfl ⟨rfl, ?_⟩
  refine ⟨⟨ao, ?_, fun h => ?_⟩, ?_, ?_⟩
  · repeat rw [cell_off _ _ _ _ _ _ hFn]
    exact HF3.out
  · exact HA.out (by omega)
  · repeat rw [World.frozen?_setCell]
    exact HZ.out
  · repeat (refine grown_at _ ?_ (Or.inr (Nat.le_refl _)))
    exact HG3.out
end Go.Proofs.YtnlgndpcddngoaaGreatDoor

namespace Go.Proofs.YtnlgndpcddngoaaGreatDoor
open Go.RowKit
variable [dK] [iK]

set_option maxRecDepth 100000 in
set_option maxHeartbeats 400000 in
theorem small_c (F g o m c : Nat) (b : Int) (w : World) (hF : w.cell? ⟨F, 0, none⟩ = some (.slice (some ⟨g, o, none⟩) m c)) (hz : w.frozen? ⟨F, 0, none⟩ = false) (hm : 1 < m) (hmc : m ≤ c) (hc : w.cell? ⟨g, o, none⟩ = some (.int .u8 b)) :
    Calls Tryz.prog 105 #[.pointer (some ⟨F, 0, none⟩)] w fun e w' => e = .returned (.int .u8 b) ∧ w' = w.setCell ⟨F, 0, none⟩ (.slice (some ⟨g, o + 1, none⟩) (m - 1) (c - 1)) := by
  have hmp : 0 < m := by omega
  have hmI : (0 : Int) < m := by omega
  have hme : ¬ c = 1 := by omega
  have hme2 : ¬ m = 1 := by omega
  go_enter Tryz.func105, Tryz.ntmps105
  go_wp2
  go_ret
  exact ⟨rfl, rfl⟩

set_option maxRecDepth 100000 in
set_option maxHeartbeats 400000 in
theorem number_c (F g o m cp : Nat) (c : Nat → Int) (w : World) (hF : w.cell? ⟨F, 0, none⟩ = some (.slice (some ⟨g, o, none⟩) m cp)) (hz : w.frozen? ⟨F, 0, none⟩ = false) (hm : 8 < m) (hmc : m ≤ cp) (hc : ∀ j, j < 8 → w.cell? ⟨g, o + j, none⟩ = some (.int .u8 (c j))) (hr : ∀ j, 0 ≤ c j ∧ c j ≤ 255) :
    Calls Tryz.prog 108 #[.pointer (some ⟨F, 0, none⟩)] w fun e w' => e = .returned (.int .u64 (rdTo c 8)) ∧ w' = w.setCell ⟨F, 0, none⟩ (.slice (some ⟨g, o + 8, none⟩) (m - 8) (cp - 8)) := by
  go_enter Tryz.func108, Tryz.ntmps108
  go_wp2
  go_loop [3, 12] (fun v i => ∃ j : Nat, j ≤ 8 ∧ i = .int .i64 j ∧ v = .int .u64 (rdTo c j)) (fun _ i => 8 - (intOf i).toNat)
  case atStart => exact ⟨0, by omega, rfl, rfl⟩
  case round =>
    obtain ⟨j, hj, rfl, rfl⟩ := hrel
    by_cases hlt : j < 8
    · have hcj := hc j hlt
      have hrj := hr j
      have HB := hide (rdTo_lt c hr j hlt)
      have HR := hide hrj
      go_wp2
      go_round
      case rel => exact ⟨j + 1, by omega, by go_num, int_u64 (or_byte _ _ HB.out.1 HB.out.2 HR.out.1 HR.out.2)⟩
      case measure => simp [intOf]; omega
    · obtain rfl : j = 8 := by omega
      have hme : ¬ cp = 8 := by omega
      have hme2 : ¬ m = 8 := by omega
      go_wp2
      go_ret
      exact ⟨rfl, rfl⟩

theorem copy8c (g o m c : Nat) (k0 k1 k2 k3 k4 k5 k6 k7 : Int) (w : World) (hgl : g < w.heap.size) (hm : 8 ≤ m)
    (h0 : w.cell? ⟨g, o, none⟩ = some (.int .u8 k0))
    (h1 : w.cell? ⟨g, o + 1, none⟩ = some (.int .u8 k1))
    (h2 : w.cell? ⟨g, o + 2, none⟩ = some (.int .u8 k2))
    (h3 : w.cell? ⟨g, o + 3, none⟩ = some (.int .u8 k3))
    (h4 : w.cell? ⟨g, o + 4, none⟩ = some (.int .u8 k4))
    (h5 : w.cell? ⟨g, o + 5, none⟩ = some (.int .u8 k5))
    (h6 : w.cell? ⟨g, o + 6, none⟩ = some (.int .u8 k6))
    (h7 : w.cell? ⟨g, o + 7, none⟩ = some (.int .u8 k7)) :
    (Builtin.copy_ #[76, 76] 3 #[.slice (some ⟨w.heap.size + 1, 0, none⟩) 8 8, .slice (some ⟨g, o, none⟩) m c]).run Tryz.prog (((w.alloc (.cells #[.int .u8 0, .int .u8 0, .int .u8 0, .int .u8 0, .int .u8 0, .int .u8 0, .int .u8 0, .int .u8 0] 63)).alloc (.cells #[.int .u8 0, .int .u8 0, .int .u8 0, .int .u8 0, .int .u8 0, .int .u8 0, .int .u8 0, .int .u8 0] 63)).drew)
      = .ok (.int .i64 8) (((w.alloc (.cells #[.int .u8 0, .int .u8 0, .int .u8 0, .int .u8 0, .int .u8 0, .int .u8 0, .int .u8 0, .int .u8 0] 63)).alloc (.cells #[.int .u8 k0, .int .u8 k1, .int .u8 k2, .int .u8 k3, .int .u8 k4, .int .u8 k5, .int .u8 k6, .int .u8 k7] 63)).drew) := by
  have hg : (((w.alloc (.cells #[.int .u8 0, .int .u8 0, .int .u8 0, .int .u8 0, .int .u8 0, .int .u8 0, .int .u8 0, .int .u8 0] 63)).alloc (.cells #[.int .u8 0, .int .u8 0, .int .u8 0, .int .u8 0, .int .u8 0, .int .u8 0, .int .u8 0, .int .u8 0] 63)).drew).heap[w.heap.size + 1]? = some (.cells #[.int .u8 0, .int .u8 0, .int .u8 0, .int .u8 0, .int .u8 0, .int .u8 0, .int .u8 0, .int .u8 0] 63 (0, 0)) := by
    show ((w.heap.push _).push _)[w.heap.size + 1]? = _
    rw [Array.getElem?_push, if_pos (by simp)]
  have hs : ∀ j v, ([.int .u8 k0, .int .u8 k1, .int .u8 k2, .int .u8 k3, .int .u8 k4, .int .u8 k5, .int .u8 k6, .int .u8 k7] : List Value)[j]? = some v → (((w.alloc (.cells #[.int .u8 0, .int .u8 0, .int .u8 0, .int .u8 0, .int .u8 0, .int .u8 0, .int .u8 0, .int .u8 0] 63)).alloc (.cells #[.int .u8 0, .int .u8 0, .int .u8 0, .int .u8 0, .int .u8 0, .int .u8 0, .int .u8 0, .int .u8 0] 63)).drew).cell? ((⟨g, o, none⟩ : Addr).add j) = some v := by
    intro j v hj
    rw [Addr.add_lit]
    show ((w.alloc (.cells #[.int .u8 0, .int .u8 0, .int .u8 0, .int .u8 0, .int .u8 0, .int .u8 0, .int .u8 0, .int .u8 0] 63)).alloc (.cells #[.int .u8 0, .int .u8 0, .int .u8 0, .int .u8 0, .int .u8 0, .int .u8 0, .int .u8 0, .int .u8 0] 63)).cell? ⟨g, o + j, none⟩ = some v
    rw [World.cell?_alloc_lt _ _ ⟨g, o + j, none⟩ (by simp; omega), World.cell?_alloc_lt _ _ ⟨g, o + j, none⟩ hgl]
    match j, hj with
    | 0, hj => simp at hj; subst hj; exact h0
    | 1, hj => simp at hj; subst hj; exact h1
    | 2, hj => simp at hj; subst hj; exact h2
    | 3, hj => simp at hj; subst hj; exact h3
    | 4, hj => simp at hj; subst hj; exact h4
    | 5, hj => simp at hj; subst hj; exact h5
    | 6, hj => simp at hj; subst hj; exact h6
    | 7, hj => simp at hj; subst hj; exact h7
  have hmin : Nat.min m 8 = 8 := Nat.min_eq_right hm
  rw [run_copy_row (P := Tryz.prog) _ 76 76 3 5 (w.heap.size + 1) 0 8 8 ⟨g, o, none⟩ m c _ 63 [.int .u8 k0, .int .u8 k1, .int .u8 k2, .int .u8 k3, .int .u8 k4, .int .u8 k5, .int .u8 k6, .int .u8 k7] Tryz.underlying76 (by kernel_rfl) hg (by rw [hmin]; rfl) hs (by simp) (by simp [Value.oneCell'])]
  have e : (((w.alloc (.cells #[.int .u8 0, .int .u8 0, .int .u8 0, .int .u8 0, .int .u8 0, .int .u8 0, .int .u8 0, .int .u8 0] 63)).alloc (.cells #[.int .u8 0, .int .u8 0, .int .u8 0, .int .u8 0, .int .u8 0, .int .u8 0, .int .u8 0, .int .u8 0] 63)).drew).setRow (w.heap.size + 1) #[.int .u8 k0, .int .u8 k1, .int .u8 k2, .int .u8 k3, .int .u8 k4, .int .u8 k5, .int .u8 k6, .int .u8 k7] = ((w.alloc (.cells #[.int .u8 0, .int .u8 0, .int .u8 0, .int .u8 0, .int .u8 0, .int .u8 0, .int .u8 0, .int .u8 0] 63)).alloc (.cells #[.int .u8 k0, .int .u8 k1, .int .u8 k2, .int .u8 k3, .int .u8 k4, .int .u8 k5, .int .u8 k6, .int .u8 k7] 63)).drew := by
    show (((w.alloc (.cells #[.int .u8 0, .int .u8 0, .int .u8 0, .int .u8 0, .int .u8 0, .int .u8 0, .int .u8 0, .int .u8 0] 63)).alloc (.cells #[.int .u8 0, .int .u8 0, .int .u8 0, .int .u8 0, .int .u8 0, .int .u8 0, .int .u8 0, .int .u8 0] 63)).setRow (w.heap.size + 1) #[.int .u8 k0, .int .u8 k1, .int .u8 k2, .int .u8 k3, .int .u8 k4, .int .u8 k5, .int .u8 k6, .int .u8 k7]).drew = _
    have h := World.setRow_alloc_new (w.alloc (.cells #[.int .u8 0, .int .u8 0, .int .u8 0, .int .u8 0, .int .u8 0, .int .u8 0, .int .u8 0, .int .u8 0] 63)) #[.int .u8 0, .int .u8 0, .int .u8 0, .int .u8 0, .int .u8 0, .int .u8 0, .int .u8 0, .int .u8 0] #[.int .u8 k0, .int .u8 k1, .int .u8 k2, .int .u8 k3, .int .u8 k4, .int .u8 k5, .int .u8 k6, .int .u8 k7] 63
    rw [World.size_alloc] at h
    rw [h]
  simp only [List.take_zero, List.nil_append, List.length_cons, List.length_nil]
  exact congrArg _ e

set_option maxRecDepth 100000 in
set_option maxHeartbeats 1000000 in
theorem key_c (F g o m c : Nat) (k0 k1 k2 k3 k4 k5 k6 k7 : Int) (w : World) (hFl : F < w.heap.size) (hgl : g < w.heap.size) (hm : 8 < m) (hmc : m ≤ c) (hF : w.cell? ⟨F, 0, none⟩ = some (.slice (some ⟨g, o, none⟩) m c)) (hz : w.frozen? ⟨F, 0, none⟩ = false)
    (h0 : w.cell? ⟨g, o, none⟩ = some (.int .u8 k0))
    (h1 : w.cell? ⟨g, o + 1, none⟩ = some (.int .u8 k1))
    (h2 : w.cell? ⟨g, o + 2, none⟩ = some (.int .u8 k2))
    (h3 : w.cell? ⟨g, o + 3, none⟩ = some (.int .u8 k3))
    (h4 : w.cell? ⟨g, o + 4, none⟩ = some (.int .u8 k4))
    (h5 : w.cell? ⟨g, o + 5, none⟩ = some (.int .u8 k5))
    (h6 : w.cell? ⟨g, o + 6, none⟩ = some (.int .u8 k6))
    (h7 : w.cell? ⟨g, o + 7, none⟩ = some (.int .u8 k7)) :
    Calls Tryz.prog 106 #[.pointer (some ⟨F, 0, none⟩)] w fun e w' => e = .returned (.agg #[.int .u8 k0, .int .u8 k1, .int .u8 k2, .int .u8 k3, .int .u8 k4, .int .u8 k5, .int .u8 k6, .int .u8 k7]) ∧ Below w.heap.size (w.setCell ⟨F, 0, none⟩ (.slice (some ⟨g, o + 8, none⟩) (m - 8) (c - 8))) w' := by
  have hcp := copy8c g o m c k0 k1 k2 k3 k4 k5 k6 k7 w hgl (by omega) h0 h1 h2 h3 h4 h5 h6 h7
  have hme : ¬ c = 8 := by omega
  have hme2 : ¬ m = 8 := by omega
  have hmI : (8 : Int) ≤ m := by omega
  clear h0 h1 h2 h3 h4 h5 h6 h7
  go_enter Tryz.func106, Tryz.ntmps106
  go_wp2
  go_region
  go_wp2
  exact bodyPost_ret (v := .agg #[.int .u8 k0, .int .u8 k1, .int .u8 k2, .int .u8 k3, .int .u8 k4, .int .u8 k5, .int .u8 k6, .int .u8 k7]) (by simp [results, Tryz.results106, go_sem]) rfl ⟨rfl, (((Below.refl _ _).alloc (by simp) _).alloc (by simp) _).drew⟩
end Go.Proofs.YtnlgndpcddngoaaGreatDoor

namespace Go.Proofs.YtnlgndpcddngoaaGreatDoor
open Go.RowKit
variable [dK] [iK]

/-- How memory stands while the bytes are written into: they are owned; what was read; the result; the rest as it was. -/
structure Lp (w w2 wr : World) (g n c : Nat) (qc zc : Array Value) : Prop where
  own : ∃ ys, wr.ownsRow (w.heap.size + 1) 5 1 (.slice (some ⟨g, 0, none⟩) n c) n ys
  r : ∀ j, wr.cell? ⟨w2.heap.size, j, none⟩ = qc[j]?
  R : ∀ j, wr.cell? ⟨w.heap.size, j, none⟩ = zc[j]?
  Rf : ∀ j, wr.frozen? ⟨w.heap.size, j, none⟩ = false
  B : Below w.heap.size w wr
  sz : w2.heap.size < wr.heap.size
  g1 : w.heap.size < g
  g2 : g < w2.heap.size

theorem own_below {w w' : World} {base B g n c : Nat} {xs : List Value} (h : w.ownsRow base 5 1 (.slice (some ⟨g, 0, none⟩) n c) n xs) (hb : Below B w w') (hg : g < B) : w'.ownsRow base 5 1 (.slice (some ⟨g, 0, none⟩) n c) n xs := by
  obtain ⟨h1, h2⟩ := h
  refine ⟨h1, ?_⟩
  rcases h2 with ⟨h2, _⟩ | ⟨g', cap, cur, hv, hg', hh, r⟩
  · simp at h2
  · have e : g' = g := by injection hv with e1 _ _; injection e1 with e1; injection e1 with e1; exact e1.symm
    subst e
    exact Or.inr ⟨g', cap, cur, hv, hg', by rw [hb.block g' hg]; exact hh, r⟩

theorem Lp.step {w w2 wr : World} {g n c : Nat} {qc zc : Array Value} (L : Lp w w2 wr g n c qc zc) (j : Nat) (u : Value) : Lp w w2 (wr.setCell ⟨g, j, none⟩ u) g n c qc zc := by
  have h1 := L.g1
  have h2 := L.g2
  obtain ⟨ys, ho⟩ := L.own
  refine ⟨⟨_, (ho.stored j u).1⟩, fun i => ?_, fun i => ?_, fun i => ?_, L.B.setCell (by show _ ≤ g; omega) _, by simpa using L.sz, L.g1, L.g2⟩
  · rw [cell_off _ _ _ _ _ _ (by omega)]; exact L.r i
  · rw [cell_off _ _ _ _ _ _ (by omega)]; exact L.R i
  · rw [frozen_off _ _ _ _ _ _ (by omega)]; exact L.Rf i

theorem Lp.cell {w w2 wr : World} {g n c : Nat} {qc zc : Array Value} (L : Lp w w2 wr g n c qc zc) (j : Nat) (hj : j < n) : (∃ u, wr.cell? ⟨g, j, none⟩ = some u) ∧ wr.frozen? ⟨g, j, none⟩ = false := by
  obtain ⟨ys, ho⟩ := L.own
  have hl : ys.length = n := by simpa using ho.1
  refine ⟨⟨ys[j]'(by omega), ?_⟩, ho.frozenAt j⟩
  rw [ho.cellAt j (by omega), List.getElem?_eq_getElem (by omega)]

theorem Lp.start {w w1 w2 : World} {g n c : Nat} {xs : List Value} {qc zc : Array Value} (ty : TypeId) (ho : w1.ownsRow (w.heap.size + 1) 5 1 (.slice (some ⟨g, 0, none⟩) n c) n xs) (hb2 : Below w1.heap.size w1 w2) (hgb : w.heap.size + 1 ≤ g) (hgl1 : g < w1.heap.size)
    (hR1 : ∀ j, w1.cell? ⟨w.heap.size, j, none⟩ = zc[j]?) (hRf1 : ∀ j, w1.frozen? ⟨w.heap.size, j, none⟩ = false) (hB1 : Below w.heap.size w w1) (hs1 : w.heap.size + 1 ≤ w1.heap.size) : Lp w w2 (w2.alloc (.cells qc ty)) g n c qc zc := by
  have hs2 := hb2.size
  refine ⟨⟨xs, (own_below ho hb2 hgl1).alloc _⟩, fun j => cell_box w2 _ _ j, fun j => ?_, fun j => ?_, (hB1.trans (hb2.mono (by omega))).alloc (by omega) _, by simp, by omega, by omega⟩
  · rw [World.cell?_alloc_lt _ _ ⟨w.heap.size, j, none⟩ (by show w.heap.size < _; omega), hb2.cell (p := ⟨w.heap.size, j, none⟩) (by show w.heap.size < _; omega)]; exact hR1 j
  · rw [World.frozen?_alloc_past _ _ _ (by omega), hb2.frozen (p := ⟨w.heap.size, j, none⟩) (by show w.heap.size < _; omega)]; exact hRf1 j
end Go.Proofs.YtnlgndpcddngoaaGreatDoor

namespace Go.Proofs.YtnlgndpcddngoaaGreatDoor
open Go.RowKit
variable [dK] [iK]

set_option maxRecDepth 100000 in
theorem qsound (kd x y : Int) (w : World) (b : Bool) (hb : b = decide ((kd = 1 ∧ 1 ≤ x) ∨ (kd = 2 ∧ 1 ≤ y))) :
    Calls Tryz.prog 153 #[.agg #[.int .u8 kd, .int .u64 x, .int .u64 y]] w fun e w' => e = .returned (.bool b) ∧ w' = w.alloc (.cells #[.int .u8 kd, .int .u64 x, .int .u64 y] 30) := by
  by_cases h1 : kd = 1
  · subst h1
    have e : b = decide (1 ≤ x) := by rw [hb]; simp
    subst e
    clear hb
    go_enter Tryz.func153, Tryz.ntmps153
    go_wp2
    go_ret
    exact ⟨rfl, rfl⟩
  by_cases h2 : kd = 2
  · subst h2
    have e : b = decide (1 ≤ y) := by rw [hb]; simp
    subst e
    clear hb
    go_enter Tryz.func153, Tryz.ntmps153
    go_wp2
    go_ret
    exact ⟨rfl, rfl⟩
  have e : b = false := by rw [hb]; simp [h1, h2]
  subst e
  clear hb
  have h1' : (kd == 1) = false := by simpa using h1
  have h2' : (kd == 2) = false := by simpa using h2
  go_enter Tryz.func153, Tryz.ntmps153
  go_wp2
  go_ret
  exact ⟨rfl, rfl⟩

set_option maxRecDepth 100000 in
theorem qnew_ok (kd x y : Int) (w : World) (h : (kd = 1 ∧ 1 ≤ x) ∨ (kd = 2 ∧ 1 ≤ y)) :
    Calls Tryz.prog 133 #[.agg #[.int .u8 kd, .int .u64 x, .int .u64 y]] w fun e w' => e = .returned (.tuple #[.agg #[.int .u8 kd, .int .u64 x, .int .u64 y, .int .u64 0, .int .u64 0], .bool true]) ∧ Below w.heap.size w w' := by
  go_enter Tryz.func133, Tryz.ntmps133
  go_wp2_with (go_at_call 153; refine (qsound _ _ _ _ true (by simpa using h)).mono ?_; rintro e w' ⟨rfl, rfl⟩)
  exact bodyPost_ret (v := .tuple #[.agg #[.int .u8 kd, .int .u64 x, .int .u64 y, .int .u64 0, .int .u64 0], .bool true]) (by simp [results, Tryz.results133, go_sem]) rfl ⟨rfl, (((Below.refl _ w).alloc (Nat.le_refl _) _).alloc (by simp) _).alloc (by simp <;> omega) _⟩

set_option maxRecDepth 100000 in
theorem qnew_bad (kd x y : Int) (w : World) (h : ¬ ((kd = 1 ∧ 1 ≤ x) ∨ (kd = 2 ∧ 1 ≤ y))) :
    Calls Tryz.prog 133 #[.agg #[.int .u8 kd, .int .u64 x, .int .u64 y]] w fun e w' => e = .returned (.tuple #[.agg #[.int .u8 0, .int .u64 0, .int .u64 0, .int .u64 0, .int .u64 0], .bool false]) ∧ Below w.heap.size w w' := by
  have hs := fun w => qsound kd x y w false (by simpa using h)
  clear h
  go_enter Tryz.func133, Tryz.ntmps133
  go_wp2_with (go_at_call 153; refine (hs _).mono ?_; rintro e w' ⟨rfl, rfl⟩)
  exact bodyPost_ret (v := .tuple #[.agg #[.int .u8 0, .int .u64 0, .int .u64 0, .int .u64 0, .int .u64 0], .bool false]) (by simp [results, Tryz.results133, go_sem]) rfl ⟨rfl, (((Below.refl _ w).alloc (Nat.le_refl _) _).alloc (by simp) _).alloc (by simp <;> omega) _⟩
end Go.Proofs.YtnlgndpcddngoaaGreatDoor

namespace Go.Proofs.YtnlgndpcddngoaaGreatDoor
open Go.RowKit
variable [dK] [iK]


set_option maxRecDepth 100000 in
set_option maxHeartbeats 1000000 in
theorem wrep (c a b : Int) (w : World) (ha0 : 0 ≤ a) (ha1 : a ≤ 18446744073709551615) (hb0 : 0 ≤ b) (hb1 : b ≤ 18446744073709551615) :
    Calls Tryz.prog 73 #[.agg #[.int .u8 c, .int .u64 a, .int .u64 b]] w
      fun e w' => e = .returned (.slice (some ⟨w.heap.size + 1, 0, none⟩) 18 18) ∧ w'.ownsRow w.heap.size 5 1 (.slice (some ⟨w.heap.size + 1, 0, none⟩) 18 18) 18 ((encRep c a b).map (Value.int .u8)) ∧ Below w.heap.size w w' := by
  go_enter Tryz.func73, Tryz.ntmps73
  go_wp2_with fail
  refine (start_at 17 _ _ (w.heap.size + 1) (by simp) (by omega) (by omega)).mono ?_
  rintro e w1 ⟨rfl, hown1, hb1'⟩
  have hs1 : w.heap.size + 1 < w1.heap.size := (hown1.lt (w.heap.size + 1) rfl).2
  have hc1 : ∀ j, w1.cell? ⟨w.heap.size, j, none⟩ = (#[.int .u8 c, .int .u64 a, .int .u64 b] : Array Value)[j]? := fun j => (hb1'.cell (p := ⟨w.heap.size, j, none⟩) (by simp)).trans (cell_box w _ _ j)
  have hB1 : Below w.heap.size w w1 := ((Below.refl _ w).alloc (Nat.le_refl _) _).trans (hb1'.mono (by omega))
  clear hb1'
  go_wp2_with fail
  refine (num_any (w.heap.size + 1) 2 18 (w.heap.size + 1) _ _ _ hown1 (by omega) ha0 ha1).mono ?_
  rintro e w2 ⟨rfl, hown2, hgrow2⟩
  have hs2 := hgrow2.size
  have hc2 := fun j => (cell_grown hgrow2 (b := w.heap.size) (by omega) (by omega) j).trans (hc1 j)
  go_wp2_with fail
  refine (num_any (w.heap.size + 1) 10 18 (w.heap.size + 1) _ _ _ hown2 (by omega) hb0 hb1).mono ?_
  rintro e w3 ⟨rfl, hown3, hgrow3⟩
  go_wp2
  go_ret
  refine ⟨rfl, own_down (b := w.heap.size + 1) (by omega) hown3, ?_⟩
  exact (hB1.grown hgrow2 (by omega) (by simp)).grown hgrow3 (by omega) (by simp)

end Go.Proofs.YtnlgndpcddngoaaGreatDoor
