import Derived.Test.YtlamgpeiolfffaaGreatDoorZy16
import Derived.Test.YtlamgpeiolfffaaGreatDoorZy00
import Derived.Test.YtlamgpeiolfffaaGreatDoorZy15
set_option linter.unusedSectionVars false
namespace Go.Proofs.YtlamgpeiolfffaaGreatDoor
open Go.RowKit
variable [dK] [iK]

/-- The head of a whole frame: what 'body' hands back. -/
theorem body_req (g so n cap : Nat) (b0 : Nat) (b1 : Int) (w : World) (hn : b0 < n) (hnc : n ≤ cap) (hn1 : n ≤ 1048576) (hb0 : 0 < b0) (hb1 : b0 ≤ 26) (hl : (b0 : Int) = reqLen b1) (hg : g < w.heap.size) (hc0 : w.cell? ⟨g, so, none⟩ = some (.int .u8 b0)) (hc1 : w.cell? ⟨g, so + 1, none⟩ = some (.int .u8 b1)) :
    Calls Tryz.prog 98 #[.agg #[.int .u8 1, .int .u8 26, .func (.func 62) #[] #[]], .slice (some ⟨g, so, none⟩) n cap] w fun e w' => e = .returned (.tuple #[.slice (some ⟨g, so + 1, none⟩) b0 b0, .nilIface]) ∧ Below w.heap.size w w' := by
  refine body_ok 1 26 62 g so n cap b0 w hn hnc hn1 hb0 (by omega) hg hc0 ?_
  intro w1 hB
  refine (begin4 g so n cap b0 b1 w1 (by omega) (Nat.lt_of_lt_of_le hg hB.size) ((hB.cell (p := ⟨g, so, none⟩) hg).trans hc0) ((hB.cell (p := ⟨g, so + 1, none⟩) hg).trans hc1) (by omega) (by omega)).mono ?_
  rintro e w2 ⟨rfl, hb⟩
  exact ⟨by rw [if_pos hl], hb⟩
theorem cell_two_up {w2 : World} {g : Nat} (o1 o2 : Obj) (j : Nat) (hg : g < w2.heap.size) : ((w2.alloc o1).alloc o2).cell? ⟨g, j, none⟩ = w2.cell? ⟨g, j, none⟩ := by
  rw [World.cell?_alloc_past _ _ _ (by simp; omega), World.cell?_alloc_past _ _ _ hg]

set_option maxRecDepth 100000 in
set_option maxHeartbeats 2000000 in
theorem rreq3 (g so n cap : Nat) (k0 k1 k2 k3 k4 k5 k6 k7 : Int) (w : World) (hn : 10 ≤ n) (hnc : n ≤ cap) (hn1 : n ≤ 1048576) (hg : g < w.heap.size) (c0 : w.cell? ⟨g, so, none⟩ = some (.int .u8 9)) (c1 : w.cell? ⟨g, so + 1, none⟩ = some (.int .u8 3)) (h0 : w.cell? ⟨g, so + 2, none⟩ = some (.int .u8 k0)) (h1 : w.cell? ⟨g, so + 3, none⟩ = some (.int .u8 k1)) (h2 : w.cell? ⟨g, so + 4, none⟩ = some (.int .u8 k2)) (h3 : w.cell? ⟨g, so + 5, none⟩ = some (.int .u8 k3)) (h4 : w.cell? ⟨g, so + 6, none⟩ = some (.int .u8 k4)) (h5 : w.cell? ⟨g, so + 7, none⟩ = some (.int .u8 k5)) (h6 : w.cell? ⟨g, so + 8, none⟩ = some (.int .u8 k6)) (h7 : w.cell? ⟨g, so + 9, none⟩ = some (.int .u8 k7)) :
    Calls Tryz.prog 67 #[.slice (some ⟨g, so, none⟩) n cap] w fun e w' => e = .returned (.tuple #[.agg #[.int .u8 3, .int .u8 k0, .int .u8 k1, .int .u8 k2, .int .u8 k3, .int .u8 k4, .int .u8 k5, .int .u8 k6, .int .u8 k7, .int .u8 0, .int .u64 0, .int .u64 0, .int .u64 0], .int .i64 10, .nilIface]) ∧ Below w.heap.size w w' := by
  go_enter Tryz.func67, Tryz.ntmps67
  go_wp2_with fail
  refine (requests_any _).mono ?_
  rintro e w1 ⟨rfl, hb1⟩
  have hB1 : Below w.heap.size w w1 := ((Below.refl _ w).alloc (Nat.le_refl _) _).trans (hb1.mono (by simp))
  have hs1 : w.heap.size < w1.heap.size := by have := hb1.size; simp at this; omega
  go_wp2_with fail
  refine (body_req g so n cap 9 3 w1 (by omega) hnc hn1 (by omega) (by omega) (by decide) (by omega) ((hB1.cell (p := ⟨g, so, none⟩) hg).trans c0) ((hB1.cell (p := ⟨g, so + 1, none⟩) hg).trans c1)).mono ?_
  rintro e w2 ⟨rfl, hb2⟩
  have hB2 : Below w.heap.size w w2 := hB1.trans (hb2.mono (by omega))
  have hs2 : w.heap.size < w2.heap.size := by have := hb2.size; omega
  have hR : ∀ j, w2.cell? ⟨w.heap.size, j, none⟩ = (#[.int .u8 0, .int .u8 0, .int .u8 0, .int .u8 0, .int .u8 0, .int .u8 0, .int .u8 0, .int .u8 0, .int .u8 0, .int .u8 0, .int .u64 0, .int .u64 0, .int .u64 0] : Array Value)[j]? := fun j => (hb2.cell (p := ⟨w.heap.size, j, none⟩) hs1).trans ((hb1.cell (p := ⟨w.heap.size, j, none⟩) (by simp)).trans (cell_box w _ _ j))
  have hRf : ∀ j, w2.frozen? ⟨w.heap.size, j, none⟩ = false := fun j => (hb2.frozen (p := ⟨w.heap.size, j, none⟩) hs1).trans ((hb1.frozen (p := ⟨w.heap.size, j, none⟩) (by simp)).trans (by simp))
  clear hb1 hb2
  go_wp2_with fail
  have hg2 : g < w2.heap.size := by omega
  refine (small_more w2.heap.size g (so + 1) 9 3 _ (by simp) (by simp) (by omega) (by omega) (by rw [World.cell?_alloc_lt _ _ ⟨g, so + 1, none⟩ hg2]; exact (hB2.cell (p := ⟨g, so + 1, none⟩) hg).trans c1)).mono ?_
  rintro e w3 ⟨rfl, rfl⟩
  go_wp2_with fail
  refine (key_last w2.heap.size g (so + 2) k0 k1 k2 k3 k4 k5 k6 k7 _ (by simp; omega) (by simp; omega) (by simp) (by simp)
    (by rw [cell_two_up _ _ _ hg2]; exact (hB2.cell (p := ⟨g, so + 2, none⟩) hg).trans h0)
    (by rw [cell_two_up _ _ _ hg2]; exact (hB2.cell (p := ⟨g, so + 3, none⟩) hg).trans h1)
    (by rw [cell_two_up _ _ _ hg2]; exact (hB2.cell (p := ⟨g, so + 4, none⟩) hg).trans h2)
    (by rw [cell_two_up _ _ _ hg2]; exact (hB2.cell (p := ⟨g, so + 5, none⟩) hg).trans h3)
    (by rw [cell_two_up _ _ _ hg2]; exact (hB2.cell (p := ⟨g, so + 6, none⟩) hg).trans h4)
    (by rw [cell_two_up _ _ _ hg2]; exact (hB2.cell (p := ⟨g, so + 7, none⟩) hg).trans h5)
    (by rw [cell_two_up _ _ _ hg2]; exact (hB2.cell (p := ⟨g, so + 8, none⟩) hg).trans h6)
    (by rw [cell_two_up _ _ _ hg2]; exact (hB2.cell (p := ⟨g, so + 9, none⟩) hg).trans h7)).mono ?_
  rintro e w5 ⟨rfl, v, hb5⟩
  have S5 := St.of_key hB2 hg hs2 hR hRf hb5
  clear hb5 hR hRf h0 h1 h2 h3 h4 h5 h6 h7 c0 c1 hB1 hB2
  have hrS5 := S5.r
  have hrfS5 := S5.rf
  have hRS5 := S5.R
  have hRfS5 := S5.Rf
  have hne : ¬ w.heap.size = w2.heap.size + 1 := by omega
  have hne' : ¬ w2.heap.size + 1 = w.heap.size := by omega
  go_wp2
  refine bodyPost_ret (v := .tuple #[.agg #[.int .u8 3, .int .u8 k0, .int .u8 k1, .int .u8 k2, .int .u8 k3, .int .u8 k4, .int .u8 k5, .int .u8 k6, .int .u8 k7, .int .u8 0, .int .u64 0, .int .u64 0, .int .u64 0], .int .i64 10, .nilIface]) (by simp [results, Tryz.results67, go_sem, hRS5]) rfl ⟨rfl, ?_⟩
  repeat (refine Below.setCell ?_ (by first | exact Nat.le_refl _ | (show _ ≤ w2.heap.size + 1; omega) | (show _ ≤ w2.heap.size; omega)) _)
  exact S5.B

set_option maxRecDepth 100000 in
set_option maxHeartbeats 2000000 in
theorem rreq4 (g so n cap : Nat) (k0 k1 k2 k3 k4 k5 k6 k7 : Int) (w : World) (hn : 10 ≤ n) (hnc : n ≤ cap) (hn1 : n ≤ 1048576) (hg : g < w.heap.size) (c0 : w.cell? ⟨g, so, none⟩ = some (.int .u8 9)) (c1 : w.cell? ⟨g, so + 1, none⟩ = some (.int .u8 4)) (h0 : w.cell? ⟨g, so + 2, none⟩ = some (.int .u8 k0)) (h1 : w.cell? ⟨g, so + 3, none⟩ = some (.int .u8 k1)) (h2 : w.cell? ⟨g, so + 4, none⟩ = some (.int .u8 k2)) (h3 : w.cell? ⟨g, so + 5, none⟩ = some (.int .u8 k3)) (h4 : w.cell? ⟨g, so + 6, none⟩ = some (.int .u8 k4)) (h5 : w.cell? ⟨g, so + 7, none⟩ = some (.int .u8 k5)) (h6 : w.cell? ⟨g, so + 8, none⟩ = some (.int .u8 k6)) (h7 : w.cell? ⟨g, so + 9, none⟩ = some (.int .u8 k7)) :
    Calls Tryz.prog 67 #[.slice (some ⟨g, so, none⟩) n cap] w fun e w' => e = .returned (.tuple #[.agg #[.int .u8 4, .int .u8 k0, .int .u8 k1, .int .u8 k2, .int .u8 k3, .int .u8 k4, .int .u8 k5, .int .u8 k6, .int .u8 k7, .int .u8 0, .int .u64 0, .int .u64 0, .int .u64 0], .int .i64 10, .nilIface]) ∧ Below w.heap.size w w' := by
  go_enter Tryz.func67, Tryz.ntmps67
  go_wp2_with fail
  refine (requests_any _).mono ?_
  rintro e w1 ⟨rfl, hb1⟩
  have hB1 : Below w.heap.size w w1 := ((Below.refl _ w).alloc (Nat.le_refl _) _).trans (hb1.mono (by simp))
  have hs1 : w.heap.size < w1.heap.size := by have := hb1.size; simp at this; omega
  go_wp2_with fail
  refine (body_req g so n cap 9 4 w1 (by omega) hnc hn1 (by omega) (by omega) (by decide) (by omega) ((hB1.cell (p := ⟨g, so, none⟩) hg).trans c0) ((hB1.cell (p := ⟨g, so + 1, none⟩) hg).trans c1)).mono ?_
  rintro e w2 ⟨rfl, hb2⟩
  have hB2 : Below w.heap.size w w2 := hB1.trans (hb2.mono (by omega))
  have hs2 : w.heap.size < w2.heap.size := by have := hb2.size; omega
  have hR : ∀ j, w2.cell? ⟨w.heap.size, j, none⟩ = (#[.int .u8 0, .int .u8 0, .int .u8 0, .int .u8 0, .int .u8 0, .int .u8 0, .int .u8 0, .int .u8 0, .int .u8 0, .int .u8 0, .int .u64 0, .int .u64 0, .int .u64 0] : Array Value)[j]? := fun j => (hb2.cell (p := ⟨w.heap.size, j, none⟩) hs1).trans ((hb1.cell (p := ⟨w.heap.size, j, none⟩) (by simp)).trans (cell_box w _ _ j))
  have hRf : ∀ j, w2.frozen? ⟨w.heap.size, j, none⟩ = false := fun j => (hb2.frozen (p := ⟨w.heap.size, j, none⟩) hs1).trans ((hb1.frozen (p := ⟨w.heap.size, j, none⟩) (by simp)).trans (by simp))
  clear hb1 hb2
  go_wp2_with fail
  have hg2 : g < w2.heap.size := by omega
  refine (small_more w2.heap.size g (so + 1) 9 4 _ (by simp) (by simp) (by omega) (by omega) (by rw [World.cell?_alloc_lt _ _ ⟨g, so + 1, none⟩ hg2]; exact (hB2.cell (p := ⟨g, so + 1, none⟩) hg).trans c1)).mono ?_
  rintro e w3 ⟨rfl, rfl⟩
  go_wp2_with fail
  refine (key_last w2.heap.size g (so + 2) k0 k1 k2 k3 k4 k5 k6 k7 _ (by simp; omega) (by simp; omega) (by simp) (by simp)
    (by rw [cell_two_up _ _ _ hg2]; exact (hB2.cell (p := ⟨g, so + 2, none⟩) hg).trans h0)
    (by rw [cell_two_up _ _ _ hg2]; exact (hB2.cell (p := ⟨g, so + 3, none⟩) hg).trans h1)
    (by rw [cell_two_up _ _ _ hg2]; exact (hB2.cell (p := ⟨g, so + 4, none⟩) hg).trans h2)
    (by rw [cell_two_up _ _ _ hg2]; exact (hB2.cell (p := ⟨g, so + 5, none⟩) hg).trans h3)
    (by rw [cell_two_up _ _ _ hg2]; exact (hB2.cell (p := ⟨g, so + 6, none⟩) hg).trans h4)
    (by rw [cell_two_up _ _ _ hg2]; exact (hB2.cell (p := ⟨g, so + 7, none⟩) hg).trans h5)
    (by rw [cell_two_up _ _ _ hg2]; exact (hB2.cell (p := ⟨g, so + 8, none⟩) hg).trans h6)
    (by rw [cell_two_up _ _ _ hg2]; exact (hB2.cell (p := ⟨g, so + 9, none⟩) hg).trans h7)).mono ?_
  rintro e w5 ⟨rfl, v, hb5⟩
  have S5 := St.of_key hB2 hg hs2 hR hRf hb5
  clear hb5 hR hRf h0 h1 h2 h3 h4 h5 h6 h7 c0 c1 hB1 hB2
  have hrS5 := S5.r
  have hrfS5 := S5.rf
  have hRS5 := S5.R
  have hRfS5 := S5.Rf
  have hne : ¬ w.heap.size = w2.heap.size + 1 := by omega
  have hne' : ¬ w2.heap.size + 1 = w.heap.size := by omega
  go_wp2
  refine bodyPost_ret (v := .tuple #[.agg #[.int .u8 4, .int .u8 k0, .int .u8 k1, .int .u8 k2, .int .u8 k3, .int .u8 k4, .int .u8 k5, .int .u8 k6, .int .u8 k7, .int .u8 0, .int .u64 0, .int .u64 0, .int .u64 0], .int .i64 10, .nilIface]) (by simp [results, Tryz.results67, go_sem, hRS5]) rfl ⟨rfl, ?_⟩
  repeat (refine Below.setCell ?_ (by first | exact Nat.le_refl _ | (show _ ≤ w2.heap.size + 1; omega) | (show _ ≤ w2.heap.size; omega)) _)
  exact S5.B

end Go.Proofs.YtlamgpeiolfffaaGreatDoor
