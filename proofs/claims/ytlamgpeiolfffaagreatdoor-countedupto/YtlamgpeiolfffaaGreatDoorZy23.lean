import Derived.Test.YtlamgpeiolfffaaGreatDoorZy18
set_option linter.unusedSectionVars false
namespace Go.Proofs.YtlamgpeiolfffaaGreatDoor
open Go.RowKit
variable [dK] [iK]

set_option maxRecDepth 100000 in
set_option maxHeartbeats 2000000 in
theorem rreq5 (g so n cap : Nat) (w : World) (hn : 2 ≤ n) (hnc : n ≤ cap) (hn1 : n ≤ 1048576) (hg : g < w.heap.size) (c0 : w.cell? ⟨g, so, none⟩ = some (.int .u8 1)) (c1 : w.cell? ⟨g, so + 1, none⟩ = some (.int .u8 5)) :
    Calls Tryz.prog 67 #[.slice (some ⟨g, so, none⟩) n cap] w fun e w' => e = .returned (.tuple #[.agg #[.int .u8 5, .int .u8 0, .int .u8 0, .int .u8 0, .int .u8 0, .int .u8 0, .int .u8 0, .int .u8 0, .int .u8 0, .int .u8 0, .int .u64 0, .int .u64 0, .int .u64 0], .int .i64 2, .nilIface]) ∧ Below w.heap.size w w' := by
  go_enter Tryz.func67, Tryz.ntmps67
  go_wp2_with fail
  refine (requests_any _).mono ?_
  rintro e w1 ⟨rfl, hb1⟩
  have hB1 : Below w.heap.size w w1 := ((Below.refl _ w).alloc (Nat.le_refl _) _).trans (hb1.mono (by simp))
  have hs1 : w.heap.size < w1.heap.size := by have := hb1.size; simp at this; omega
  go_wp2_with fail
  refine (body_req g so n cap 1 5 w1 (by omega) hnc hn1 (by omega) (by omega) (by decide) (by omega) ((hB1.cell (p := ⟨g, so, none⟩) hg).trans c0) ((hB1.cell (p := ⟨g, so + 1, none⟩) hg).trans c1)).mono ?_
  rintro e w2 ⟨rfl, hb2⟩
  have hB2 : Below w.heap.size w w2 := hB1.trans (hb2.mono (by omega))
  have hs2 : w.heap.size < w2.heap.size := by have := hb2.size; omega
  have hR : ∀ j, w2.cell? ⟨w.heap.size, j, none⟩ = (#[.int .u8 0, .int .u8 0, .int .u8 0, .int .u8 0, .int .u8 0, .int .u8 0, .int .u8 0, .int .u8 0, .int .u8 0, .int .u8 0, .int .u64 0, .int .u64 0, .int .u64 0] : Array Value)[j]? := fun j => (hb2.cell (p := ⟨w.heap.size, j, none⟩) hs1).trans ((hb1.cell (p := ⟨w.heap.size, j, none⟩) (by simp)).trans (cell_box w _ _ j))
  have hRf : ∀ j, w2.frozen? ⟨w.heap.size, j, none⟩ = false := fun j => (hb2.frozen (p := ⟨w.heap.size, j, none⟩) hs1).trans ((hb1.frozen (p := ⟨w.heap.size, j, none⟩) (by simp)).trans (by simp))
  clear hb1 hb2
  go_wp2_with fail
  have hg2 : g < w2.heap.size := by omega
  refine (small_last w2.heap.size g (so + 1) 5 _ (by simp) (by simp) (by rw [World.cell?_alloc_lt _ _ ⟨g, so + 1, none⟩ hg2]; exact (hB2.cell (p := ⟨g, so + 1, none⟩) hg).trans c1)).mono ?_
  rintro e w3 ⟨rfl, v, rfl⟩
  clear c0 c1 hB1
  have hne : ¬ w.heap.size = w2.heap.size  := by omega
  have hne' : ¬ w2.heap.size  = w.heap.size := by omega
  go_wp2
  have hs2' : w.heap.size < w2.heap.size + 1 := by omega
  refine bodyPost_ret (v := .tuple #[.agg #[.int .u8 5, .int .u8 0, .int .u8 0, .int .u8 0, .int .u8 0, .int .u8 0, .int .u8 0, .int .u8 0, .int .u8 0, .int .u8 0, .int .u64 0, .int .u64 0, .int .u64 0], .int .i64 2, .nilIface]) (by simp [results, Tryz.results67, go_sem, hR, hs2, hs2']) rfl ⟨rfl, ?_⟩
  refine Below.alloc ?_ (by simp; omega) _
  refine Below.alloc ?_ (by simp; omega) _
  repeat (refine Below.setCell ?_ (by first | exact Nat.le_refl _ | (show _ ≤ w2.heap.size; omega)) _)
  exact hB2

set_option maxRecDepth 100000 in
set_option maxHeartbeats 2000000 in
theorem rreq6 (g so n cap : Nat) (w : World) (hn : 2 ≤ n) (hnc : n ≤ cap) (hn1 : n ≤ 1048576) (hg : g < w.heap.size) (c0 : w.cell? ⟨g, so, none⟩ = some (.int .u8 1)) (c1 : w.cell? ⟨g, so + 1, none⟩ = some (.int .u8 6)) :
    Calls Tryz.prog 67 #[.slice (some ⟨g, so, none⟩) n cap] w fun e w' => e = .returned (.tuple #[.agg #[.int .u8 6, .int .u8 0, .int .u8 0, .int .u8 0, .int .u8 0, .int .u8 0, .int .u8 0, .int .u8 0, .int .u8 0, .int .u8 0, .int .u64 0, .int .u64 0, .int .u64 0], .int .i64 2, .nilIface]) ∧ Below w.heap.size w w' := by
  go_enter Tryz.func67, Tryz.ntmps67
  go_wp2_with fail
  refine (requests_any _).mono ?_
  rintro e w1 ⟨rfl, hb1⟩
  have hB1 : Below w.heap.size w w1 := ((Below.refl _ w).alloc (Nat.le_refl _) _).trans (hb1.mono (by simp))
  have hs1 : w.heap.size < w1.heap.size := by have := hb1.size; simp at this; omega
  go_wp2_with fail
  refine (body_req g so n cap 1 6 w1 (by omega) hnc hn1 (by omega) (by omega) (by decide) (by omega) ((hB1.cell (p := ⟨g, so, none⟩) hg).trans c0) ((hB1.cell (p := ⟨g, so + 1, none⟩) hg).trans c1)).mono ?_
  rintro e w2 ⟨rfl, hb2⟩
  have hB2 : Below w.heap.size w w2 := hB1.trans (hb2.mono (by omega))
  have hs2 : w.heap.size < w2.heap.size := by have := hb2.size; omega
  have hR : ∀ j, w2.cell? ⟨w.heap.size, j, none⟩ = (#[.int .u8 0, .int .u8 0, .int .u8 0, .int .u8 0, .int .u8 0, .int .u8 0, .int .u8 0, .int .u8 0, .int .u8 0, .int .u8 0, .int .u64 0, .int .u64 0, .int .u64 0] : Array Value)[j]? := fun j => (hb2.cell (p := ⟨w.heap.size, j, none⟩) hs1).trans ((hb1.cell (p := ⟨w.heap.size, j, none⟩) (by simp)).trans (cell_box w _ _ j))
  have hRf : ∀ j, w2.frozen? ⟨w.heap.size, j, none⟩ = false := fun j => (hb2.frozen (p := ⟨w.heap.size, j, none⟩) hs1).trans ((hb1.frozen (p := ⟨w.heap.size, j, none⟩) (by simp)).trans (by simp))
  clear hb1 hb2
  go_wp2_with fail
  have hg2 : g < w2.heap.size := by omega
  refine (small_last w2.heap.size g (so + 1) 6 _ (by simp) (by simp) (by rw [World.cell?_alloc_lt _ _ ⟨g, so + 1, none⟩ hg2]; exact (hB2.cell (p := ⟨g, so + 1, none⟩) hg).trans c1)).mono ?_
  rintro e w3 ⟨rfl, v, rfl⟩
  clear c0 c1 hB1
  have hne : ¬ w.heap.size = w2.heap.size  := by omega
  have hne' : ¬ w2.heap.size  = w.heap.size := by omega
  go_wp2
  have hs2' : w.heap.size < w2.heap.size + 1 := by omega
  refine bodyPost_ret (v := .tuple #[.agg #[.int .u8 6, .int .u8 0, .int .u8 0, .int .u8 0, .int .u8 0, .int .u8 0, .int .u8 0, .int .u8 0, .int .u8 0, .int .u8 0, .int .u64 0, .int .u64 0, .int .u64 0], .int .i64 2, .nilIface]) (by simp [results, Tryz.results67, go_sem, hR, hs2, hs2']) rfl ⟨rfl, ?_⟩
  refine Below.alloc ?_ (by simp; omega) _
  refine Below.alloc ?_ (by simp; omega) _
  repeat (refine Below.setCell ?_ (by first | exact Nat.le_refl _ | (show _ ≤ w2.heap.size; omega)) _)
  exact hB2

end Go.Proofs.YtlamgpeiolfffaaGreatDoor
