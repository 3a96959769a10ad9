import Derived.Test.YtlamgpeiolfffaaGreatDoorZz03
import Derived.Test.YtlamgpeiolfffaaGreatDoorZz06
set_option linter.unusedSectionVars false
namespace Go.Proofs.YtlamgpeiolfffaaGreatDoor
open Go.RowKit
variable [dK] [iK]

set_option maxRecDepth 100000 in
set_option maxHeartbeats 400000 in
theorem told_nil (w : World) : Calls Tryz.prog 31 #[.nilIface] w fun e w' => e = .returned (.int .i64 0) ∧ Below w.heap.size w w' := by
  go_enter Tryz.func31, Tryz.ntmps31
  go_wp2
  go_ret
  exact ⟨rfl, (Below.refl _ w).alloc (Nat.le_refl _) _⟩

set_option maxRecDepth 100000 in
set_option maxHeartbeats 1000000 in
theorem told_err (n : Int) (w : World) (hg : w.cell? ⟨0, 0, none⟩ = some (.iface 201 (.agg #[.pointer (some ⟨1, 88, none⟩)]))) :
    Calls Tryz.prog 31 #[.iface 46 (.int .i64 n)] w fun e w' => e = .returned (.int .i64 n) ∧ Below w.heap.size w w' := by
  have hlt : 0 < w.heap.size := by
    rcases Nat.eq_zero_or_pos w.heap.size with h0 | h
    · simp [World.cell?, h0] at hg
    · exact h
  have hgA : (w.alloc (.cells #[.int .i64 0] 46)).cell? ⟨0, 0, none⟩ = some (.iface 201 (.agg #[.pointer (some ⟨1, 88, none⟩)])) := by
    rw [World.cell?_alloc_lt _ _ ⟨0, 0, none⟩ hlt]; exact hg
  have htA : (w.alloc (.cells #[.int .i64 0] 46)).cell? ⟨w.heap.size, 0, none⟩ = some (.int .i64 0) := by simp
  have hfA : (w.alloc (.cells #[.int .i64 0] 46)).frozen? ⟨w.heap.size, 0, none⟩ = false := by simp
  go_enter Tryz.func31, Tryz.ntmps31
  go_wp2_with (first | (go_at_call 47; refine (as_hit _ _ (.int .i64 0) _ hgA htA hfA).mono ?_; rintro e w' ⟨rfl, rfl⟩) | (go_at_call 48; refine (is_same _ _).mono ?_; rintro e w' ⟨rfl, rfl⟩))
  go_ret
  exact ⟨rfl, (((((Below.refl _ w).alloc (Nat.le_refl _) _).alloc (by simp) _).alloc (by simp; omega) _).alloc (by simp; omega) _).alloc (by simp; omega) _⟩
end Go.Proofs.YtlamgpeiolfffaaGreatDoor

namespace Go.Proofs.YtlamgpeiolfffaaGreatDoor
open Go.RowKit
variable [dK] [iK]

/-- How memory stands while the bytes are written into: they are owned; what was read; the result; the rest as it was. -/
structure Lp (w w2 wr : World) (g n c : Nat) (qc zc : Array Value) : Prop where
  own : ∃ ys, wr.ownsRow (w.heap.size + 1) 5 1 (.slice (some ⟨g, 0, none⟩) n c) n ys
  r : ∀ j, wr.cell? ⟨w2.heap.size, j, none⟩ = qc[j]?
  R : ∀ j, wr.cell? ⟨w.heap.size, j, none⟩ = zc[j]?
  Rf : ∀ j, wr.frozen? ⟨w.heap.size, j, none⟩ = false
  B : Below w.heap.size w wr
  sz : w2.heap.size < wr.heap.size
  g1 : w.heap.size < g
  g2 : g < w2.heap.size

theorem own_below {w w' : World} {base B g n c : Nat} {xs : List Value} (h : w.ownsRow base 5 1 (.slice (some ⟨g, 0, none⟩) n c) n xs) (hb : Below B w w') (hg : g < B) : w'.ownsRow base 5 1 (.slice (some ⟨g, 0, none⟩) n c) n xs := by
  obtain ⟨h1, h2⟩ := h
  refine ⟨h1, ?_⟩
  rcases h2 with ⟨h2, _⟩ | ⟨g', cap, cur, hv, hg', hh, r⟩
  · simp at h2
  · have e : g' = g := by injection hv with e1 _ _; injection e1 with e1; injection e1 with e1; exact e1.symm
    subst e
    exact Or.inr ⟨g', cap, cur, hv, hg', by rw [hb.block g' hg]; exact hh, r⟩

theorem Lp.step {w w2 wr : World} {g n c : Nat} {qc zc : Array Value} (L : Lp w w2 wr g n c qc zc) (j : Nat) (u : Value) : Lp w w2 (wr.setCell ⟨g, j, none⟩ u) g n c qc zc := by
  have h1 := L.g1
  have h2 := L.g2
  obtain ⟨ys, ho⟩ := L.own
  refine ⟨⟨_, (ho.stored j u).1⟩, fun i => ?_, fun i => ?_, fun i => ?_, L.B.setCell (by show _ ≤ g; omega) _, by simpa using L.sz, L.g1, L.g2⟩
  · rw [cell_off _ _ _ _ _ _ (by omega)]; exact L.r i
  · rw [cell_off _ _ _ _ _ _ (by omega)]; exact L.R i
  · rw [frozen_off _ _ _ _ _ _ (by omega)]; exact L.Rf i

theorem Lp.cell {w w2 wr : World} {g n c : Nat} {qc zc : Array Value} (L : Lp w w2 wr g n c qc zc) (j : Nat) (hj : j < n) : (∃ u, wr.cell? ⟨g, j, none⟩ = some u) ∧ wr.frozen? ⟨g, j, none⟩ = false := by
  obtain ⟨ys, ho⟩ := L.own
  have hl : ys.length = n := by simpa using ho.1
  refine ⟨⟨ys[j]'(by omega), ?_⟩, ho.frozenAt j⟩
  rw [ho.cellAt j (by omega), List.getElem?_eq_getElem (by omega)]

theorem Lp.start {w w1 w2 : World} {g n c : Nat} {xs : List Value} {qc zc : Array Value} (ty : TypeId) (ho : w1.ownsRow (w.heap.size + 1) 5 1 (.slice (some ⟨g, 0, none⟩) n c) n xs) (hb2 : Below w1.heap.size w1 w2) (hgb : w.heap.size + 1 ≤ g) (hgl1 : g < w1.heap.size)
    (hR1 : ∀ j, w1.cell? ⟨w.heap.size, j, none⟩ = zc[j]?) (hRf1 : ∀ j, w1.frozen? ⟨w.heap.size, j, none⟩ = false) (hB1 : Below w.heap.size w w1) (hs1 : w.heap.size + 1 ≤ w1.heap.size) : Lp w w2 (w2.alloc (.cells qc ty)) g n c qc zc := by
  have hs2 := hb2.size
  refine ⟨⟨xs, (own_below ho hb2 hgl1).alloc _⟩, fun j => cell_box w2 _ _ j, fun j => ?_, fun j => ?_, (hB1.trans (hb2.mono (by omega))).alloc (by omega) _, by simp, by omega, by omega⟩
  · rw [World.cell?_alloc_lt _ _ ⟨w.heap.size, j, none⟩ (by show w.heap.size < _; omega), hb2.cell (p := ⟨w.heap.size, j, none⟩) (by show w.heap.size < _; omega)]; exact hR1 j
  · rw [World.frozen?_alloc_past _ _ _ (by omega), hb2.frozen (p := ⟨w.heap.size, j, none⟩) (by show w.heap.size < _; omega)]; exact hRf1 j
end Go.Proofs.YtlamgpeiolfffaaGreatDoor
