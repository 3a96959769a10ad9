import Derived.Test.YtekjhmemiflbdaaDoorRefd
import Derived.Test.YtekjhmemiflbdaaDoorSt
import Derived.BigRegion
import Derived.RegionTactic
import Derived.BigQuiet
namespace Go.Proofs.YtekjhmemiflbdaaDoor
open Go.RowKit

/-- How memory stands while the document's reader reads. -/
structure St2 (w W : World) (g : Nat) (rc : Array Value) : Prop where
  r : ∀ j, W.cell? ⟨w.heap.size + 1, j, none⟩ = rc[j]?
  rf : ∀ j, W.frozen? ⟨w.heap.size + 1, j, none⟩ = false
  R : ∀ j, W.cell? ⟨w.heap.size, j, none⟩ = (#[.int .u8 0, .int .u8 0, .int .u8 0, .int .u8 0, .int .u8 0, .int .u8 0, .int .u8 0, .int .u8 0, .int .u8 0, .int .u8 0, .int .u64 0, .int .u64 0, .int .u64 0] : Array Value)[j]?
  Rf : ∀ j, W.frozen? ⟨w.heap.size, j, none⟩ = false
  G : ∀ j, W.cell? ⟨g, j, none⟩ = w.cell? ⟨g, j, none⟩
  B : Below w.heap.size w W
  hg : g < w.heap.size

theorem St2.setr {w W : World} {g : Nat} {rc : Array Value} (S : St2 w W g rc) (i : Nat) (hi : i < rc.size) (u : Value) : St2 w (W.setCell ⟨w.heap.size + 1, i, none⟩ u) g (rc.setIfInBounds i u) := by
  have hg := S.hg
  refine ⟨fun j => ?_, fun j => ?_, fun j => ?_, fun j => ?_, fun j => ?_, S.B.setCell (by show _ ≤ w.heap.size + 1; omega) _, S.hg⟩
  · by_cases h : j = i
    · subst h
      have hj := S.r j
      rw [Array.getElem?_eq_getElem hi] at hj
      rw [World.cell?_setCell_same W _ _ hj, Array.getElem?_setIfInBounds, if_pos rfl, if_pos hi]
    · have hne : ¬ i = j := fun e => h e.symm
      rw [Array.getElem?_setIfInBounds, if_neg hne, ← S.r j]
      exact World.cell?_setCell_other W _ _ _ (by intro e; injection e with _ e2 _; exact hne e2)
  · rw [World.frozen?_setCell]; exact S.rf j
  · rw [cell_off _ _ _ _ _ _ (by omega)]; exact S.R j
  · rw [frozen_off _ _ _ _ _ _ (by omega)]; exact S.Rf j
  · rw [cell_off _ _ _ _ _ _ (by omega)]; exact S.G j

theorem St2.start (w : World) (g : Nat) (hg : g < w.heap.size) (c : Array Value) : St2 w ((w.alloc (.cells #[.int .u8 0, .int .u8 0, .int .u8 0, .int .u8 0, .int .u8 0, .int .u8 0, .int .u8 0, .int .u8 0, .int .u8 0, .int .u8 0, .int .u64 0, .int .u64 0, .int .u64 0] 28)).alloc (.cells c 28)) g c := by
  refine ⟨fun j => ?_, fun j => by simp, fun j => ?_, fun j => ?_, fun j => ?_, ((Below.refl _ w).alloc (Nat.le_refl _) _).alloc (by simp) _, hg⟩
  · exact World.cell?_alloc_at _ _ _ _ (by simp)
  · rw [World.cell?_alloc_past _ _ _ (by simp)]; exact cell_box w _ _ j
  · rw [World.frozen?_alloc_past _ _ _ (by simp)]; simp
  · rw [World.cell?_alloc_past _ _ _ (by simp; omega), World.cell?_alloc_past _ _ _ hg]

def keyArr (op : Int) (b : Nat → Int) (j : Nat) : Array Value := #[.int .u8 op, .int .u8 (if 0 < j then b 2 else 0), .int .u8 (if 1 < j then b 3 else 0), .int .u8 (if 2 < j then b 4 else 0), .int .u8 (if 3 < j then b 5 else 0), .int .u8 (if 4 < j then b 6 else 0), .int .u8 (if 5 < j then b 7 else 0), .int .u8 (if 6 < j then b 8 else 0), .int .u8 (if 7 < j then b 9 else 0), .int .u8 0, .int .u64 0, .int .u64 0, .int .u64 0]
theorem keyArr_step (op : Int) (b : Nat → Int) (j : Nat) (hj : j < 8) : (keyArr op b j).setIfInBounds (1 + j) (.int .u8 (b (2 + j))) = keyArr op b (j + 1) := by
  match j, hj with
  | 0, _ => rfl
  | 1, _ => rfl
  | 2, _ => rfl
  | 3, _ => rfl
  | 4, _ => rfl
  | 5, _ => rfl
  | 6, _ => rfl
  | 7, _ => rfl
theorem keyArr_zero (op : Int) (b : Nat → Int) : keyArr op b 0 = #[.int .u8 op, .int .u8 0, .int .u8 0, .int .u8 0, .int .u8 0, .int .u8 0, .int .u8 0, .int .u8 0, .int .u8 0, .int .u8 0, .int .u64 0, .int .u64 0, .int .u64 0] := rfl
theorem keyArr_eight (op : Int) (b : Nat → Int) : keyArr op b 8 = #[.int .u8 op, .int .u8 (b 2), .int .u8 (b 3), .int .u8 (b 4), .int .u8 (b 5), .int .u8 (b 6), .int .u8 (b 7), .int .u8 (b 8), .int .u8 (b 9), .int .u8 0, .int .u64 0, .int .u64 0, .int .u64 0] := rfl
end Go.Proofs.YtekjhmemiflbdaaDoor
