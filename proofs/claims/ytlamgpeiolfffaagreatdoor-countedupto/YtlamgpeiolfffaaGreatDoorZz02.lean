import Derived.Test.YtlamgpeiolfffaaGreatDoorZz01
import Derived.BigRegion
import Derived.RegionTactic
import Derived.BigQuiet
namespace Go.Proofs.YtlamgpeiolfffaaGreatDoor
open Go.RowKit
theorem set_first (w2 : World) (u v : Value) (rc : Array Value) : ((w2.alloc (.cells #[u] 192)).alloc (.cells rc 58)).setCell ⟨w2.heap.size, 0, none⟩ v = (w2.alloc (.cells #[v] 192)).alloc (.cells rc 58) := by
  rw [World.setCell_alloc_past _ _ _ _ (by simp), World.setCell_alloc_at _ _ _ _ _ rfl]; rfl

theorem after_key {w2 w5 : World} {u v : Value} {rc : Array Value} (h : Below ((w2.alloc (.cells #[u] 192)).alloc (.cells rc 58)).heap.size (((w2.alloc (.cells #[u] 192)).alloc (.cells rc 58)).setCell ⟨w2.heap.size, 0, none⟩ v) w5) :
    (∀ b j, b < w2.heap.size → w5.cell? ⟨b, j, none⟩ = w2.cell? ⟨b, j, none⟩) ∧ (∀ b j, b < w2.heap.size → w5.frozen? ⟨b, j, none⟩ = w2.frozen? ⟨b, j, none⟩) ∧ w5.cell? ⟨w2.heap.size, 0, none⟩ = some v ∧ w5.frozen? ⟨w2.heap.size, 0, none⟩ = false ∧
    (∀ j, w5.cell? ⟨w2.heap.size + 1, j, none⟩ = rc[j]?) ∧ (∀ j, w5.frozen? ⟨w2.heap.size + 1, j, none⟩ = false) ∧ Below w2.heap.size w2 w5 ∧ w2.heap.size + 1 < w5.heap.size := by
  rw [set_first] at h
  have hB : Below w2.heap.size w2 ((w2.alloc (.cells #[v] 192)).alloc (.cells rc 58)) := ((Below.refl _ _).alloc (Nat.le_refl _) _).alloc (by simp) _
  have hB5 : Below w2.heap.size w2 w5 := hB.trans (h.mono (by simp; omega))
  refine ⟨fun b j hb => hB5.cell (p := ⟨b, j, none⟩) hb, fun b j hb => hB5.frozen (p := ⟨b, j, none⟩) hb, ?_, ?_, fun j => ?_, fun j => ?_, hB5, ?_⟩
  · rw [h.cell (p := ⟨w2.heap.size, 0, none⟩) (by simp; omega)]; simp
  · rw [h.frozen (p := ⟨w2.heap.size, 0, none⟩) (by simp; omega)]; simp
  · rw [h.cell (p := ⟨w2.heap.size + 1, j, none⟩) (by simp)]
    simp
  · rw [h.frozen (p := ⟨w2.heap.size + 1, j, none⟩) (by simp)]; simp
  · have := h.size; simp at this; omega
end Go.Proofs.YtlamgpeiolfffaaGreatDoor

namespace Go.Proofs.YtlamgpeiolfffaaGreatDoor
open Go.RowKit

/-- How memory stands while a request is read: F: the fields that are left; r: the request; the result; the bytes. -/
structure St (w w2 W : World) (g : Nat) (left : Value) (rc : Array Value) : Prop where
  F : W.cell? ⟨w2.heap.size, 0, none⟩ = some left
  Ff : W.frozen? ⟨w2.heap.size, 0, none⟩ = false
  r : ∀ j, W.cell? ⟨w2.heap.size + 1, j, none⟩ = rc[j]?
  rf : ∀ j, W.frozen? ⟨w2.heap.size + 1, j, none⟩ = false
  R : ∀ j, W.cell? ⟨w.heap.size, j, none⟩ = (#[.int .u8 0, .int .u8 0, .int .u8 0, .int .u8 0, .int .u8 0, .int .u8 0, .int .u8 0, .int .u8 0, .int .u8 0, .int .u8 0, .int .u64 0, .int .u64 0, .int .u64 0] : Array Value)[j]?
  Rf : ∀ j, W.frozen? ⟨w.heap.size, j, none⟩ = false
  G : ∀ j, W.cell? ⟨g, j, none⟩ = w.cell? ⟨g, j, none⟩
  B : Below w.heap.size w W
  sz : w2.heap.size + 1 < W.heap.size
  hg : g < w.heap.size
  h2 : w.heap.size < w2.heap.size

theorem cell_off (W : World) (b i c j : Nat) (u : Value) (h : b ≠ c) : (W.setCell ⟨c, j, none⟩ u).cell? ⟨b, i, none⟩ = W.cell? ⟨b, i, none⟩ :=
  World.cell?_of_block (w := W) (Below.heap_setCell W ⟨c, j, none⟩ u b h)
theorem frozen_off (W : World) (b i c j : Nat) (u : Value) (h : b ≠ c) : (W.setCell ⟨c, j, none⟩ u).frozen? ⟨b, i, none⟩ = W.frozen? ⟨b, i, none⟩ :=
  World.frozen?_of_block (w := W) (Below.heap_setCell W ⟨c, j, none⟩ u b h)

theorem St.setF {w w2 W : World} {g : Nat} {left : Value} {rc : Array Value} (S : St w w2 W g left rc) (v : Value) : St w w2 (W.setCell ⟨w2.heap.size, 0, none⟩ v) g v rc := by
  have h2 := S.h2
  have hg := S.hg
  refine ⟨?_, ?_, fun j => ?_, fun j => ?_, fun j => ?_, fun j => ?_, fun j => ?_, S.B.setCell (by show _ ≤ w2.heap.size; omega) _, by simpa using S.sz, S.hg, S.h2⟩
  · exact World.cell?_setCell_same W _ _ S.F
  · rw [World.frozen?_setCell]; exact S.Ff
  · rw [cell_off _ _ _ _ _ _ (by omega)]; exact S.r j
  · rw [frozen_off _ _ _ _ _ _ (by omega)]; exact S.rf j
  · rw [cell_off _ _ _ _ _ _ (by omega)]; exact S.R j
  · rw [frozen_off _ _ _ _ _ _ (by omega)]; exact S.Rf j
  · rw [cell_off _ _ _ _ _ _ (by omega)]; exact S.G j

theorem St.setr {w w2 W : World} {g : Nat} {left : Value} {rc : Array Value} (S : St w w2 W g left rc) (i : Nat) (hi : i < rc.size) (u : Value) : St w w2 (W.setCell ⟨w2.heap.size + 1, i, none⟩ u) g left (rc.setIfInBounds i u) := by
  have h2 := S.h2
  have hg := S.hg
  refine ⟨?_, ?_, fun j => ?_, fun j => ?_, fun j => ?_, fun j => ?_, fun j => ?_, S.B.setCell (by show _ ≤ w2.heap.size + 1; omega) _, by simpa using S.sz, S.hg, S.h2⟩
  · rw [cell_off _ _ _ _ _ _ (by omega)]; exact S.F
  · rw [frozen_off _ _ _ _ _ _ (by omega)]; exact S.Ff
  · by_cases h : j = i
    · subst h
      have hj := S.r j
      rw [Array.getElem?_eq_getElem hi] at hj
      rw [World.cell?_setCell_same W _ _ hj, Array.getElem?_setIfInBounds, if_pos rfl, if_pos hi]
    · have hne : ¬ i = j := fun e => h e.symm
      rw [Array.getElem?_setIfInBounds, if_neg hne, ← S.r j]
      exact World.cell?_setCell_other W _ _ _ (by intro e; injection e with _ e2 _; exact hne e2)
  · rw [World.frozen?_setCell]; exact S.rf j
  · rw [cell_off _ _ _ _ _ _ (by omega)]; exact S.R j
  · rw [frozen_off _ _ _ _ _ _ (by omega)]; exact S.Rf j
  · rw [cell_off _ _ _ _ _ _ (by omega)]; exact S.G j

theorem St.of_key {w w2 w5 : World} {g : Nat} {u v : Value} {rc : Array Value} (hB2 : Below w.heap.size w w2) (hg : g < w.heap.size) (hs2 : w.heap.size < w2.heap.size)
    (hR : ∀ j, w2.cell? ⟨w.heap.size, j, none⟩ = (#[.int .u8 0, .int .u8 0, .int .u8 0, .int .u8 0, .int .u8 0, .int .u8 0, .int .u8 0, .int .u8 0, .int .u8 0, .int .u8 0, .int .u64 0, .int .u64 0, .int .u64 0] : Array Value)[j]?) (hRf : ∀ j, w2.frozen? ⟨w.heap.size, j, none⟩ = false)
    (h : Below ((w2.alloc (.cells #[u] 192)).alloc (.cells rc 58)).heap.size (((w2.alloc (.cells #[u] 192)).alloc (.cells rc 58)).setCell ⟨w2.heap.size, 0, none⟩ v) w5) : St w w2 w5 g v rc := by
  obtain ⟨hc5, hf5, hF5, hFf5, hr5, hrf5, hB5, hs5⟩ := after_key h
  exact ⟨hF5, hFf5, hr5, hrf5, fun j => (hc5 w.heap.size j hs2).trans (hR j), fun j => (hf5 w.heap.size j hs2).trans (hRf j), fun j => (hc5 g j (by omega)).trans (hB2.cell (p := ⟨g, j, none⟩) hg), hB2.trans (hB5.mono (by omega)), hs5, hg, hs2⟩
end Go.Proofs.YtlamgpeiolfffaaGreatDoor

namespace Go.Proofs.YtlamgpeiolfffaaGreatDoor
open Go.RowKit

/-- How memory stands while the document's reader reads. -/
structure St2 (w W : World) (g : Nat) (rc : Array Value) : Prop where
  r : ∀ j, W.cell? ⟨w.heap.size + 1, j, none⟩ = rc[j]?
  rf : ∀ j, W.frozen? ⟨w.heap.size + 1, j, none⟩ = false
  R : ∀ j, W.cell? ⟨w.heap.size, j, none⟩ = (#[.int .u8 0, .int .u8 0, .int .u8 0, .int .u8 0, .int .u8 0, .int .u8 0, .int .u8 0, .int .u8 0, .int .u8 0, .int .u8 0, .int .u64 0, .int .u64 0, .int .u64 0] : Array Value)[j]?
  Rf : ∀ j, W.frozen? ⟨w.heap.size, j, none⟩ = false
  G : ∀ j, W.cell? ⟨g, j, none⟩ = w.cell? ⟨g, j, none⟩
  B : Below w.heap.size w W
  hg : g < w.heap.size

theorem St2.setr {w W : World} {g : Nat} {rc : Array Value} (S : St2 w W g rc) (i : Nat) (hi : i < rc.size) (u : Value) : St2 w (W.setCell ⟨w.heap.size + 1, i, none⟩ u) g (rc.setIfInBounds i u) := by
  have hg := S.hg
  refine ⟨fun j => ?_, fun j => ?_, fun j => ?_, fun j => ?_, fun j => ?_, S.B.setCell (by show _ ≤ w.heap.size + 1; omega) _, S.hg⟩
  · by_cases h : j = i
    · subst h
      have hj := S.r j
      rw [Array.getElem?_eq_getElem hi] at hj
      rw [World.cell?_setCell_same W _ _ hj, Array.getElem?_setIfInBounds, if_pos rfl, if_pos hi]
    · have hne : ¬ i = j := fun e => h e.symm
      rw [Array.getElem?_setIfInBounds, if_neg hne, ← S.r j]
      exact World.cell?_setCell_other W _ _ _ (by intro e; injection e with _ e2 _; exact hne e2)
  · rw [World.frozen?_setCell]; exact S.rf j
  · rw [cell_off _ _ _ _ _ _ (by omega)]; exact S.R j
  · rw [frozen_off _ _ _ _ _ _ (by omega)]; exact S.Rf j
  · rw [cell_off _ _ _ _ _ _ (by omega)]; exact S.G j

theorem St2.start (w : World) (g : Nat) (hg : g < w.heap.size) (c : Array Value) : St2 w ((w.alloc (.cells #[.int .u8 0, .int .u8 0, .int .u8 0, .int .u8 0, .int .u8 0, .int .u8 0, .int .u8 0, .int .u8 0, .int .u8 0, .int .u8 0, .int .u64 0, .int .u64 0, .int .u64 0] 58)).alloc (.cells c 58)) g c := by
  refine ⟨fun j => ?_, fun j => by simp, fun j => ?_, fun j => ?_, fun j => ?_, ((Below.refl _ w).alloc (Nat.le_refl _) _).alloc (by simp) _, hg⟩
  · exact World.cell?_alloc_at _ _ _ _ (by simp)
  · rw [World.cell?_alloc_past _ _ _ (by simp)]; exact cell_box w _ _ j
  · rw [World.frozen?_alloc_past _ _ _ (by simp)]; simp
  · rw [World.cell?_alloc_past _ _ _ (by simp; omega), World.cell?_alloc_past _ _ _ hg]

def keyArr (op : Int) (b : Nat → Int) (j : Nat) : Array Value := #[.int .u8 op, .int .u8 (if 0 < j then b 2 else 0), .int .u8 (if 1 < j then b 3 else 0), .int .u8 (if 2 < j then b 4 else 0), .int .u8 (if 3 < j then b 5 else 0), .int .u8 (if 4 < j then b 6 else 0), .int .u8 (if 5 < j then b 7 else 0), .int .u8 (if 6 < j then b 8 else 0), .int .u8 (if 7 < j then b 9 else 0), .int .u8 0, .int .u64 0, .int .u64 0, .int .u64 0]
theorem keyArr_step (op : Int) (b : Nat → Int) (j : Nat) (hj : j < 8) : (keyArr op b j).setIfInBounds (1 + j) (.int .u8 (b (2 + j))) = keyArr op b (j + 1) := by
  match j, hj with
  | 0, _ => rfl
  | 1, _ => rfl
  | 2, _ => rfl
  | 3, _ => rfl
  | 4, _ => rfl
  | 5, _ => rfl
  | 6, _ => rfl
  | 7, _ => rfl
theorem keyArr_zero (op : Int) (b : Nat → Int) : keyArr op b 0 = #[.int .u8 op, .int .u8 0, .int .u8 0, .int .u8 0, .int .u8 0, .int .u8 0, .int .u8 0, .int .u8 0, .int .u8 0, .int .u8 0, .int .u64 0, .int .u64 0, .int .u64 0] := rfl
theorem keyArr_eight (op : Int) (b : Nat → Int) : keyArr op b 8 = #[.int .u8 op, .int .u8 (b 2), .int .u8 (b 3), .int .u8 (b 4), .int .u8 (b 5), .int .u8 (b 6), .int .u8 (b 7), .int .u8 (b 8), .int .u8 (b 9), .int .u8 0, .int .u64 0, .int .u64 0, .int .u64 0] := rfl
end Go.Proofs.YtlamgpeiolfffaaGreatDoor
