import Derived.Test.YtjkepphpahfdgaaDoorAfter
namespace Go.Proofs.YtjkepphpahfdgaaDoor
open Go.RowKit

/-- How memory stands while a request is read: F: the fields that are left; r: the request; the result; the bytes. -/
structure St (w w2 W : World) (g : Nat) (left : Value) (rc : Array Value) : Prop where
  F : W.cell? ⟨w2.heap.size, 0, none⟩ = some left
  Ff : W.frozen? ⟨w2.heap.size, 0, none⟩ = false
  r : ∀ j, W.cell? ⟨w2.heap.size + 1, j, none⟩ = rc[j]?
  rf : ∀ j, W.frozen? ⟨w2.heap.size + 1, j, none⟩ = false
  R : ∀ j, W.cell? ⟨w.heap.size, j, none⟩ = (#[.int .u8 0, .int .u8 0, .int .u8 0, .int .u8 0, .int .u8 0, .int .u8 0, .int .u8 0, .int .u8 0, .int .u8 0, .int .u8 0, .int .u64 0, .int .u64 0, .int .u64 0] : Array Value)[j]?
  Rf : ∀ j, W.frozen? ⟨w.heap.size, j, none⟩ = false
  G : ∀ j, W.cell? ⟨g, j, none⟩ = w.cell? ⟨g, j, none⟩
  B : Below w.heap.size w W
  sz : w2.heap.size + 1 < W.heap.size
  hg : g < w.heap.size
  h2 : w.heap.size < w2.heap.size

theorem cell_off (W : World) (b i c j : Nat) (u : Value) (h : b ≠ c) : (W.setCell ⟨c, j, none⟩ u).cell? ⟨b, i, none⟩ = W.cell? ⟨b, i, none⟩ :=
  World.cell?_of_block (w := W) (Below.heap_setCell W ⟨c, j, none⟩ u b h)
theorem frozen_off (W : World) (b i c j : Nat) (u : Value) (h : b ≠ c) : (W.setCell ⟨c, j, none⟩ u).frozen? ⟨b, i, none⟩ = W.frozen? ⟨b, i, none⟩ :=
  World.frozen?_of_block (w := W) (Below.heap_setCell W ⟨c, j, none⟩ u b h)

theorem St.setF {w w2 W : World} {g : Nat} {left : Value} {rc : Array Value} (S : St w w2 W g left rc) (v : Value) : St w w2 (W.setCell ⟨w2.heap.size, 0, none⟩ v) g v rc := by
  have h2 := S.h2
  have hg := S.hg
  refine ⟨?_, ?_, fun j => ?_, fun j => ?_, fun j => ?_, fun j => ?_, fun j => ?_, S.B.setCell (by show _ ≤ w2.heap.size; omega) _, by simpa using S.sz, S.hg, S.h2⟩
  · exact World.cell?_setCell_same W _ _ S.F
  · rw [World.frozen?_setCell]; exact S.Ff
  · rw [cell_off _ _ _ _ _ _ (by omega)]; exact S.r j
  · rw [frozen_off _ _ _ _ _ _ (by omega)]; exact S.rf j
  · rw [cell_off _ _ _ _ _ _ (by omega)]; exact S.R j
  · rw [frozen_off _ _ _ _ _ _ (by omega)]; exact S.Rf j
  · rw [cell_off _ _ _ _ _ _ (by omega)]; exact S.G j

theorem St.setr {w w2 W : World} {g : Nat} {left : Value} {rc : Array Value} (S : St w w2 W g left rc) (i : Nat) (hi : i < rc.size) (u : Value) : St w w2 (W.setCell ⟨w2.heap.size + 1, i, none⟩ u) g left (rc.setIfInBounds i u) := by
  have h2 := S.h2
  have hg := S.hg
  refine ⟨?_, ?_, fun j => ?_, fun j => ?_, fun j => ?_, fun j => ?_, fun j => ?_, S.B.setCell (by show _ ≤ w2.heap.size + 1; omega) _, by simpa using S.sz, S.hg, S.h2⟩
  · rw [cell_off _ _ _ _ _ _ (by omega)]; exact S.F
  · rw [frozen_off _ _ _ _ _ _ (by omega)]; exact S.Ff
  · by_cases h : j = i
    · subst h
      have hj := S.r j
      rw [Array.getElem?_eq_getElem hi] at hj
      rw [World.cell?_setCell_same W _ _ hj, Array.getElem?_setIfInBounds, if_pos rfl, if_pos hi]
    · have hne : ¬ i = j := fun e => h e.symm
      rw [Array.getElem?_setIfInBounds, if_neg hne, ← S.r j]
      exact World.cell?_setCell_other W _ _ _ (by intro e; injection e with _ e2 _; exact hne e2)
  · rw [World.frozen?_setCell]; exact S.rf j
  · rw [cell_off _ _ _ _ _ _ (by omega)]; exact S.R j
  · rw [frozen_off _ _ _ _ _ _ (by omega)]; exact S.Rf j
  · rw [cell_off _ _ _ _ _ _ (by omega)]; exact S.G j

theorem St.of_key {w w2 w5 : World} {g : Nat} {u v : Value} {rc : Array Value} (hB2 : Below w.heap.size w w2) (hg : g < w.heap.size) (hs2 : w.heap.size < w2.heap.size)
    (hR : ∀ j, w2.cell? ⟨w.heap.size, j, none⟩ = (#[.int .u8 0, .int .u8 0, .int .u8 0, .int .u8 0, .int .u8 0, .int .u8 0, .int .u8 0, .int .u8 0, .int .u8 0, .int .u8 0, .int .u64 0, .int .u64 0, .int .u64 0] : Array Value)[j]?) (hRf : ∀ j, w2.frozen? ⟨w.heap.size, j, none⟩ = false)
    (h : Below ((w2.alloc (.cells #[u] 86)).alloc (.cells rc 28)).heap.size (((w2.alloc (.cells #[u] 86)).alloc (.cells rc 28)).setCell ⟨w2.heap.size, 0, none⟩ v) w5) : St w w2 w5 g v rc := by
  obtain ⟨hc5, hf5, hF5, hFf5, hr5, hrf5, hB5, hs5⟩ := after_key h
  exact ⟨hF5, hFf5, hr5, hrf5, fun j => (hc5 w.heap.size j hs2).trans (hR j), fun j => (hf5 w.heap.size j hs2).trans (hRf j), fun j => (hc5 g j (by omega)).trans (hB2.cell (p := ⟨g, j, none⟩) hg), hB2.trans (hB5.mono (by omega)), hs5, hg, hs2⟩
end Go.Proofs.YtjkepphpahfdgaaDoor
