import Derived.Test.YtjkepphpahfdgaaDoorWreq
namespace Go.Proofs.YtjkepphpahfdgaaDoor
open Go.RowKit
theorem set_first (w2 : World) (u v : Value) (rc : Array Value) : ((w2.alloc (.cells #[u] 86)).alloc (.cells rc 28)).setCell ⟨w2.heap.size, 0, none⟩ v = (w2.alloc (.cells #[v] 86)).alloc (.cells rc 28) := by
  rw [World.setCell_alloc_past _ _ _ _ (by simp), World.setCell_alloc_at _ _ _ _ _ rfl]; rfl

theorem after_key {w2 w5 : World} {u v : Value} {rc : Array Value} (h : Below ((w2.alloc (.cells #[u] 86)).alloc (.cells rc 28)).heap.size (((w2.alloc (.cells #[u] 86)).alloc (.cells rc 28)).setCell ⟨w2.heap.size, 0, none⟩ v) w5) :
    (∀ b j, b < w2.heap.size → w5.cell? ⟨b, j, none⟩ = w2.cell? ⟨b, j, none⟩) ∧ (∀ b j, b < w2.heap.size → w5.frozen? ⟨b, j, none⟩ = w2.frozen? ⟨b, j, none⟩) ∧ w5.cell? ⟨w2.heap.size, 0, none⟩ = some v ∧ w5.frozen? ⟨w2.heap.size, 0, none⟩ = false ∧
    (∀ j, w5.cell? ⟨w2.heap.size + 1, j, none⟩ = rc[j]?) ∧ (∀ j, w5.frozen? ⟨w2.heap.size + 1, j, none⟩ = false) ∧ Below w2.heap.size w2 w5 ∧ w2.heap.size + 1 < w5.heap.size := by
  rw [set_first] at h
  have hB : Below w2.heap.size w2 ((w2.alloc (.cells #[v] 86)).alloc (.cells rc 28)) := ((Below.refl _ _).alloc (Nat.le_refl _) _).alloc (by simp) _
  have hB5 : Below w2.heap.size w2 w5 := hB.trans (h.mono (by simp; omega))
  refine ⟨fun b j hb => hB5.cell (p := ⟨b, j, none⟩) hb, fun b j hb => hB5.frozen (p := ⟨b, j, none⟩) hb, ?_, ?_, fun j => ?_, fun j => ?_, hB5, ?_⟩
  · rw [h.cell (p := ⟨w2.heap.size, 0, none⟩) (by simp; omega)]; simp
  · rw [h.frozen (p := ⟨w2.heap.size, 0, none⟩) (by simp; omega)]; simp
  · rw [h.cell (p := ⟨w2.heap.size + 1, j, none⟩) (by simp)]
    simp
  · rw [h.frozen (p := ⟨w2.heap.size + 1, j, none⟩) (by simp)]; simp
  · have := h.size; simp at this; omega
end Go.Proofs.YtjkepphpahfdgaaDoor
