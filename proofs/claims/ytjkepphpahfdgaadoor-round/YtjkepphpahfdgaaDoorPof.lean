import Derived.Test.YtjkepphpahfdgaaDoorSt
import Derived.Test.YtjkepphpahfdgaaDoorField
namespace Go.Proofs.YtjkepphpahfdgaaDoor
open Go.RowKit

set_option maxRecDepth 100000 in
set_option maxHeartbeats 400000 in
theorem of_any (ao : Option Addr) (n c : Nat) (w : World) : Calls Tryd.prog 33 #[.slice ao n c] w fun e w' => e = .returned (.pointer (some ⟨w.heap.size, 0, none⟩)) ∧ w' = w.alloc (.cells #[.slice ao n c] 86) := by
  go_enter Tryd.func33, Tryd.ntmps33
  go_wp2
  go_ret
  exact ⟨rfl, rfl⟩

theorem grown_at {w W : World} {F c j : Nat} (v : Value) (h : w.grownBy W (some F)) (hc : c = F ∨ w.heap.size ≤ c) : w.grownBy (W.setCell ⟨c, j, none⟩ v) (some F) := by
  refine ⟨h.os, h.tape, h.output, by simpa using h.size, fun k hk hne => ?_⟩
  refine (Below.heap_setCell W ⟨c, j, none⟩ v k ?_).trans (h.block k hk hne)
  show k ≠ c
  rcases hc with rfl | hc
  · exact fun e => hne (by rw [e])
  · omega

theorem St.of_grown {w w2 W W' : World} {g : Nat} {left v : Value} {rc : Array Value} (S : St w w2 W g left rc) (h : W.grownBy W' (some w2.heap.size)) (hF : W'.cell? ⟨w2.heap.size, 0, none⟩ = some v) (hFf : W'.frozen? ⟨w2.heap.size, 0, none⟩ = false) : St w w2 W' g v rc := by
  have h2 := S.h2
  have hg := S.hg
  have hz := S.sz
  have hs := h.size
  have hc : ∀ b, b ≠ w2.heap.size → b < W.heap.size → W'.heap[b]? = W.heap[b]? := fun b hb hl => h.block b hl (by intro e; injection e with e; exact hb e)
  refine ⟨hF, hFf, fun j => ?_, fun j => ?_, fun j => ?_, fun j => ?_, fun j => ?_, S.B.grown h (by have := S.B.size; omega) (by intro _ e; injection e with e; omega), by omega, S.hg, S.h2⟩
  · exact (World.cell?_of_block (w := W) (hc (w2.heap.size + 1) (by omega) hz)).trans (S.r j)
  · exact (World.frozen?_of_block (w := W) (hc (w2.heap.size + 1) (by omega) hz)).trans (S.rf j)
  · exact (World.cell?_of_block (w := W) (hc w.heap.size (by omega) (by omega))).trans (S.R j)
  · exact (World.frozen?_of_block (w := W) (hc w.heap.size (by omega) (by omega))).trans (S.Rf j)
  · exact (World.cell?_of_block (w := W) (hc g (by omega) (by omega))).trans (S.G j)

set_option maxRecDepth 100000 in
set_option maxHeartbeats 1000000 in
theorem policy_any (F g o m : Nat) (kd : Int) (cx cy : Nat → Int) (w : World) (hFl : F < w.heap.size) (hgF : g ≠ F) (hgl : g < w.heap.size) (hF : w.cell? ⟨F, 0, none⟩ = some (.slice (some ⟨g, o, none⟩) m m)) (hz : w.frozen? ⟨F, 0, none⟩ = false) (hm : 17 ≤ m) (hm1 : m ≤ 255) (hkd : w.cell? ⟨g, o, none⟩ = some (.int .u8 kd)) (hcx : ∀ j, j < 8 → w.cell? ⟨g, o + 1 + j, none⟩ = some (.int .u8 (cx j))) (hxr : ∀ j, 0 ≤ cx j ∧ cx j ≤ 255) (hcy : ∀ j, j < 8 → w.cell? ⟨g, o + 9 + j, none⟩ = some (.int .u8 (cy j))) (hyr : ∀ j, 0 ≤ cy j ∧ cy j ≤ 255) :
    Calls Tryd.prog 36 #[.pointer (some ⟨F, 0, none⟩)] w fun e w' => e = .returned (.agg #[.int .u8 kd, .int .u64 (rdTo cx 8), .int .u64 (rdTo cy 8)]) ∧ (∃ ao, w'.cell? ⟨F, 0, none⟩ = some (.slice ao (m - 17) (m - 17)) ∧ (17 < m → ao = some ⟨g, o + 17, none⟩)) ∧ w'.frozen? ⟨F, 0, none⟩ = false ∧ w.grownBy w' (some F) := by
  have HX := hide hcx
  have HY := hide hcy
  have HXR := hide hxr
  have HYR := hide hyr
  clear hcx hcy hxr hyr
  go_enter Tryd.func36, Tryd.ntmps36
  go_wp2_with fail
  obtain ⟨V, hV⟩ : ∃ V, V = w.alloc (.cells #[.int .u8 0, .int .u64 0, .int .u64 0] 26) := ⟨_, rfl⟩
  rw [← hV]
  have cV : ∀ b j, b < w.heap.size → V.cell? ⟨b, j, none⟩ = w.cell? ⟨b, j, none⟩ := fun b j h => by rw [hV, World.cell?_alloc_lt _ _ ⟨b, j, none⟩ h]
  have fV : V.frozen? ⟨F, 0, none⟩ = false := by rw [hV]; exact (World.frozen?_of_block (w := w) ((World.grownBy_alloc w _ none).block F hFl (by simp))).trans hz
  have nV : ∀ j, V.cell? ⟨w.heap.size, j, none⟩ = (#[.int .u8 0, .int .u64 0, .int .u64 0] : Array Value)[j]? := fun j => by rw [hV]; exact World.cell?_alloc_at _ _ _ _ rfl
  have nfV : ∀ j, V.frozen? ⟨w.heap.size, j, none⟩ = false := fun j => by rw [hV]; simp
  have gV : w.grownBy V (some F) := by rw [hV]; exact World.grownBy_alloc _ _ _
  clear hV
  refine (small_more F g o m kd V ((cV F 0 hFl).trans hF) fV (by omega) (by omega) ((cV g o hgl).trans hkd)).mono ?_
  rintro e w1 ⟨rfl, hw1⟩
  have c1 : ∀ b j, b ≠ F → w1.cell? ⟨b, j, none⟩ = V.cell? ⟨b, j, none⟩ := fun b j h => by rw [hw1]; exact cell_off _ _ _ _ _ _ h
  have F1 : w1.cell? ⟨F, 0, none⟩ = some (.slice (some ⟨g, o + 1, none⟩) (m - 1) (m - 1)) := by rw [hw1]; exact World.cell?_setCell_same V _ _ ((cV F 0 hFl).trans hF)
  have f1 : ∀ b j, V.frozen? ⟨b, j, none⟩ = false → w1.frozen? ⟨b, j, none⟩ = false := fun b j h => by rw [hw1, World.frozen?_setCell]; exact h
  have g1 : w.grownBy w1 (some F) := by rw [hw1]; exact grown_at _ gV (Or.inl rfl)
  clear hw1
  go_wp2_with fail
  refine (number_any F g (o + 1) (m - 1) cx w1 F1 (f1 _ _ fV) (by omega) (by omega) (fun j hj => (c1 g _ hgF).trans ((cV g _ hgl).trans (HX.out j hj))) HXR.out).mono ?_
  rintro e w2 ⟨rfl, ao, hw2, hao⟩
  obtain rfl := hao (by omega)
  clear hao
  have c2 : ∀ b j, b ≠ F → w2.cell? ⟨b, j, none⟩ = V.cell? ⟨b, j, none⟩ := fun b j h => by rw [hw2]; exact (cell_off _ _ _ _ _ _ h).trans (c1 b j h)
  have F2 : w2.cell? ⟨F, 0, none⟩ = some (.slice (some ⟨g, o + 9, none⟩) (m - 9) (m - 9)) := by rw [hw2]; exact World.cell?_setCell_same w1 _ _ F1
  have f2 : ∀ b j, V.frozen? ⟨b, j, none⟩ = false → w2.frozen? ⟨b, j, none⟩ = false := fun b j h => by rw [hw2, World.frozen?_setCell]; exact f1 b j h
  have g2 : w.grownBy w2 (some F) := by rw [hw2]; exact grown_at _ g1 (Or.inl rfl)
  clear hw2
  go_wp2_with fail
  refine (number_any F g (o + 9) (m - 9) cy w2 F2 (f2 _ _ fV) (by omega) (by omega) (fun j hj => (c2 g _ hgF).trans ((cV g _ hgl).trans (HY.out j hj))) HYR.out).mono ?_
  rintro e w3 ⟨rfl, ao, hw3, hao⟩
  have c3 : ∀ j, w3.cell? ⟨w.heap.size, j, none⟩ = (#[.int .u8 0, .int .u64 0, .int .u64 0] : Array Value)[j]? := fun j => by rw [hw3]; exact ((cell_off _ _ _ _ _ _ (by omega)).trans (c2 _ j (by omega))).trans (nV j)
  have F3 : w3.cell? ⟨F, 0, none⟩ = some (.slice ao (m - 17) (m - 17)) := by rw [hw3]; exact World.cell?_setCell_same w2 _ _ F2
  have f3 : ∀ b j, V.frozen? ⟨b, j, none⟩ = false → w3.frozen? ⟨b, j, none⟩ = false := fun b j h => by rw [hw3, World.frozen?_setCell]; exact f2 b j h
  have g3 : w.grownBy w3 (some F) := by rw [hw3]; exact grown_at _ g2 (Or.inl rfl)
  have n3 : ∀ j, w3.frozen? ⟨w.heap.size, j, none⟩ = false := fun j => f3 _ _ (nfV j)
  have z3 := f3 _ _ fV
  clear hw3 f1 f2 f3 c1 c2 cV nV nfV hF hz hkd fV gV g1 g2 F1 F2
  have hFn : ¬ F = w.heap.size := by omega
  have HF3 := hide F3
  have HA := hide hao
  have HG3 := hide g3
  have HZ := hide z3
  clear F3 hao g3 z3
  go_wp2
  refine bodyPost_ret (v := .agg #[.int .u8 kd, .int .u64 (rdTo cx 8), .int .u64 (rdTo cy 8)]) (by simp [results, Tryd.results36, go_sem, c3]) rfl ⟨rfl, ?_⟩
  refine ⟨⟨ao, ?_, fun h => ?_⟩, ?_, ?_⟩
  · repeat rw [cell_off _ _ _ _ _ _ hFn]
    exact HF3.out
  · exact HA.out (by omega)
  · repeat rw [World.frozen?_setCell]
    exact HZ.out
  · repeat (refine grown_at _ ?_ (Or.inr (Nat.le_refl _)))
    exact HG3.out
end Go.Proofs.YtjkepphpahfdgaaDoor
