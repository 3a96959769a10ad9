import Derived.Test.YtlcnkcgmjnfbiaaGreatDoorZd06
import Derived.Test.YtlcnkcgmjnfbiaaGreatDoorZd00
import Derived.Test.YtlcnkcgmjnfbiaaGreatDoorZd03
import Derived.Test.YtlcnkcgmjnfbiaaGreatDoorZd04
import Derived.Test.YtlcnkcgmjnfbiaaGreatDoorZd07
import Derived.Deep.RegionLaw
import Derived.Test.YtlcnkcgmjnfbiaaGreatDoorZd10
import Derived.Test.YtlcnkcgmjnfbiaaGreatDoorZd11
import Derived.Test.YtlcnkcgmjnfbiaaGreatDoorZd12
import Derived.Test.YtlcnkcgmjnfbiaaGreatDoorZd13
import Derived.Test.YtlcnkcgmjnfbiaaGreatDoorZd14
import Derived.Test.YtlcnkcgmjnfbiaaGreatDoorZd15
import Derived.Test.YtlcnkcgmjnfbiaaGreatDoorZd16
import Derived.Test.YtlcnkcgmjnfbiaaGreatDoorZd17
set_option linter.unusedSectionVars false
namespace Go.Proofs.YtlcnkcgmjnfbiaaGreatDoor
open Go.RowKit
variable [dK] [iK]
theorem set_first (w2 : World) (u v : Value) (rc : Array Value) : ((w2.alloc (.cells #[u] 289)).alloc (.cells rc 41)).setCell ⟨w2.heap.size, 0, none⟩ v = (w2.alloc (.cells #[v] 289)).alloc (.cells rc 41) := by
  rw [World.setCell_alloc_past _ _ _ _ (by simp), World.setCell_alloc_at _ _ _ _ _ rfl]; rfl

theorem after_key {w2 w5 : World} {u v : Value} {rc : Array Value} (h : Below ((w2.alloc (.cells #[u] 289)).alloc (.cells rc 41)).heap.size (((w2.alloc (.cells #[u] 289)).alloc (.cells rc 41)).setCell ⟨w2.heap.size, 0, none⟩ v) w5) :
    (∀ b j, b < w2.heap.size → w5.cell? ⟨b, j, none⟩ = w2.cell? ⟨b, j, none⟩) ∧ (∀ b j, b < w2.heap.size → w5.frozen? ⟨b, j, none⟩ = w2.frozen? ⟨b, j, none⟩) ∧ w5.cell? ⟨w2.heap.size, 0, none⟩ = some v ∧ w5.frozen? ⟨w2.heap.size, 0, none⟩ = false ∧
    (∀ j, w5.cell? ⟨w2.heap.size + 1, j, none⟩ = rc[j]?) ∧ (∀ j, w5.frozen? ⟨w2.heap.size + 1, j, none⟩ = false) ∧ Below w2.heap.size w2 w5 ∧ w2.heap.size + 1 < w5.heap.size := by
  rw [set_first] at h
  have hB : Below w2.heap.size w2 ((w2.alloc (.cells #[v] 289)).alloc (.cells rc 41)) := ((Below.refl _ _).alloc (Nat.le_refl _) _).alloc (by simp) _
  have hB5 : Below w2.heap.size w2 w5 := hB.trans (h.mono (by simp; omega))
  refine ⟨fun b j hb => hB5.cell (p := ⟨b, j, none⟩) hb, fun b j hb => hB5.frozen (p := ⟨b, j, none⟩) hb, ?_, ?_, fun j => ?_, fun j => ?_, hB5, ?_⟩
  · rw [h.cell (p := ⟨w2.heap.size, 0, none⟩) (by simp; omega)]; simp
  · rw [h.frozen (p := ⟨w2.heap.size, 0, none⟩) (by simp; omega)]; simp
  · rw [h.cell (p := ⟨w2.heap.size + 1, j, none⟩) (by simp)]
    simp
  · rw [h.frozen (p := ⟨w2.heap.size + 1, j, none⟩) (by simp)]; simp
  · have := h.size; simp at this; omega
end Go.Proofs.YtlcnkcgmjnfbiaaGreatDoor

namespace Go.Proofs.YtlcnkcgmjnfbiaaGreatDoor
open Go.RowKit
variable [dK] [iK]

/-- How memory stands while a request is read: F: the fields that are left; r: the request; the result; the bytes. -/
structure St (w w2 W : World) (g : Nat) (left : Value) (rc : Array Value) : Prop where
  F : W.cell? ⟨w2.heap.size, 0, none⟩ = some left
  Ff : W.frozen? ⟨w2.heap.size, 0, none⟩ = false
  r : ∀ j, W.cell? ⟨w2.heap.size + 1, j, none⟩ = rc[j]?
  rf : ∀ j, W.frozen? ⟨w2.heap.size + 1, j, none⟩ = false
  R : ∀ j, W.cell? ⟨w.heap.size, j, none⟩ = (#[.int .u8 0, .int .u8 0, .int .u8 0, .int .u8 0, .int .u8 0, .int .u8 0, .int .u8 0, .int .u8 0, .int .u8 0, .int .u8 0, .int .u64 0, .int .u64 0, .int .u64 0] : Array Value)[j]?
  Rf : ∀ j, W.frozen? ⟨w.heap.size, j, none⟩ = false
  G : ∀ j, W.cell? ⟨g, j, none⟩ = w.cell? ⟨g, j, none⟩
  B : Below w.heap.size w W
  sz : w2.heap.size + 1 < W.heap.size
  hg : g < w.heap.size
  h2 : w.heap.size < w2.heap.size

theorem cell_off (W : World) (b i c j : Nat) (u : Value) (h : b ≠ c) : (W.setCell ⟨c, j, none⟩ u).cell? ⟨b, i, none⟩ = W.cell? ⟨b, i, none⟩ :=
  World.cell?_of_block (w := W) (Below.heap_setCell W ⟨c, j, none⟩ u b h)
theorem frozen_off (W : World) (b i c j : Nat) (u : Value) (h : b ≠ c) : (W.setCell ⟨c, j, none⟩ u).frozen? ⟨b, i, none⟩ = W.frozen? ⟨b, i, none⟩ :=
  World.frozen?_of_block (w := W) (Below.heap_setCell W ⟨c, j, none⟩ u b h)

theorem St.setF {w w2 W : World} {g : Nat} {left : Value} {rc : Array Value} (S : St w w2 W g left rc) (v : Value) : St w w2 (W.setCell ⟨w2.heap.size, 0, none⟩ v) g v rc := by
  have h2 := S.h2
  have hg := S.hg
  refine ⟨?_, ?_, fun j => ?_, fun j => ?_, fun j => ?_, fun j => ?_, fun j => ?_, S.B.setCell (by show _ ≤ w2.heap.size; omega) _, by simpa using S.sz, S.hg, S.h2⟩
  · exact World.cell?_setCell_same W _ _ S.F
  · rw [World.frozen?_setCell]; exact S.Ff
  · rw [cell_off _ _ _ _ _ _ (by omega)]; exact S.r j
  · rw [frozen_off _ _ _ _ _ _ (by omega)]; exact S.rf j
  · rw [cell_off _ _ _ _ _ _ (by omega)]; exact S.R j
  · rw [frozen_off _ _ _ _ _ _ (by omega)]; exact S.Rf j
  · rw [cell_off _ _ _ _ _ _ (by omega)]; exact S.G j

theorem St.setr {w w2 W : World} {g : Nat} {left : Value} {rc : Array Value} (S : St w w2 W g left rc) (i : Nat) (hi : i < rc.size) (u : Value) : St w w2 (W.setCell ⟨w2.heap.size + 1, i, none⟩ u) g left (rc.setIfInBounds i u) := by
  have h2 := S.h2
  have hg := S.hg
  refine ⟨?_, ?_, fun j => ?_, fun j => ?_, fun j => ?_, fun j => ?_, fun j => ?_, S.B.setCell (by show _ ≤ w2.heap.size + 1; omega) _, by simpa using S.sz, S.hg, S.h2⟩
  · rw [cell_off _ _ _ _ _ _ (by omega)]; exact S.F
  · rw [frozen_off _ _ _ _ _ _ (by omega)]; exact S.Ff
  · by_cases h : j = i
    · subst h
      have hj := S.r j
      rw [Array.getElem?_eq_getElem hi] at hj
      rw [World.cell?_setCell_same W _ _ hj, Array.getElem?_setIfInBounds, if_pos rfl, if_pos hi]
    · have hne : ¬ i = j := fun e => h e.symm
      rw [Array.getElem?_setIfInBounds, if_neg hne, ← S.r j]
      exact World.cell?_setCell_other W _ _ _ (by intro e; injection e with _ e2 _; exact hne e2)
  · rw [World.frozen?_setCell]; exact S.rf j
  · rw [cell_off _ _ _ _ _ _ (by omega)]; exact S.R j
  · rw [frozen_off _ _ _ _ _ _ (by omega)]; exact S.Rf j
  · rw [cell_off _ _ _ _ _ _ (by omega)]; exact S.G j

theorem St.of_key {w w2 w5 : World} {g : Nat} {u v : Value} {rc : Array Value} (hB2 : Below w.heap.size w w2) (hg : g < w.heap.size) (hs2 : w.heap.size < w2.heap.size)
    (hR : ∀ j, w2.cell? ⟨w.heap.size, j, none⟩ = (#[.int .u8 0, .int .u8 0, .int .u8 0, .int .u8 0, .int .u8 0, .int .u8 0, .int .u8 0, .int .u8 0, .int .u8 0, .int .u8 0, .int .u64 0, .int .u64 0, .int .u64 0] : Array Value)[j]?) (hRf : ∀ j, w2.frozen? ⟨w.heap.size, j, none⟩ = false)
    (h : Below ((w2.alloc (.cells #[u] 289)).alloc (.cells rc 41)).heap.size (((w2.alloc (.cells #[u] 289)).alloc (.cells rc 41)).setCell ⟨w2.heap.size, 0, none⟩ v) w5) : St w w2 w5 g v rc := by
  obtain ⟨hc5, hf5, hF5, hFf5, hr5, hrf5, hB5, hs5⟩ := after_key h
  exact ⟨hF5, hFf5, hr5, hrf5, fun j => (hc5 w.heap.size j hs2).trans (hR j), fun j => (hf5 w.heap.size j hs2).trans (hRf j), fun j => (hc5 g j (by omega)).trans (hB2.cell (p := ⟨g, j, none⟩) hg), hB2.trans (hB5.mono (by omega)), hs5, hg, hs2⟩
end Go.Proofs.YtlcnkcgmjnfbiaaGreatDoor

namespace Go.Proofs.YtlcnkcgmjnfbiaaGreatDoor
open Go.RowKit
variable [dK] [iK]

set_option maxRecDepth 100000 in
set_option maxHeartbeats 400000 in
theorem of_any (ao : Option Addr) (n c : Nat) (w : World) : Calls Tryz.prog 134 #[.slice ao n c] w fun e w' => e = .returned (.pointer (some ⟨w.heap.size, 0, none⟩)) ∧ w' = w.alloc (.cells #[.slice ao n c] 289) := by
  go_enter Tryz.func134, Tryz.ntmps134
  go_wp2
  go_ret
  exact ⟨rfl, rfl⟩

theorem grown_at {w W : World} {F c j : Nat} (v : Value) (h : w.grownBy W (some F)) (hc : c = F ∨ w.heap.size ≤ c) : w.grownBy (W.setCell ⟨c, j, none⟩ v) (some F) := by
  refine ⟨h.os, h.tape, h.output, by simpa using h.size, fun k hk hne => ?_⟩
  refine (Below.heap_setCell W ⟨c, j, none⟩ v k ?_).trans (h.block k hk hne)
  show k ≠ c
  rcases hc with rfl | hc
  · exact fun e => hne (by rw [e])
  · omega

theorem St.of_grown {w w2 W W' : World} {g : Nat} {left v : Value} {rc : Array Value} (S : St w w2 W g left rc) (h : W.grownBy W' (some w2.heap.size)) (hF : W'.cell? ⟨w2.heap.size, 0, none⟩ = some v) (hFf : W'.frozen? ⟨w2.heap.size, 0, none⟩ = false) : St w w2 W' g v rc := by
  have h2 := S.h2
  have hg := S.hg
  have hz := S.sz
  have hs := h.size
  have hc : ∀ b, b ≠ w2.heap.size → b < W.heap.size → W'.heap[b]? = W.heap[b]? := fun b hb hl => h.block b hl (by intro e; injection e with e; exact hb e)
  refine ⟨hF, hFf, fun j => ?_, fun j => ?_, fun j => ?_, fun j => ?_, fun j => ?_, S.B.grown h (by have := S.B.size; omega) (by intro _ e; injection e with e; omega), by omega, S.hg, S.h2⟩
  · exact (World.cell?_of_block (w := W) (hc (w2.heap.size + 1) (by omega) hz)).trans (S.r j)
  · exact (World.frozen?_of_block (w := W) (hc (w2.heap.size + 1) (by omega) hz)).trans (S.rf j)
  · exact (World.cell?_of_block (w := W) (hc w.heap.size (by omega) (by omega))).trans (S.R j)
  · exact (World.frozen?_of_block (w := W) (hc w.heap.size (by omega) (by omega))).trans (S.Rf j)
  · exact (World.cell?_of_block (w := W) (hc g (by omega) (by omega))).trans (S.G j)

set_option maxRecDepth 100000 in
set_option maxHeartbeats 1000000 in
theorem policy_any (F g o m : Nat) (kd : Int) (cx cy : Nat → Int) (w : World) (hFl : F < w.heap.size) (hgF : g ≠ F) (hgl : g < w.heap.size) (hF : w.cell? ⟨F, 0, none⟩ = some (.slice (some ⟨g, o, none⟩) m m)) (hz : w.frozen? ⟨F, 0, none⟩ = false) (hm : 17 ≤ m) (hm1 : m ≤ 255) (hkd : w.cell? ⟨g, o, none⟩ = some (.int .u8 kd)) (hcx : ∀ j, j < 8 → w.cell? ⟨g, o + 1 + j, none⟩ = some (.int .u8 (cx j))) (hxr : ∀ j, 0 ≤ cx j ∧ cx j ≤ 255) (hcy : ∀ j, j < 8 → w.cell? ⟨g, o + 9 + j, none⟩ = some (.int .u8 (cy j))) (hyr : ∀ j, 0 ≤ cy j ∧ cy j ≤ 255) :
    Calls Tryz.prog 137 #[.pointer (some ⟨F, 0, none⟩)] w fun e w' => e = .returned (.agg #[.int .u8 kd, .int .u64 (rdTo cx 8), .int .u64 (rdTo cy 8)]) ∧ (∃ ao, w'.cell? ⟨F, 0, none⟩ = some (.slice ao (m - 17) (m - 17)) ∧ (17 < m → ao = some ⟨g, o + 17, none⟩)) ∧ w'.frozen? ⟨F, 0, none⟩ = false ∧ w.grownBy w' (some F) := by
  have HX := hide hcx
  have HY := hide hcy
  have HXR := hide hxr
  have HYR := hide hyr
  clear hcx hcy hxr hyr
  go_enter Tryz.func137, Tryz.ntmps137
  go_wp2_with fail
  obtain ⟨V, hV⟩ : ∃ V, V = w.alloc (.cells #[.int .u8 0, .int .u64 0, .int .u64 0] 39) := ⟨_, rfl⟩
  rw [← hV]
  have cV : ∀ b j, b < w.heap.size → V.cell? ⟨b, j, none⟩ = w.cell? ⟨b, j, none⟩ := fun b j h => by rw [hV, World.cell?_alloc_lt _ _ ⟨b, j, none⟩ h]
  have fV : V.frozen? ⟨F, 0, none⟩ = false := by rw [hV]; exact (World.frozen?_of_block (w := w) ((World.grownBy_alloc w _ none).block F hFl (by simp))).trans hz
  have nV : ∀ j, V.cell? ⟨w.heap.size, j, none⟩ = (#[.int .u8 0, .int .u64 0, .int .u64 0] : Array Value)[j]? := fun j => by rw [hV]; exact World.cell?_alloc_at _ _ _ _ rfl
  have nfV : ∀ j, V.frozen? ⟨w.heap.size, j, none⟩ = false := fun j => by rw [hV]; simp
  have gV : w.grownBy V (some F) := by rw [hV]; exact World.grownBy_alloc _ _ _
  clear hV
  refine (small_more F g o m kd V ((cV F 0 hFl).trans hF) fV (by omega) (by omega) ((cV g o hgl).trans hkd)).mono ?_
  rintro e w1 ⟨rfl, hw1⟩
  have c1 : ∀ b j, b ≠ F → w1.cell? ⟨b, j, none⟩ = V.cell? ⟨b, j, none⟩ := fun b j h => by rw [hw1]; exact cell_off _ _ _ _ _ _ h
  have F1 : w1.cell? ⟨F, 0, none⟩ = some (.slice (some ⟨g, o + 1, none⟩) (m - 1) (m - 1)) := by rw [hw1]; exact World.cell?_setCell_same V _ _ ((cV F 0 hFl).trans hF)
  have f1 : ∀ b j, V.frozen? ⟨b, j, none⟩ = false → w1.frozen? ⟨b, j, none⟩ = false := fun b j h => by rw [hw1, World.frozen?_setCell]; exact h
  have g1 : w.grownBy w1 (some F) := by rw [hw1]; exact grown_at _ gV (Or.inl rfl)
  clear hw1
  go_wp2_with fail
  refine (number_any F g (o + 1) (m - 1) cx w1 F1 (f1 _ _ fV) (by omega) (by omega) (fun j hj => (c1 g _ hgF).trans ((cV g _ hgl).trans (HX.out j hj))) HXR.out).mono ?_
  rintro e w2 ⟨rfl, ao, hw2, hao⟩
  obtain rfl := hao (by omega)
  clear hao
  have c2 : ∀ b j, b ≠ F → w2.cell? ⟨b, j, none⟩ = V.cell? ⟨b, j, none⟩ := fun b j h => by rw [hw2]; exact (cell_off _ _ _ _ _ _ h).trans (c1 b j h)
  have F2 : w2.cell? ⟨F, 0, none⟩ = some (.slice (some ⟨g, o + 9, none⟩) (m - 9) (m - 9)) := by rw [hw2]; exact World.cell?_setCell_same w1 _ _ F1
  have f2 : ∀ b j, V.frozen? ⟨b, j, none⟩ = false → w2.frozen? ⟨b, j, none⟩ = false := fun b j h => by rw [hw2, World.frozen?_setCell]; exact f1 b j h
  have g2 : w.grownBy w2 (some F) := by rw [hw2]; exact grown_at _ g1 (Or.inl rfl)
  clear hw2
  go_wp2_with fail
  refine (number_any F g (o + 9) (m - 9) cy w2 F2 (f2 _ _ fV) (by omega) (by omega) (fun j hj => (c2 g _ hgF).trans ((cV g _ hgl).trans (HY.out j hj))) HYR.out).mono ?_
  rintro e w3 ⟨rfl, ao, hw3, hao⟩
  have c3 : ∀ j, w3.cell? ⟨w.heap.size, j, none⟩ = (#[.int .u8 0, .int .u64 0, .int .u64 0] : Array Value)[j]? := fun j => by rw [hw3]; exact ((cell_off _ _ _ _ _ _ (by omega)).trans (c2 _ j (by omega))).trans (nV j)
  have F3 : w3.cell? ⟨F, 0, none⟩ = some (.slice ao (m - 17) (m - 17)) := by rw [hw3]; exact World.cell?_setCell_same w2 _ _ F2
  have f3 : ∀ b j, V.frozen? ⟨b, j, none⟩ = false → w3.frozen? ⟨b, j, none⟩ = false := fun b j h => by rw [hw3, World.frozen?_setCell]; exact f2 b j h
  have g3 : w.grownBy w3 (some F) := by rw [hw3]; exact grown_at _ g2 (Or.inl rfl)
  have n3 : ∀ j, w3.frozen? ⟨w.heap.size, j, none⟩ = false := fun j => f3 _ _ (nfV j)
  have z3 := f3 _ _ fV
  clear hw3 f1 f2 f3 c1 c2 cV nV nfV hF hz hkd fV gV g1 g2 F1 F2
  have hFn : ¬ F = w.heap.size := by omega
  have HF3 := hide F3
  have HA := hide hao
  have HG3 := hide g3
  have HZ := hide z3
  clear F3 hao g3 z3
  go_wp2
  refine bodyPost_ret (v := .agg #[.int .u8 kd, .int .u64 (rdTo cx 8), .int .u64 (rdTo cy 8)]) (by simp [results, Tryz.results137, go_sem, c3]) rfl ⟨rfl, ?_⟩
  refine ⟨⟨ao, ?_, fun h => ?_⟩, ?_, ?_⟩
  · repeat rw [cell_off _ _ _ _ _ _ hFn]
    exact HF3.out
  · exact HA.out (by omega)
  · repeat rw [World.frozen?_setCell]
    exact HZ.out
  · repeat (refine grown_at _ ?_ (Or.inr (Nat.le_refl _)))
    exact HG3.out
end Go.Proofs.YtlcnkcgmjnfbiaaGreatDoor

namespace Go.Proofs.YtlcnkcgmjnfbiaaGreatDoor
open Go.RowKit
variable [dK] [iK]

set_option maxRecDepth 100000 in
set_option maxHeartbeats 400000 in
theorem small_c (F g o m c : Nat) (b : Int) (w : World) (hF : w.cell? ⟨F, 0, none⟩ = some (.slice (some ⟨g, o, none⟩) m c)) (hz : w.frozen? ⟨F, 0, none⟩ = false) (hm : 1 < m) (hmc : m ≤ c) (hc : w.cell? ⟨g, o, none⟩ = some (.int .u8 b)) :
    Calls Tryz.prog 135 #[.pointer (some ⟨F, 0, none⟩)] w fun e w' => e = .returned (.int .u8 b) ∧ w' = w.setCell ⟨F, 0, none⟩ (.slice (some ⟨g, o + 1, none⟩) (m - 1) (c - 1)) := by
  have hmp : 0 < m := by omega
  have hmI : (0 : Int) < m := by omega
  have hme : ¬ c = 1 := by omega
  have hme2 : ¬ m = 1 := by omega
  go_enter Tryz.func135, Tryz.ntmps135
  go_wp2
  go_ret
  exact ⟨rfl, rfl⟩

set_option maxRecDepth 100000 in
set_option maxHeartbeats 400000 in
theorem number_c (F g o m cp : Nat) (c : Nat → Int) (w : World) (hF : w.cell? ⟨F, 0, none⟩ = some (.slice (some ⟨g, o, none⟩) m cp)) (hz : w.frozen? ⟨F, 0, none⟩ = false) (hm : 8 < m) (hmc : m ≤ cp) (hc : ∀ j, j < 8 → w.cell? ⟨g, o + j, none⟩ = some (.int .u8 (c j))) (hr : ∀ j, 0 ≤ c j ∧ c j ≤ 255) :
    Calls Tryz.prog 138 #[.pointer (some ⟨F, 0, none⟩)] w fun e w' => e = .returned (.int .u64 (rdTo c 8)) ∧ w' = w.setCell ⟨F, 0, none⟩ (.slice (some ⟨g, o + 8, none⟩) (m - 8) (cp - 8)) := by
  go_enter Tryz.func138, Tryz.ntmps138
  go_wp2
  go_loop [3, 12] (fun v i => ∃ j : Nat, j ≤ 8 ∧ i = .int .i64 j ∧ v = .int .u64 (rdTo c j)) (fun _ i => 8 - (intOf i).toNat)
  case atStart => exact ⟨0, by omega, rfl, rfl⟩
  case round =>
    obtain ⟨j, hj, rfl, rfl⟩ := hrel
    by_cases hlt : j < 8
    · have hcj := hc j hlt
      have hrj := hr j
      have HB := hide (rdTo_lt c hr j hlt)
      have HR := hide hrj
      go_wp2
      go_round
      case rel => exact ⟨j + 1, by omega, by go_num, int_u64 (or_byte _ _ HB.out.1 HB.out.2 HR.out.1 HR.out.2)⟩
      case measure => simp [intOf]; omega
    · obtain rfl : j = 8 := by omega
      have hme : ¬ cp = 8 := by omega
      have hme2 : ¬ m = 8 := by omega
      go_wp2
      go_ret
      exact ⟨rfl, rfl⟩

theorem copy8c (g o m c : Nat) (k0 k1 k2 k3 k4 k5 k6 k7 : Int) (w : World) (hgl : g < w.heap.size) (hm : 8 ≤ m)
    (h0 : w.cell? ⟨g, o, none⟩ = some (.int .u8 k0))
    (h1 : w.cell? ⟨g, o + 1, none⟩ = some (.int .u8 k1))
    (h2 : w.cell? ⟨g, o + 2, none⟩ = some (.int .u8 k2))
    (h3 : w.cell? ⟨g, o + 3, none⟩ = some (.int .u8 k3))
    (h4 : w.cell? ⟨g, o + 4, none⟩ = some (.int .u8 k4))
    (h5 : w.cell? ⟨g, o + 5, none⟩ = some (.int .u8 k5))
    (h6 : w.cell? ⟨g, o + 6, none⟩ = some (.int .u8 k6))
    (h7 : w.cell? ⟨g, o + 7, none⟩ = some (.int .u8 k7)) :
    (Builtin.copy_ #[48, 48] 3 #[.slice (some ⟨w.heap.size + 1, 0, none⟩) 8 8, .slice (some ⟨g, o, none⟩) m c]).run Tryz.prog (((w.alloc (.cells #[.int .u8 0, .int .u8 0, .int .u8 0, .int .u8 0, .int .u8 0, .int .u8 0, .int .u8 0, .int .u8 0] 37)).alloc (.cells #[.int .u8 0, .int .u8 0, .int .u8 0, .int .u8 0, .int .u8 0, .int .u8 0, .int .u8 0, .int .u8 0] 37)).drew)
      = .ok (.int .i64 8) (((w.alloc (.cells #[.int .u8 0, .int .u8 0, .int .u8 0, .int .u8 0, .int .u8 0, .int .u8 0, .int .u8 0, .int .u8 0] 37)).alloc (.cells #[.int .u8 k0, .int .u8 k1, .int .u8 k2, .int .u8 k3, .int .u8 k4, .int .u8 k5, .int .u8 k6, .int .u8 k7] 37)).drew) := by
  have hg : (((w.alloc (.cells #[.int .u8 0, .int .u8 0, .int .u8 0, .int .u8 0, .int .u8 0, .int .u8 0, .int .u8 0, .int .u8 0] 37)).alloc (.cells #[.int .u8 0, .int .u8 0, .int .u8 0, .int .u8 0, .int .u8 0, .int .u8 0, .int .u8 0, .int .u8 0] 37)).drew).heap[w.heap.size + 1]? = some (.cells #[.int .u8 0, .int .u8 0, .int .u8 0, .int .u8 0, .int .u8 0, .int .u8 0, .int .u8 0, .int .u8 0] 37 (0, 0)) := by
    show ((w.heap.push _).push _)[w.heap.size + 1]? = _
    rw [Array.getElem?_push, if_pos (by simp)]
  have hs : ∀ j v, ([.int .u8 k0, .int .u8 k1, .int .u8 k2, .int .u8 k3, .int .u8 k4, .int .u8 k5, .int .u8 k6, .int .u8 k7] : List Value)[j]? = some v → (((w.alloc (.cells #[.int .u8 0, .int .u8 0, .int .u8 0, .int .u8 0, .int .u8 0, .int .u8 0, .int .u8 0, .int .u8 0] 37)).alloc (.cells #[.int .u8 0, .int .u8 0, .int .u8 0, .int .u8 0, .int .u8 0, .int .u8 0, .int .u8 0, .int .u8 0] 37)).drew).cell? ((⟨g, o, none⟩ : Addr).add j) = some v := by
    intro j v hj
    rw [Addr.add_lit]
    show ((w.alloc (.cells #[.int .u8 0, .int .u8 0, .int .u8 0, .int .u8 0, .int .u8 0, .int .u8 0, .int .u8 0, .int .u8 0] 37)).alloc (.cells #[.int .u8 0, .int .u8 0, .int .u8 0, .int .u8 0, .int .u8 0, .int .u8 0, .int .u8 0, .int .u8 0] 37)).cell? ⟨g, o + j, none⟩ = some v
    rw [World.cell?_alloc_lt _ _ ⟨g, o + j, none⟩ (by simp; omega), World.cell?_alloc_lt _ _ ⟨g, o + j, none⟩ hgl]
    match j, hj with
    | 0, hj => simp at hj; subst hj; exact h0
    | 1, hj => simp at hj; subst hj; exact h1
    | 2, hj => simp at hj; subst hj; exact h2
    | 3, hj => simp at hj; subst hj; exact h3
    | 4, hj => simp at hj; subst hj; exact h4
    | 5, hj => simp at hj; subst hj; exact h5
    | 6, hj => simp at hj; subst hj; exact h6
    | 7, hj => simp at hj; subst hj; exact h7
  have hmin : Nat.min m 8 = 8 := Nat.min_eq_right hm
  rw [run_copy_row (P := Tryz.prog) _ 48 48 3 5 (w.heap.size + 1) 0 8 8 ⟨g, o, none⟩ m c _ 37 [.int .u8 k0, .int .u8 k1, .int .u8 k2, .int .u8 k3, .int .u8 k4, .int .u8 k5, .int .u8 k6, .int .u8 k7] Tryz.underlying48 (by kernel_rfl) hg (by rw [hmin]; rfl) hs (by simp) (by simp [Value.oneCell'])]
  have e : (((w.alloc (.cells #[.int .u8 0, .int .u8 0, .int .u8 0, .int .u8 0, .int .u8 0, .int .u8 0, .int .u8 0, .int .u8 0] 37)).alloc (.cells #[.int .u8 0, .int .u8 0, .int .u8 0, .int .u8 0, .int .u8 0, .int .u8 0, .int .u8 0, .int .u8 0] 37)).drew).setRow (w.heap.size + 1) #[.int .u8 k0, .int .u8 k1, .int .u8 k2, .int .u8 k3, .int .u8 k4, .int .u8 k5, .int .u8 k6, .int .u8 k7] = ((w.alloc (.cells #[.int .u8 0, .int .u8 0, .int .u8 0, .int .u8 0, .int .u8 0, .int .u8 0, .int .u8 0, .int .u8 0] 37)).alloc (.cells #[.int .u8 k0, .int .u8 k1, .int .u8 k2, .int .u8 k3, .int .u8 k4, .int .u8 k5, .int .u8 k6, .int .u8 k7] 37)).drew := by
    show (((w.alloc (.cells #[.int .u8 0, .int .u8 0, .int .u8 0, .int .u8 0, .int .u8 0, .int .u8 0, .int .u8 0, .int .u8 0] 37)).alloc (.cells #[.int .u8 0, .int .u8 0, .int .u8 0, .int .u8 0, .int .u8 0, .int .u8 0, .int .u8 0, .int .u8 0] 37)).setRow (w.heap.size + 1) #[.int .u8 k0, .int .u8 k1, .int .u8 k2, .int .u8 k3, .int .u8 k4, .int .u8 k5, .int .u8 k6, .int .u8 k7]).drew = _
    have h := World.setRow_alloc_new (w.alloc (.cells #[.int .u8 0, .int .u8 0, .int .u8 0, .int .u8 0, .int .u8 0, .int .u8 0, .int .u8 0, .int .u8 0] 37)) #[.int .u8 0, .int .u8 0, .int .u8 0, .int .u8 0, .int .u8 0, .int .u8 0, .int .u8 0, .int .u8 0] #[.int .u8 k0, .int .u8 k1, .int .u8 k2, .int .u8 k3, .int .u8 k4, .int .u8 k5, .int .u8 k6, .int .u8 k7] 37
    rw [World.size_alloc] at h
    rw [h]
  simp only [List.take_zero, List.nil_append, List.length_cons, List.length_nil]
  exact congrArg _ e

set_option maxRecDepth 100000 in
set_option maxHeartbeats 1000000 in
theorem key_c (F g o m c : Nat) (k0 k1 k2 k3 k4 k5 k6 k7 : Int) (w : World) (hFl : F < w.heap.size) (hgl : g < w.heap.size) (hm : 8 < m) (hmc : m ≤ c) (hF : w.cell? ⟨F, 0, none⟩ = some (.slice (some ⟨g, o, none⟩) m c)) (hz : w.frozen? ⟨F, 0, none⟩ = false)
    (h0 : w.cell? ⟨g, o, none⟩ = some (.int .u8 k0))
    (h1 : w.cell? ⟨g, o + 1, none⟩ = some (.int .u8 k1))
    (h2 : w.cell? ⟨g, o + 2, none⟩ = some (.int .u8 k2))
    (h3 : w.cell? ⟨g, o + 3, none⟩ = some (.int .u8 k3))
    (h4 : w.cell? ⟨g, o + 4, none⟩ = some (.int .u8 k4))
    (h5 : w.cell? ⟨g, o + 5, none⟩ = some (.int .u8 k5))
    (h6 : w.cell? ⟨g, o + 6, none⟩ = some (.int .u8 k6))
    (h7 : w.cell? ⟨g, o + 7, none⟩ = some (.int .u8 k7)) :
    Calls Tryz.prog 136 #[.pointer (some ⟨F, 0, none⟩)] w fun e w' => e = .returned (.agg #[.int .u8 k0, .int .u8 k1, .int .u8 k2, .int .u8 k3, .int .u8 k4, .int .u8 k5, .int .u8 k6, .int .u8 k7]) ∧ Below w.heap.size (w.setCell ⟨F, 0, none⟩ (.slice (some ⟨g, o + 8, none⟩) (m - 8) (c - 8))) w' := by
  have hcp := copy8c g o m c k0 k1 k2 k3 k4 k5 k6 k7 w hgl (by omega) h0 h1 h2 h3 h4 h5 h6 h7
  have hme : ¬ c = 8 := by omega
  have hme2 : ¬ m = 8 := by omega
  have hmI : (8 : Int) ≤ m := by omega
  clear h0 h1 h2 h3 h4 h5 h6 h7
  go_enter Tryz.func136, Tryz.ntmps136
  go_wp2
  go_region
  go_wp2
  exact bodyPost_ret (v := .agg #[.int .u8 k0, .int .u8 k1, .int .u8 k2, .int .u8 k3, .int .u8 k4, .int .u8 k5, .int .u8 k6, .int .u8 k7]) (by simp [results, Tryz.results136, go_sem]) rfl ⟨rfl, (((Below.refl _ _).alloc (by simp) _).alloc (by simp) _).drew⟩
end Go.Proofs.YtlcnkcgmjnfbiaaGreatDoor

namespace Go.Proofs.YtlcnkcgmjnfbiaaGreatDoor
open Go.RowKit
variable [dK] [iK]

set_option maxRecDepth 100000 in
set_option maxHeartbeats 400000 in
theorem body_frame (lo hi : Int) (f : Nat) (v : Value) (w : World)
    (hbeg : Hid (∀ w1, Below w.heap.size w w1 → Calls Tryz.prog 160 #[.agg #[.int .u8 lo, .int .u8 hi, .func (.func f) #[] #[]], v] w1 fun e w' => e = .returned (.iface 27 (.int .i64 2)) ∧ Below w1.heap.size w1 w')) :
    Calls Tryz.prog 133 #[.agg #[.int .u8 lo, .int .u8 hi, .func (.func f) #[] #[]], v] w fun e w' => e = .returned (.tuple #[.slice none 0 0, .iface 27 (.int .i64 2)]) ∧ Below w.heap.size w w' := by
  go_enter Tryz.func133, Tryz.ntmps133
  go_wp2_with fail
  refine (hbeg.out _ ((Below.refl _ w).alloc (Nat.le_refl _) _)).mono ?_
  rintro e w1 ⟨rfl, hb1⟩
  go_wp2_with fail
  refine (is_same _ _).mono ?_
  rintro e w2 ⟨rfl, rfl⟩
  go_wp2
  go_ret2
  exact ⟨rfl, ((Below.refl _ w).alloc (Nat.le_refl _) _).trans (hb1.mono (by simp))⟩

set_option maxRecDepth 100000 in
set_option maxHeartbeats 400000 in
theorem body_short (lo hi : Int) (f : Nat) (v : Value) (w : World)
    (hbeg : Hid (∀ w1, Below w.heap.size w w1 → Calls Tryz.prog 160 #[.agg #[.int .u8 lo, .int .u8 hi, .func (.func f) #[] #[]], v] w1 fun e w' => e = .returned (.iface 27 (.int .i64 1)) ∧ Below w1.heap.size w1 w')) :
    Calls Tryz.prog 133 #[.agg #[.int .u8 lo, .int .u8 hi, .func (.func f) #[] #[]], v] w fun e w' => e = .returned (.tuple #[.slice none 0 0, .iface 27 (.int .i64 1)]) ∧ Below w.heap.size w w' := by
  go_enter Tryz.func133, Tryz.ntmps133
  go_wp2_with fail
  refine (hbeg.out _ ((Below.refl _ w).alloc (Nat.le_refl _) _)).mono ?_
  rintro e w1 ⟨rfl, hb1⟩
  go_wp2_with fail
  refine (is_other _ _ _ (by decide)).mono ?_
  rintro e w2 ⟨rfl, rfl⟩
  go_wp2_with fail
  refine (is_same _ _).mono ?_
  rintro e w2 ⟨rfl, rfl⟩
  go_wp2
  go_ret2
  exact ⟨rfl, ((Below.refl _ w).alloc (Nat.le_refl _) _).trans (hb1.mono (by simp))⟩

set_option maxRecDepth 100000 in
set_option maxHeartbeats 400000 in
theorem body_short2 (lo hi : Int) (f : Nat) (g so n cap : Nat) (b0 : Int) (w : World) (hn : 0 < n) (h0 : 0 ≤ b0) (h1 : b0 ≤ 255) (hg : g < w.heap.size) (hc0 : w.cell? ⟨g, so, none⟩ = some (.int .u8 b0)) (hle : (n : Int) ≤ b0)
    (hbeg : Hid (∀ w1, Below w.heap.size w w1 → Calls Tryz.prog 160 #[.agg #[.int .u8 lo, .int .u8 hi, .func (.func f) #[] #[]], .slice (some ⟨g, so, none⟩) n cap] w1 fun e w' => e = .returned .nilIface ∧ Below w1.heap.size w1 w')) :
    Calls Tryz.prog 133 #[.agg #[.int .u8 lo, .int .u8 hi, .func (.func f) #[] #[]], .slice (some ⟨g, so, none⟩) n cap] w fun e w' => e = .returned (.tuple #[.slice none 0 0, .iface 27 (.int .i64 1)]) ∧ Below w.heap.size w w' := by
  go_enter Tryz.func133, Tryz.ntmps133
  go_wp2_with fail
  refine (hbeg.out _ ((Below.refl _ w).alloc (Nat.le_refl _) _)).mono ?_
  rintro e w1 ⟨rfl, hb1⟩
  have hB1 : Below w.heap.size w w1 := ((Below.refl _ w).alloc (Nat.le_refl _) _).trans (hb1.mono (by simp))
  have hc1 : w1.cell? ⟨g, so, none⟩ = some (.int .u8 b0) := (hB1.cell (p := ⟨g, so, none⟩) hg).trans hc0
  clear hb1
  go_wp2_with fail
  refine (is_nil _ _).mono ?_
  rintro e w2 ⟨rfl, rfl⟩
  go_wp2_with fail
  refine (is_nil _ _).mono ?_
  rintro e w2 ⟨rfl, rfl⟩
  go_wp2
  go_ret2
  exact ⟨rfl, hB1⟩

set_option maxRecDepth 100000 in
set_option maxHeartbeats 400000 in
theorem body_ok (lo hi : Int) (f : Nat) (g so n cap : Nat) (b0 : Nat) (w : World) (hn : b0 < n) (hnc : n ≤ cap) (hn1 : n ≤ 1048576) (h0 : 0 < b0) (h1 : b0 ≤ 255) (hg : g < w.heap.size) (hc0 : w.cell? ⟨g, so, none⟩ = some (.int .u8 b0))
    (hbeg : Hid (∀ w1, Below w.heap.size w w1 → Calls Tryz.prog 160 #[.agg #[.int .u8 lo, .int .u8 hi, .func (.func f) #[] #[]], .slice (some ⟨g, so, none⟩) n cap] w1 fun e w' => e = .returned .nilIface ∧ Below w1.heap.size w1 w')) :
    Calls Tryz.prog 133 #[.agg #[.int .u8 lo, .int .u8 hi, .func (.func f) #[] #[]], .slice (some ⟨g, so, none⟩) n cap] w fun e w' => e = .returned (.tuple #[.slice (some ⟨g, so + 1, none⟩) b0 b0, .nilIface]) ∧ Below w.heap.size w w' := by
  have hnp : 0 < n := by omega
  have hcm : 0 < cap := by omega
  go_enter Tryz.func133, Tryz.ntmps133
  go_wp2_with fail
  refine (hbeg.out _ ((Below.refl _ w).alloc (Nat.le_refl _) _)).mono ?_
  rintro e w1 ⟨rfl, hb1⟩
  have hB1 : Below w.heap.size w w1 := ((Below.refl _ w).alloc (Nat.le_refl _) _).trans (hb1.mono (by simp))
  have hc1 : w1.cell? ⟨g, so, none⟩ = some (.int .u8 b0) := (hB1.cell (p := ⟨g, so, none⟩) hg).trans hc0
  clear hb1
  go_wp2_with fail
  refine (is_nil _ _).mono ?_
  rintro e w2 ⟨rfl, rfl⟩
  go_wp2_with fail
  refine (is_nil _ _).mono ?_
  rintro e w2 ⟨rfl, rfl⟩
  go_wp2
  go_ret2
  rw [Nat.add_sub_cancel_left]
  exact ⟨rfl, hB1⟩
end Go.Proofs.YtlcnkcgmjnfbiaaGreatDoor

namespace Go.Proofs.YtlcnkcgmjnfbiaaGreatDoor
open Go.RowKit
variable [dK] [iK]

set_option maxRecDepth 100000 in
set_option maxHeartbeats 400000 in
theorem told_nil (w : World) : Calls Tryz.prog 29 #[.nilIface] w fun e w' => e = .returned (.int .i64 0) ∧ Below w.heap.size w w' := by
  go_enter Tryz.func29, Tryz.ntmps29
  go_wp2
  go_ret
  exact ⟨rfl, (Below.refl _ w).alloc (Nat.le_refl _) _⟩

set_option maxRecDepth 100000 in
set_option maxHeartbeats 1000000 in
theorem told_err (n : Int) (w : World) (hg : w.cell? ⟨0, 0, none⟩ = some (.iface 236 (.agg #[.pointer (some ⟨5, 93, none⟩)]))) :
    Calls Tryz.prog 29 #[.iface 27 (.int .i64 n)] w fun e w' => e = .returned (.int .i64 n) ∧ Below w.heap.size w w' := by
  have hlt : 0 < w.heap.size := by
    rcases Nat.eq_zero_or_pos w.heap.size with h0 | h
    · simp [World.cell?, h0] at hg
    · exact h
  have hgA : (w.alloc (.cells #[.int .i64 0] 27)).cell? ⟨0, 0, none⟩ = some (.iface 236 (.agg #[.pointer (some ⟨5, 93, none⟩)])) := by
    rw [World.cell?_alloc_lt _ _ ⟨0, 0, none⟩ hlt]; exact hg
  have htA : (w.alloc (.cells #[.int .i64 0] 27)).cell? ⟨w.heap.size, 0, none⟩ = some (.int .i64 0) := by simp
  have hfA : (w.alloc (.cells #[.int .i64 0] 27)).frozen? ⟨w.heap.size, 0, none⟩ = false := by simp
  go_enter Tryz.func29, Tryz.ntmps29
  go_wp2_with (first | (go_at_call 49; refine (as_hit _ _ (.int .i64 0) _ hgA htA hfA).mono ?_; rintro e w' ⟨rfl, rfl⟩) | (go_at_call 50; refine (is_same _ _).mono ?_; rintro e w' ⟨rfl, rfl⟩))
  go_ret
  exact ⟨rfl, (((((Below.refl _ w).alloc (Nat.le_refl _) _).alloc (by simp) _).alloc (by simp; omega) _).alloc (by simp; omega) _).alloc (by simp; omega) _⟩
end Go.Proofs.YtlcnkcgmjnfbiaaGreatDoor

namespace Go.Proofs.YtlcnkcgmjnfbiaaGreatDoor
open Go.RowKit
variable [dK] [iK]

/-- How memory stands while the bytes are written into: they are owned; what was read; the result; the rest as it was. -/
structure Lp (w w2 wr : World) (g n c : Nat) (qc zc : Array Value) : Prop where
  own : ∃ ys, wr.ownsRow (w.heap.size + 1) 5 1 (.slice (some ⟨g, 0, none⟩) n c) n ys
  r : ∀ j, wr.cell? ⟨w2.heap.size, j, none⟩ = qc[j]?
  R : ∀ j, wr.cell? ⟨w.heap.size, j, none⟩ = zc[j]?
  Rf : ∀ j, wr.frozen? ⟨w.heap.size, j, none⟩ = false
  B : Below w.heap.size w wr
  sz : w2.heap.size < wr.heap.size
  g1 : w.heap.size < g
  g2 : g < w2.heap.size

theorem own_below {w w' : World} {base B g n c : Nat} {xs : List Value} (h : w.ownsRow base 5 1 (.slice (some ⟨g, 0, none⟩) n c) n xs) (hb : Below B w w') (hg : g < B) : w'.ownsRow base 5 1 (.slice (some ⟨g, 0, none⟩) n c) n xs := by
  obtain ⟨h1, h2⟩ := h
  refine ⟨h1, ?_⟩
  rcases h2 with ⟨h2, _⟩ | ⟨g', cap, cur, hv, hg', hh, r⟩
  · simp at h2
  · have e : g' = g := by injection hv with e1 _ _; injection e1 with e1; injection e1 with e1; exact e1.symm
    subst e
    exact Or.inr ⟨g', cap, cur, hv, hg', by rw [hb.block g' hg]; exact hh, r⟩

theorem Lp.step {w w2 wr : World} {g n c : Nat} {qc zc : Array Value} (L : Lp w w2 wr g n c qc zc) (j : Nat) (u : Value) : Lp w w2 (wr.setCell ⟨g, j, none⟩ u) g n c qc zc := by
  have h1 := L.g1
  have h2 := L.g2
  obtain ⟨ys, ho⟩ := L.own
  refine ⟨⟨_, (ho.stored j u).1⟩, fun i => ?_, fun i => ?_, fun i => ?_, L.B.setCell (by show _ ≤ g; omega) _, by simpa using L.sz, L.g1, L.g2⟩
  · rw [cell_off _ _ _ _ _ _ (by omega)]; exact L.r i
  · rw [cell_off _ _ _ _ _ _ (by omega)]; exact L.R i
  · rw [frozen_off _ _ _ _ _ _ (by omega)]; exact L.Rf i

theorem Lp.cell {w w2 wr : World} {g n c : Nat} {qc zc : Array Value} (L : Lp w w2 wr g n c qc zc) (j : Nat) (hj : j < n) : (∃ u, wr.cell? ⟨g, j, none⟩ = some u) ∧ wr.frozen? ⟨g, j, none⟩ = false := by
  obtain ⟨ys, ho⟩ := L.own
  have hl : ys.length = n := by simpa using ho.1
  refine ⟨⟨ys[j]'(by omega), ?_⟩, ho.frozenAt j⟩
  rw [ho.cellAt j (by omega), List.getElem?_eq_getElem (by omega)]

theorem Lp.start {w w1 w2 : World} {g n c : Nat} {xs : List Value} {qc zc : Array Value} (ty : TypeId) (ho : w1.ownsRow (w.heap.size + 1) 5 1 (.slice (some ⟨g, 0, none⟩) n c) n xs) (hb2 : Below w1.heap.size w1 w2) (hgb : w.heap.size + 1 ≤ g) (hgl1 : g < w1.heap.size)
    (hR1 : ∀ j, w1.cell? ⟨w.heap.size, j, none⟩ = zc[j]?) (hRf1 : ∀ j, w1.frozen? ⟨w.heap.size, j, none⟩ = false) (hB1 : Below w.heap.size w w1) (hs1 : w.heap.size + 1 ≤ w1.heap.size) : Lp w w2 (w2.alloc (.cells qc ty)) g n c qc zc := by
  have hs2 := hb2.size
  refine ⟨⟨xs, (own_below ho hb2 hgl1).alloc _⟩, fun j => cell_box w2 _ _ j, fun j => ?_, fun j => ?_, (hB1.trans (hb2.mono (by omega))).alloc (by omega) _, by simp, by omega, by omega⟩
  · rw [World.cell?_alloc_lt _ _ ⟨w.heap.size, j, none⟩ (by show w.heap.size < _; omega), hb2.cell (p := ⟨w.heap.size, j, none⟩) (by show w.heap.size < _; omega)]; exact hR1 j
  · rw [World.frozen?_alloc_past _ _ _ (by omega), hb2.frozen (p := ⟨w.heap.size, j, none⟩) (by show w.heap.size < _; omega)]; exact hRf1 j
end Go.Proofs.YtlcnkcgmjnfbiaaGreatDoor

namespace Go.Proofs.YtlcnkcgmjnfbiaaGreatDoor
open Go.RowKit
variable [dK] [iK]

/-- A quota as bytes. -/
def qby (q : Qt) : List Int := [q.kd] ++ be8 q.x ++ be8 q.y ++ be8 q.lv ++ be8 q.wn
theorem qby_length (q : Qt) : (qby q).length = 33 := by simp [qby, be8]
/-- Numbers of a quota that lie in 64 bits. -/
structure Qt.fit (q : Qt) : Prop where
  kd : 0 ≤ q.kd ∧ q.kd ≤ 255
  x : 0 ≤ q.x ∧ q.x ≤ 18446744073709551615
  y : 0 ≤ q.y ∧ q.y ≤ 18446744073709551615
  lv : 0 ≤ q.lv ∧ q.lv ≤ 18446744073709551615
  wn : 0 ≤ q.wn ∧ q.wn ≤ 18446744073709551615
abbrev qcells (q : Qt) : Array Value := #[.int .u8 q.kd, .int .u64 q.x, .int .u64 q.y, .int .u64 q.lv, .int .u64 q.wn]

set_option maxRecDepth 100000 in
set_option maxHeartbeats 1000000 in
theorem qapp (base n : Nat) (xs : List Int) (b : Value) (q : Qt) (w : World) (hn : xs.length = n) (hown : w.ownsRow base 5 1 b n (xs.map (Value.int .u8))) (hroom : n + 33 ≤ 4000000) (hbase : base ≤ w.heap.size) (hq : q.fit) :
    Calls Tryz.prog 219 #[.agg #[.int .u8 q.kd, .int .u64 q.x, .int .u64 q.y, .int .u64 q.lv, .int .u64 q.wn], b] w fun e w' => ∃ b', e = .returned b' ∧ w'.ownsRow base 5 1 b' (n + 33) ((xs ++ qby q).map (Value.int .u8)) ∧ Grw w w' b b' := by
  have hbl : ∀ g, b.ownBlock = some g → g < w.heap.size := fun g e => (own_ltE hown e).2
  obtain ⟨V, hV⟩ : ∃ V, V = w.alloc (.cells #[.int .u8 q.kd, .int .u64 q.x, .int .u64 q.y, .int .u64 q.lv, .int .u64 q.wn] 171) := ⟨_, rfl⟩
  have hsV : V.heap.size = w.heap.size + 1 := by rw [hV]; simp
  have hP0 : V.heap[w.heap.size]? = some (.cells #[.int .u8 q.kd, .int .u64 q.x, .int .u64 q.y, .int .u64 q.lv, .int .u64 q.wn] 171) := hV ▸ heapNew _ _
  have HGV : Hid (Grw w V b b) := hide (by rw [hV]; exact (Grw.refl w b).alloc _)
  have HO : Hid (V.ownsRow base 5 1 b n (xs.map (Value.int .u8))) := hide (by rw [hV]; exact hown.alloc _)
  obtain ⟨P, hP⟩ : ∃ P, P = w.heap.size := ⟨_, rfl⟩
  have HPb : b.ownBlock ≠ some P := fun e => by have := hbl P e; omega
  rw [← hP] at hP0
  have HNN := hide hn
  have HPP := hide hP
  have HSV := hide hsV
  have HXX := hide hq
  have c0 := cellB hP0
  clear hown hbl hn hP hsV hq
  go_enter Tryz.func219, Tryz.ntmps219
  go_wp2_with fail
  rw [← hV, ← HPP.out]
  clear hV
  go_wp2_with fail
  refine (polG base n xs b q.kd q.x q.y V HNN.out HO.out (by omega) (by have := HSV.out; omega) HXX.out.x.1 HXX.out.x.2 HXX.out.y.1 HXX.out.y.2).mono ?_
  rintro e w1 ⟨b1, rfl, o1, G1⟩
  have hP1 := G1.block hP0 HPb
  have n1 := G1.ne (ltB hP0) HPb
  have c1 := cellB hP1
  have hs1 := G1.g.size
  have HO1 := hide o1
  have HG1 := hide G1
  clear o1 G1 c0
  go_wp2_with fail
  refine (numG base (n + 17) _ b1 q.lv w1 (by have := HNN.out; simp [be8]; omega) HO1.out (by omega) (by have := HSV.out; omega) HXX.out.lv.1 HXX.out.lv.2).mono ?_
  rintro e w2 ⟨b2, rfl, o2, G2⟩
  have hP2 := G2.block hP1 n1
  have c2 := cellB hP2
  have hs2 := G2.g.size
  have HO2 := hide o2
  have HG2 := hide G2
  clear o2 G2 c1
  go_wp2_with fail
  refine (numG base (n + 17 + 8) _ b2 q.wn w2 (by have := HNN.out; simp [be8]; omega) HO2.out (by omega) (by have := HSV.out; omega) HXX.out.wn.1 HXX.out.wn.2).mono ?_
  rintro e w3 ⟨b3, rfl, o3, G3⟩
  have HO3 := hide o3
  have HG3 := hide G3
  clear o3 G3 c2
  go_wp2
  go_ret
  exact ⟨b3, rfl, by have := HO3.out; simpa [qby, Nat.add_assoc, List.append_assoc] using this, ((HGV.out.trans HG1.out).trans HG2.out).trans HG3.out⟩
end Go.Proofs.YtlcnkcgmjnfbiaaGreatDoor

namespace Go.Proofs.YtlcnkcgmjnfbiaaGreatDoor
open Go.RowKit
variable [dK] [iK]

def kby (k : Ky) : List Int := [k.k0, k.k1, k.k2, k.k3, k.k4, k.k5, k.k6, k.k7]
/-- The first byte of a slice of one's own is written. -/
theorem own_set0 {w : World} {base n cap g : Nat} {x y : Int} {xs : List Int} (h : w.ownsRow base 5 1 (.slice (some ⟨g, 0, none⟩) n cap) n ((x :: xs).map (Value.int .u8))) : (w.setCell ⟨g, 0, none⟩ (.int .u8 y)).ownsRow base 5 1 (.slice (some ⟨g, 0, none⟩) n cap) n ((y :: xs).map (Value.int .u8)) := by
  obtain ⟨h1, h2⟩ := h
  refine ⟨by simpa using h1, ?_⟩
  rcases h2 with ⟨h2, _⟩ | ⟨g', cap', cur, hv, hg, hh, r⟩
  · simp at h2
  · simp at hv
    obtain ⟨e1, e2⟩ := hv
    subst e1 e2
    refine Or.inr ⟨g, cap, cur.setIfInBounds 0 (.int .u8 y), rfl, hg, heapSet hh 0 _, ?_⟩
    obtain ⟨r1, r2, r3, r4⟩ := r
    refine ⟨r1, r2, by simpa using r3, ?_⟩
    have hn : n = xs.length + 1 := by simpa using h1.symm
    subst hn
    rw [Array.toList_setIfInBounds]
    cases hc : cur.toList with
    | nil => rw [hc] at r4; simp at r4
    | cons c rest =>
      rw [hc] at r4
      simp at r4 ⊢
      exact r4.2

set_option maxRecDepth 100000 in
set_option maxHeartbeats 2000000 in
theorem tell193 (bb base n : Nat) (x0 : Int) (xs : List Int) (b : Value) (k : Ky) (q : Qt) (w : World) (hn : xs.length = n) (hbox : w.heap[bb]? = some (.cells #[b] 48)) (hown : w.ownsRow base 5 1 b (n + 1) ((x0 :: xs).map (Value.int .u8))) (hx : 0 ≤ x0 ∧ x0 < 255) (hroom : n + 50 ≤ 4000000) (hbase : base ≤ w.heap.size) (hq : q.fit) :
    Calls Tryz.prog 218 #[.agg #[.int .u8 k.k0, .int .u8 k.k1, .int .u8 k.k2, .int .u8 k.k3, .int .u8 k.k4, .int .u8 k.k5, .int .u8 k.k6, .int .u8 k.k7, .int .u8 q.kd, .int .u64 q.x, .int .u64 q.y, .int .u64 q.lv, .int .u64 q.wn], .pointer (some ⟨bb, 0, none⟩)] w fun e w' => e = .returned (.tuple #[]) ∧ ∃ b', w'.heap[bb]? = some (.cells #[b'] 48) ∧ w'.ownsRow base 5 1 b' (n + 42) (((x0 + 1) :: (xs ++ kby k ++ qby q)).map (Value.int .u8)) ∧ Keep (fun c => c = bb ∨ b.ownBlock = some c) w w' ∧ (b'.ownBlock = b.ownBlock ∨ ∃ g, b'.ownBlock = some g ∧ w.heap.size ≤ g) := by
  obtain ⟨i0, hi, hz0, hz1, hz2⟩ := info_parts Tryz.info5
  obtain ⟨g, cap, hb⟩ : ∃ g cap, b = .slice (some ⟨g, 0, none⟩) (n + 1) cap := by
    rcases hown.2 with ⟨_, h⟩ | ⟨g, cap, _, h, _⟩
    · omega
    · exact ⟨g, cap, h⟩
  subst hb
  have hgb : g ≠ bb := own_neE hown rfl hbox (by decide)
  have hbl : g < w.heap.size := (own_ltE hown (g := g) rfl).2
  have hbg : base ≤ g := (own_ltE hown (g := g) rfl).1
  obtain ⟨V, hV⟩ : ∃ V, V = w.alloc (.cells #[.int .u8 k.k0, .int .u8 k.k1, .int .u8 k.k2, .int .u8 k.k3, .int .u8 k.k4, .int .u8 k.k5, .int .u8 k.k6, .int .u8 k.k7, .int .u8 q.kd, .int .u64 q.x, .int .u64 q.y, .int .u64 q.lv, .int .u64 q.wn] 173) := ⟨_, rfl⟩
  have hsV : V.heap.size = w.heap.size + 1 := by rw [hV]; simp
  have hR0 : V.heap[w.heap.size]? = some (.cells #[.int .u8 k.k0, .int .u8 k.k1, .int .u8 k.k2, .int .u8 k.k3, .int .u8 k.k4, .int .u8 k.k5, .int .u8 k.k6, .int .u8 k.k7, .int .u8 q.kd, .int .u64 q.x, .int .u64 q.y, .int .u64 q.lv, .int .u64 q.wn] 173) := hV ▸ heapNew _ _
  have hbV : V.heap[bb]? = some (.cells #[.slice (some ⟨g, 0, none⟩) (n + 1) cap] 48) := hV ▸ upB hbox _
  have hoV : V.ownsRow base 5 1 (.slice (some ⟨g, 0, none⟩) (n + 1) cap) (n + 1) ((x0 :: xs).map (Value.int .u8)) := hV ▸ hown.alloc _
  obtain ⟨R, hR⟩ : ∃ R, R = w.heap.size := ⟨_, rfl⟩
  have hgR : g ≠ R := by omega
  have hbR : bb ≠ R := by have := ltB hbox; omega
  rw [← hR] at hR0
  obtain ⟨cur, hg0, hcur⟩ : ∃ cur, V.heap[g]? = some (.cells cur 5 (0, 0)) ∧ cur[0]? = some (.int .u8 x0) := by
    rcases hoV.2 with ⟨h, _⟩ | ⟨g', cap', cur, h, _, hh, _, _, hcs, ht⟩
    · simp at h
    · simp at h
      obtain ⟨e1, e2⟩ := h
      subst e1 e2
      refine ⟨cur, hh, ?_⟩
      have := congrArg (fun l => l[0]?) ht
      simpa [List.getElem?_take] using this
  have hKV : Keep (fun c => c = bb ∨ (Value.slice (some ⟨g, 0, none⟩) (n + 1) cap).ownBlock = some c) w V := hV ▸ (Keep.refl _ w).alloc _
  have a0 := cellB hbV 0
  have a1 : V.cell? ⟨g, 0, none⟩ = some (.int .u8 x0) := (cellB hg0 0).trans hcur
  have a2 := frozenB hg0 0
  have e1 : IntKind.u8.wrap (x0 + 1) = x0 + 1 := by rw [IntKind.wrap_u8]; omega
  have hn1 : (0 : Int) < ((n + 1 : Nat) : Int) := by omega
  obtain ⟨V1, hV1⟩ : ∃ V1, V1 = V.setCell ⟨g, 0, none⟩ (.int .u8 (x0 + 1)) := ⟨_, rfl⟩
  have hR1 : V1.heap[R]? = _ := hV1 ▸ (heapSetO (fun e => hgR e.symm) _ _).trans hR0
  have hb1 : V1.heap[bb]? = _ := hV1 ▸ (heapSetO (fun e => hgb e.symm) _ _).trans hbV
  have ho1 : V1.ownsRow base 5 1 (.slice (some ⟨g, 0, none⟩) (n + 1) cap) (n + 1) (((x0 + 1) :: xs).map (Value.int .u8)) := hV1 ▸ own_set0 hoV
  have hK1 : Keep (fun c => c = bb ∨ (Value.slice (some ⟨g, 0, none⟩) (n + 1) cap).ownBlock = some c) w V1 := hV1 ▸ hKV.set (Or.inl (Or.inr rfl)) _ _
  have hs1 : V1.heap.size = w.heap.size + 1 := by rw [hV1, World.size_setCell]; exact hsV
  have HNN := hide hn
  have HR := hide hR
  have HK1 := hide hK1
  have HO1 := hide ho1
  have HS1 := hide hs1
  have HQ := hide hq
  have HBL := hide hbl
  have HBS := hide hbase
  clear hown hbox hn hR hKV hK1 ho1 hs1 hsV hoV hcur hq hbl hbase hbg
  go_enter Tryz.func218, Tryz.ntmps218
  go_upto_region 1 with fail
  rw [← hV, ← HR.out]
  clear hV
  go_upto_region 2 with fail
  rw [← hV1]
  clear hV1 a0 a1 a2
  have c0 := cellB hb1 0
  have cR : ∀ j u, ((kby k).map (Value.int .u8))[j]? = some u → V1.drew.cell? ((⟨R, 0, none⟩ : Addr).add j) = some u := by
    intro j u hj
    rw [Addr.add_lit, Nat.zero_add]
    show V1.cell? ⟨R, j, none⟩ = _
    rw [cellB hR1]
    match j, hj with
    | 0, hj => exact hj
    | 1, hj => exact hj
    | 2, hj => exact hj
    | 3, hj => exact hj
    | 4, hj => exact hj
    | 5, hj => exact hj
    | 6, hj => exact hj
    | 7, hj => exact hj
    | j + 8, hj => simp [kby] at hj
  have HCR := hide cR
  have HB1 := hide hb1
  have HR1 := hide hR1
  clear cR
  go_region_law (refine step_append_any (by rfl) _ _ 48 5 i0 (.int .u8 0) 1 1 Tryz.underlying48 hi hz0 hz1 hz2 rfl (by decide) (by rfl) base (.slice (some ⟨g, 0, none⟩) (n + 1) cap) (n + 1) _ (by rfl) HO1.out ⟨R, 0, none⟩ 8 8 ((kby k).map (Value.int .u8)) (by rfl) (by rfl) HCR.out (ints_oneCell _ _) (by omega) (by omega) (by have := HBS.out; have := HS1.out; show base ≤ V1.heap.size; omega) ?_; intro b2 w2 hown2 hgrow2 hat2; obtain ⟨a2, c2, e2⟩ := own_sliceE hown2; subst e2; have hG2 : Grw V1.drew w2 _ (.slice a2 (n + 1 + 8) c2) := Grw.one hgrow2 hat2; have hb2 := hG2.block (b := bb) HB1.out (by intro e; injection e with e; exact hgb e); have hR2 := hG2.block (b := R) HR1.out (by intro e; injection e with e; exact hgR e); have d0 := cellB hb2 0; have d1 := frozenB hb2 0; have HO2 := hide hown2; have HG2 := hide hG2; clear hown2 hgrow2 hat2 hG2)
  all_goals go_upto_region 3 with fail
  all_goals (
    obtain ⟨W2, hW2⟩ : ∃ W2, W2 = w2.setCell ⟨bb, 0, none⟩ (.slice a2 (n + 1 + 8) c2) := ⟨_, rfl⟩
    have hb3 : W2.heap[bb]? = some (.cells #[.slice a2 (n + 1 + 8) c2] 48) := by rw [hW2]; simpa using heapSet hb2 0 (.slice a2 (n + 1 + 8) c2)
    have hR3 : W2.heap[R]? = _ := hW2 ▸ (heapSetO (fun e => hbR e.symm) _ _).trans hR2
    have nb2 : (Value.slice a2 (n + 1 + 8) c2).ownBlock ≠ some bb := HG2.out.ne (b := bb) (ltB HB1.out) (by intro e; injection e with e; exact hgb e)
    have hO3 : W2.ownsRow base 5 1 (.slice a2 (n + 1 + 8) c2) (n + 1 + 8) ((((x0 + 1) :: xs) ++ kby k).map (Value.int .u8)) := by rw [hW2, List.map_append]; exact ownsRow_setCell_other HO2.out nb2 _
    have hK3 : Keep (fun c => c = bb ∨ (Value.slice (some ⟨g, 0, none⟩) (n + 1) cap).ownBlock = some c) w W2 := by
      rw [hW2]
      refine Keep.set ?_ (Or.inl (Or.inl rfl)) _ _
      exact HK1.out.then (T := fun c => (Value.slice (some ⟨g, 0, none⟩) (n + 1) cap).ownBlock = some c) ⟨HG2.out.g.os, HG2.out.g.tape, HG2.out.g.output, HG2.out.g.size, fun i hi hn => HG2.out.g.block i hi (fun e => hn e.symm)⟩ (fun i _ h => Or.inr h)
    have hs3 : w.heap.size + 1 ≤ W2.heap.size := by rw [hW2, World.size_setCell]; have := HG2.out.g.size; have h1 := HS1.out; have h2 : V1.heap.size ≤ w2.heap.size := this; omega
    rw [← hW2]
    have HO3 := hide hO3
    have HK3 := hide hK3
    have HS3 := hide hs3
    have HB3 := hide hb3
    have f3 := cellB hR3
    have f4 := cellB hb3
    clear hW2 hO3 hK3 hs3 d0 d1 c0
    go_wp2_with fail
    refine (qapp base (n + 1 + 8) _ (.slice a2 (n + 1 + 8) c2) q W2 (by have := HNN.out; simp [kby]; omega) HO3.out (by omega) (by have := HBS.out; have := HS3.out; omega) HQ.out).mono ?_
    rintro e w4 ⟨b4, rfl, o4, G4⟩
    obtain ⟨a4, c4, e4⟩ := own_sliceE o4
    subst e4
    have hb4 := G4.block HB3.out nb2
    have n4 := G4.ne (ltB HB3.out) nb2
    have g1 := cellB hb4
    have g2 := frozenB hb4
    have HO4 := hide o4
    have HG4 := hide G4
    clear o4 G4 f3 f4
    go_wp2
    go_end0
    refine ⟨rfl, _, by simpa using heapSet hb4 0 (.slice a4 (n + 1 + 8 + 33) c4), ?_, ?_, ?_⟩
    · have := ownsRow_setCell_other HO4.out (a := ⟨bb, 0, none⟩) n4 (.slice a4 (n + 1 + 8 + 33) c4)
      simpa [Nat.add_assoc, List.append_assoc] using this
    · refine Keep.set ?_ (Or.inl (Or.inl rfl)) _ _
      refine HK3.out.then (T := fun c => (Value.slice a2 (n + 1 + 8) c2).ownBlock = some c) ⟨HG4.out.g.os, HG4.out.g.tape, HG4.out.g.output, HG4.out.g.size, fun i hi hn => HG4.out.g.block i hi (fun e => hn e.symm)⟩ (fun i hi h => ?_)
      rcases HG2.out.at_ with e | ⟨j, e, hj⟩
      · exact Or.inr (e ▸ h)
      · rw [e] at h; injection h with h; have h1 : V1.heap.size ≤ j := hj; have := HS1.out; omega
    · rcases HG4.out.at_ with e | ⟨j, e, hj⟩
      · rcases HG2.out.at_ with e2 | ⟨j, e2, hj⟩
        · exact Or.inl (e.trans e2)
        · exact Or.inr ⟨j, e.trans e2, by have h1 : V1.heap.size ≤ j := hj; have := HS1.out; omega⟩
      · exact Or.inr ⟨j, e, by have := HS3.out; omega⟩)
end Go.Proofs.YtlcnkcgmjnfbiaaGreatDoor

namespace Go.Proofs.YtlcnkcgmjnfbiaaGreatDoor
open Go.RowKit
variable [dK] [iK]


set_option maxRecDepth 100000 in
set_option maxHeartbeats 1000000 in
theorem wrep (c a b : Int) (w : World) (ha0 : 0 ≤ a) (ha1 : a ≤ 18446744073709551615) (hb0 : 0 ≤ b) (hb1 : b ≤ 18446744073709551615) :
    Calls Tryz.prog 110 #[.agg #[.int .u8 c, .int .u64 a, .int .u64 b]] w
      fun e w' => e = .returned (.slice (some ⟨w.heap.size + 1, 0, none⟩) 18 18) ∧ w'.ownsRow w.heap.size 5 1 (.slice (some ⟨w.heap.size + 1, 0, none⟩) 18 18) 18 ((encRep c a b).map (Value.int .u8)) ∧ Below w.heap.size w w' := by
  go_enter Tryz.func110, Tryz.ntmps110
  go_wp2_with fail
  refine (start_at 17 _ _ (w.heap.size + 1) (by simp) (by omega) (by omega)).mono ?_
  rintro e w1 ⟨rfl, hown1, hb1'⟩
  have hs1 : w.heap.size + 1 < w1.heap.size := (hown1.lt (w.heap.size + 1) rfl).2
  have hc1 : ∀ j, w1.cell? ⟨w.heap.size, j, none⟩ = (#[.int .u8 c, .int .u64 a, .int .u64 b] : Array Value)[j]? := fun j => (hb1'.cell (p := ⟨w.heap.size, j, none⟩) (by simp)).trans (cell_box w _ _ j)
  have hB1 : Below w.heap.size w w1 := ((Below.refl _ w).alloc (Nat.le_refl _) _).trans (hb1'.mono (by omega))
  clear hb1'
  go_wp2_with fail
  refine (num_any (w.heap.size + 1) 2 18 (w.heap.size + 1) _ _ _ hown1 (by omega) ha0 ha1).mono ?_
  rintro e w2 ⟨rfl, hown2, hgrow2⟩
  have hs2 := hgrow2.size
  have hc2 := fun j => (cell_grown hgrow2 (b := w.heap.size) (by omega) (by omega) j).trans (hc1 j)
  go_wp2_with fail
  refine (num_any (w.heap.size + 1) 10 18 (w.heap.size + 1) _ _ _ hown2 (by omega) hb0 hb1).mono ?_
  rintro e w3 ⟨rfl, hown3, hgrow3⟩
  go_wp2
  go_ret
  refine ⟨rfl, own_down (b := w.heap.size + 1) (by omega) hown3, ?_⟩
  exact (hB1.grown hgrow2 (by omega) (by simp)).grown hgrow3 (by omega) (by simp)

end Go.Proofs.YtlcnkcgmjnfbiaaGreatDoor

namespace Go.Proofs.YtlcnkcgmjnfbiaaGreatDoor
open Go.RowKit
variable [dK] [iK]

theorem u64w (n : Int) (h0 : 0 ≤ n) (h1 : n ≤ 18446744073709551615) : IntKind.u64.wrap n = n := by rw [IntKind.wrap_u64]; omega

/-- The number of the window is the quotient. -/
theorem div64 (now y : Int) (hy : 1 ≤ y) (h0 : 0 ≤ now) (h1 : now ≤ 18446744073709551615) : IntKind.u64.wrap (now.tdiv y) = now / y ∧ 0 ≤ now / y ∧ now / y ≤ 18446744073709551615 ∧ now / y * y ≤ now ∧ 0 ≤ now / y * y := by
  have e : now.tdiv y = now / y := Int.tdiv_eq_ediv_of_nonneg h0
  have d0 : 0 ≤ now / y := Int.ediv_nonneg h0 (by omega)
  have d1 : now / y ≤ now := Int.ediv_le_self y h0
  have d2 : now / y * y ≤ now := Int.ediv_mul_le now (by omega)
  exact ⟨by rw [e]; exact u64w _ d0 (by omega), d0, by omega, d2, Int.mul_nonneg d0 (by omega)⟩

/-- The quota at a time, by the program. -/
theorem qturn2 (q : Qt) (now : Int) (w : World) (hk : q.kd = 2) (hy : 1 ≤ q.y) (h0 : 0 ≤ now) (h1 : now ≤ 18446744073709551615) :
    Calls Tryz.prog 198 #[.agg #[.int .u8 2, .int .u64 q.x, .int .u64 q.y, .int .u64 q.lv, .int .u64 q.wn], .int .u64 now] w fun e w' =>
      e = .returned (.agg #[.int .u8 (turnM q now).kd, .int .u64 (turnM q now).x, .int .u64 (turnM q now).y, .int .u64 (turnM q now).lv, .int .u64 (turnM q now).wn]) ∧ Below w.heap.size w w' := by
  obtain ⟨e1, _⟩ := div64 now q.y hy h0 h1
  have hk1 : ¬ q.kd = 1 := by omega
  by_cases h : now / q.y = q.wn
  · have e : turnM q now = q := by unfold turnM; rw [if_neg hk1, if_pos h]
    rw [e, hk]
    refine (qturnWindow_same 2 q.x q.y q.lv q.wn now w (by omega) (by rw [e1, h])).mono ?_
    rintro e w' ⟨rfl, rfl⟩
    exact ⟨rfl, ((Below.refl _ w).alloc (Nat.le_refl _) _).alloc (by simp) _⟩
  · have e : turnM q now = ⟨q.kd, q.x, q.y, 0, now / q.y⟩ := by unfold turnM; rw [if_neg hk1, if_neg h]
    rw [e, hk]
    refine (qturnWindow_new 2 q.x q.y q.lv q.wn now (now / q.y) w (by omega) e1 (by simpa using h)).mono ?_
    rintro e w' ⟨rfl, rfl⟩
    exact ⟨rfl, ((Below.refl _ w).alloc (Nat.le_refl _) _).alloc (by simp) _⟩

theorem qturn1 (q : Qt) (now : Int) (w : World) :
    Calls Tryz.prog 195 #[.agg #[.int .u8 1, .int .u64 q.x, .int .u64 q.y, .int .u64 q.lv, .int .u64 q.wn], .int .u64 now] w fun e w' =>
      e = .returned (.agg #[.int .u8 1, .int .u64 q.x, .int .u64 q.y, .int .u64 q.lv, .int .u64 q.wn]) ∧ Below w.heap.size w w' := by
  refine (qturnSpaced 1 q.x q.y q.lv q.wn now w).mono ?_
  rintro e w' ⟨rfl, rfl⟩
  exact ⟨rfl, ((Below.refl _ w).alloc (Nat.le_refl _) _).alloc (by simp) _⟩

/-- How a key stands, by the program. -/
theorem qquery_any (q : Qt) (now : Int) (w : World) (hq : q.ok) (h0 : 0 ≤ now) (h1 : now ≤ 18446744073709551615) :
    Calls Tryz.prog 167 #[.agg #[.int .u8 q.kd, .int .u64 q.x, .int .u64 q.y, .int .u64 q.lv, .int .u64 q.wn], .int .u64 now] w fun e w' =>
      e = .returned (.agg #[.int .u8 1, .int .u64 (turnM q now).lv, .int .u64 (turnM q now).wn]) ∧ Below w.heap.size w w' := by
  rcases hq.kd with ⟨hk, _⟩ | ⟨hk, hy⟩
  · have e : turnM q now = q := by unfold turnM; rw [if_pos hk]
    rw [e, hk]
    exact qquery1 q.x q.y q.lv q.wn now 1 q.x q.y q.lv q.wn w (fun w1 => qturn1 q now w1)
  · rw [hk]
    exact qquery2 q.x q.y q.lv q.wn now _ _ _ _ _ w (fun w1 => qturn2 q now w1 hk hy h0 h1)

theorem turnM_ok (q : Qt) (now : Int) (hq : q.ok) (h0 : 0 ≤ now) (h1 : now ≤ 18446744073709551615) : (turnM q now).ok := by
  unfold turnM
  split
  · exact hq
  · split
    · exact hq
    · rcases hq.kd with ⟨hk, _⟩ | ⟨hk, hy⟩
      · contradiction
      · obtain ⟨_, d0, d1, _⟩ := div64 now q.y hy h0 h1
        exact ⟨hq.kd, hq.x, hq.y, ⟨by simp, by simp⟩, ⟨d0, d1⟩⟩
theorem turnM_wn (q : Qt) (now : Int) (hk : q.kd = 2) : (turnM q now).wn = now / q.y ∧ (turnM q now).y = q.y ∧ (turnM q now).x = q.x ∧ (turnM q now).kd = q.kd := by
  unfold turnM
  rw [if_neg (by omega)]
  split
  · exact ⟨by omega, rfl, rfl, rfl⟩
  · exact ⟨rfl, rfl, rfl, rfl⟩

/-- n are asked for, by the program. -/
theorem qadmit_any (q : Qt) (now n : Int) (w : World) (hq : q.ok) (h0 : 0 ≤ now) (h1 : now ≤ 18446744073709551615) (n0 : 0 ≤ n) (n1 : n ≤ 18446744073709551615) (z : Qt × Rp) (hz : z = admQ q now n) :
    Calls Tryz.prog 164 #[.agg #[.int .u8 q.kd, .int .u64 q.x, .int .u64 q.y, .int .u64 q.lv, .int .u64 q.wn], .int .u64 now, .int .u64 n] w fun e w' =>
      e = .returned (.tuple #[.agg #[.int .u8 z.1.kd, .int .u64 z.1.x, .int .u64 z.1.y, .int .u64 z.1.lv, .int .u64 z.1.wn], .agg #[.int .u8 z.2.c, .int .u64 z.2.a, .int .u64 z.2.b]]) ∧ Below w.heap.size w w' := by
  rcases hq.kd with ⟨hk, hx⟩ | ⟨hk, hy⟩
  · have e : z = admS q now n := by rw [hz]; unfold admQ; rw [if_pos hk]
    rw [hk]
    refine qadmit1 q.x q.y q.lv q.wn now n 1 q.x q.y q.lv q.wn _ _ _ _ _ _ _ _ w (fun w1 => qturn1 q now w1) (fun w1 => ?_)
    subst e
    clear hz
    unfold admS
    by_cases hn : n = 0
    · rw [if_pos hn]
      simp only [hk]
      exact qadmS_zero 1 q.x q.y q.lv q.wn now n w1 hn
    rw [if_neg hn]
    have hs0 : 0 ≤ startM q now := by unfold startM; have := hq.lv; split <;> omega
    have hp0 : 0 ≤ n * q.x := Int.mul_nonneg n0 (by omega)
    have hn1 : 0 ≤ (n - 1) * q.x := Int.mul_nonneg (by omega) (by omega)
    have hnx : n * q.x = (n - 1) * q.x + q.x := by rw [Int.sub_mul]; omega
    by_cases c1 : 18446744073709551615 < startM q now + n * q.x
    · rw [if_pos c1]
      simp only [hk]
      exact qadmS_none 1 q.x q.y q.lv q.wn now n w1 n0 n1 hq.x.1 hq.x.2 hq.y.1 hq.y.2 hq.lv.1 hq.lv.2 h0 h1 hn (startM q now) _ rfl rfl hp0 c1
    rw [if_neg c1]
    have m1 : IntKind.u64.wrap (n - 1) = n - 1 := u64w _ (by omega) (by omega)
    have m2 : IntKind.u64.wrap ((n - 1) * q.x) = (n - 1) * q.x := u64w _ hn1 (by omega)
    by_cases c2 : q.y < (n - 1) * q.x
    · rw [if_pos c2]
      simp only [hk]
      exact qadmS_far 1 q.x q.y q.lv q.wn now n w1 n0 n1 hq.x.1 hq.x.2 hq.y.1 hq.y.2 hq.lv.1 hq.lv.2 h0 h1 hn (startM q now) _ rfl rfl hp0 (by omega) (n - 1) _ m1 m2 c2
    rw [if_neg c2]
    have m3 : IntKind.u64.wrap (startM q now + (n - 1) * q.x) = startM q now + (n - 1) * q.x := u64w _ (by omega) (by omega)
    by_cases c3 : orNever (now + q.y) < startM q now + (n - 1) * q.x
    · rw [if_pos c3]
      simp only [hk]
      have hge : q.y ≤ startM q now + (n - 1) * q.x := by
        unfold orNever at c3
        split at c3 <;> omega
      exact qadmS_late 1 q.x q.y q.lv q.wn now n w1 n0 n1 hq.x.1 hq.x.2 hq.y.1 hq.y.2 hq.lv.1 hq.lv.2 h0 h1 hn (startM q now) _ rfl rfl hp0 (by omega) (n - 1) _ m1 m2 (by omega) _ m3 _ rfl c3 _ (u64w _ (by omega) (by omega))
    · rw [if_neg c3]
      simp only [hk]
      exact qadmS_in 1 q.x q.y q.lv q.wn now n w1 n0 n1 hq.x.1 hq.x.2 hq.y.1 hq.y.2 hq.lv.1 hq.lv.2 h0 h1 hn (startM q now) _ rfl rfl hp0 (by omega) (n - 1) _ m1 m2 (by omega) _ m3 _ rfl (by omega)
  · have e : z = admW (turnM q now) n := by rw [hz]; unfold admQ; rw [if_neg (by omega)]
    obtain ⟨t1, t2, t3, t4⟩ := turnM_wn q now hk
    obtain ⟨_, d0, d1, d2, d3⟩ := div64 now q.y hy h0 h1
    have hto := turnM_ok q now hq h0 h1
    have htu : ∀ w1, _ := fun w1 => qturn2 q now w1 hk hy h0 h1
    rw [hk]
    generalize turnM q now = u at e t1 t2 t3 t4 hto htu
    refine qadmit2 q.x q.y q.lv q.wn now n u.kd u.x u.y u.lv u.wn _ _ _ _ _ _ _ _ w htu (fun w1 => ?_)
    subst e
    unfold admW
    by_cases c1 : u.lv + n ≤ u.x
    · rw [if_pos c1]
      exact qadmW_in u.kd u.x u.y u.lv u.wn now n w1 hto.lv.1 n0 hto.x.2 c1
    rw [if_neg c1]
    by_cases c2 : u.x < n
    · rw [if_pos c2]
      exact qadmW_never u.kd u.x u.y u.lv u.wn now n w1 hto.lv.1 hto.lv.2 n0 n1 hto.x.2 (by omega) c2
    · rw [if_neg c2]
      have hm : IntKind.u64.wrap (u.wn * u.y) = u.wn * u.y := u64w _ (by rw [t1, t2]; exact d3) (by rw [t1, t2]; omega)
      exact qadmW_next u.kd u.x u.y u.lv u.wn now n w1 hto.lv.1 hto.lv.2 n0 n1 hto.x.2 (by omega) (by omega) _ hm (by rw [t1, t2]; exact d3) (by rw [t1, t2]; omega) hto.y.1 hto.y.2
end Go.Proofs.YtlcnkcgmjnfbiaaGreatDoor
