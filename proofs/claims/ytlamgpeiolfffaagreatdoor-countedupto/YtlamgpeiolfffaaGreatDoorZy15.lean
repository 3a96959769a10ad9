import Derived.Test.YtlamgpeiolfffaaGreatDoorZy03
import Derived.Test.YtlamgpeiolfffaaGreatDoorZy00
import Derived.BigRegion
import Derived.RegionTactic
import Derived.BigQuiet
import Derived.Test.YtlamgpeiolfffaaGreatDoorZy09
import Derived.Test.YtlamgpeiolfffaaGreatDoorZy10
import Derived.Test.YtlamgpeiolfffaaGreatDoorZy11
import Derived.Test.YtlamgpeiolfffaaGreatDoorZy12
import Derived.Test.YtlamgpeiolfffaaGreatDoorZy13
import Derived.Test.YtlamgpeiolfffaaGreatDoorZy14
import Derived.Test.YtlamgpeiolfffaaGreatDoorZy06
import Derived.Test.YtlamgpeiolfffaaGreatDoorZy07
import Derived.Test.YtlamgpeiolfffaaGreatDoorZy08
set_option linter.unusedSectionVars false
namespace Go.Proofs.YtlamgpeiolfffaaGreatDoor
open Go.RowKit
variable [dK] [iK]
theorem set_first (w2 : World) (u v : Value) (rc : Array Value) : ((w2.alloc (.cells #[u] 192)).alloc (.cells rc 58)).setCell ⟨w2.heap.size, 0, none⟩ v = (w2.alloc (.cells #[v] 192)).alloc (.cells rc 58) := by
  rw [World.setCell_alloc_past _ _ _ _ (by simp), World.setCell_alloc_at _ _ _ _ _ rfl]; rfl

theorem after_key {w2 w5 : World} {u v : Value} {rc : Array Value} (h : Below ((w2.alloc (.cells #[u] 192)).alloc (.cells rc 58)).heap.size (((w2.alloc (.cells #[u] 192)).alloc (.cells rc 58)).setCell ⟨w2.heap.size, 0, none⟩ v) w5) :
    (∀ b j, b < w2.heap.size → w5.cell? ⟨b, j, none⟩ = w2.cell? ⟨b, j, none⟩) ∧ (∀ b j, b < w2.heap.size → w5.frozen? ⟨b, j, none⟩ = w2.frozen? ⟨b, j, none⟩) ∧ w5.cell? ⟨w2.heap.size, 0, none⟩ = some v ∧ w5.frozen? ⟨w2.heap.size, 0, none⟩ = false ∧
    (∀ j, w5.cell? ⟨w2.heap.size + 1, j, none⟩ = rc[j]?) ∧ (∀ j, w5.frozen? ⟨w2.heap.size + 1, j, none⟩ = false) ∧ Below w2.heap.size w2 w5 ∧ w2.heap.size + 1 < w5.heap.size := by
  rw [set_first] at h
  have hB : Below w2.heap.size w2 ((w2.alloc (.cells #[v] 192)).alloc (.cells rc 58)) := ((Below.refl _ _).alloc (Nat.le_refl _) _).alloc (by simp) _
  have hB5 : Below w2.heap.size w2 w5 := hB.trans (h.mono (by simp; omega))
  refine ⟨fun b j hb => hB5.cell (p := ⟨b, j, none⟩) hb, fun b j hb => hB5.frozen (p := ⟨b, j, none⟩) hb, ?_, ?_, fun j => ?_, fun j => ?_, hB5, ?_⟩
  · rw [h.cell (p := ⟨w2.heap.size, 0, none⟩) (by simp; omega)]; simp
  · rw [h.frozen (p := ⟨w2.heap.size, 0, none⟩) (by simp; omega)]; simp
  · rw [h.cell (p := ⟨w2.heap.size + 1, j, none⟩) (by simp)]
    simp
  · rw [h.frozen (p := ⟨w2.heap.size + 1, j, none⟩) (by simp)]; simp
  · have := h.size; simp at this; omega
end Go.Proofs.YtlamgpeiolfffaaGreatDoor

namespace Go.Proofs.YtlamgpeiolfffaaGreatDoor
open Go.RowKit
variable [dK] [iK]

/-- How memory stands while a request is read: F: the fields that are left; r: the request; the result; the bytes. -/
structure St (w w2 W : World) (g : Nat) (left : Value) (rc : Array Value) : Prop where
  F : W.cell? ⟨w2.heap.size, 0, none⟩ = some left
  Ff : W.frozen? ⟨w2.heap.size, 0, none⟩ = false
  r : ∀ j, W.cell? ⟨w2.heap.size + 1, j, none⟩ = rc[j]?
  rf : ∀ j, W.frozen? ⟨w2.heap.size + 1, j, none⟩ = false
  R : ∀ j, W.cell? ⟨w.heap.size, j, none⟩ = (#[.int .u8 0, .int .u8 0, .int .u8 0, .int .u8 0, .int .u8 0, .int .u8 0, .int .u8 0, .int .u8 0, .int .u8 0, .int .u8 0, .int .u64 0, .int .u64 0, .int .u64 0] : Array Value)[j]?
  Rf : ∀ j, W.frozen? ⟨w.heap.size, j, none⟩ = false
  G : ∀ j, W.cell? ⟨g, j, none⟩ = w.cell? ⟨g, j, none⟩
  B : Below w.heap.size w W
  sz : w2.heap.size + 1 < W.heap.size
  hg : g < w.heap.size
  h2 : w.heap.size < w2.heap.size

theorem cell_off (W : World) (b i c j : Nat) (u : Value) (h : b ≠ c) : (W.setCell ⟨c, j, none⟩ u).cell? ⟨b, i, none⟩ = W.cell? ⟨b, i, none⟩ :=
  World.cell?_of_block (w := W) (Below.heap_setCell W ⟨c, j, none⟩ u b h)
theorem frozen_off (W : World) (b i c j : Nat) (u : Value) (h : b ≠ c) : (W.setCell ⟨c, j, none⟩ u).frozen? ⟨b, i, none⟩ = W.frozen? ⟨b, i, none⟩ :=
  World.frozen?_of_block (w := W) (Below.heap_setCell W ⟨c, j, none⟩ u b h)

theorem St.setF {w w2 W : World} {g : Nat} {left : Value} {rc : Array Value} (S : St w w2 W g left rc) (v : Value) : St w w2 (W.setCell ⟨w2.heap.size, 0, none⟩ v) g v rc := by
  have h2 := S.h2
  have hg := S.hg
  refine ⟨?_, ?_, fun j => ?_, fun j => ?_, fun j => ?_, fun j => ?_, fun j => ?_, S.B.setCell (by show _ ≤ w2.heap.size; omega) _, by simpa using S.sz, S.hg, S.h2⟩
  · exact World.cell?_setCell_same W _ _ S.F
  · rw [World.frozen?_setCell]; exact S.Ff
  · rw [cell_off _ _ _ _ _ _ (by omega)]; exact S.r j
  · rw [frozen_off _ _ _ _ _ _ (by omega)]; exact S.rf j
  · rw [cell_off _ _ _ _ _ _ (by omega)]; exact S.R j
  · rw [frozen_off _ _ _ _ _ _ (by omega)]; exact S.Rf j
  · rw [cell_off _ _ _ _ _ _ (by omega)]; exact S.G j

theorem St.setr {w w2 W : World} {g : Nat} {left : Value} {rc : Array Value} (S : St w w2 W g left rc) (i : Nat) (hi : i < rc.size) (u : Value) : St w w2 (W.setCell ⟨w2.heap.size + 1, i, none⟩ u) g left (rc.setIfInBounds i u) := by
  have h2 := S.h2
  have hg := S.hg
  refine ⟨?_, ?_, fun j => ?_, fun j => ?_, fun j => ?_, fun j => ?_, fun j => ?_, S.B.setCell (by show _ ≤ w2.heap.size + 1; omega) _, by simpa using S.sz, S.hg, S.h2⟩
  · rw [cell_off _ _ _ _ _ _ (by omega)]; exact S.F
  · rw [frozen_off _ _ _ _ _ _ (by omega)]; exact S.Ff
  · by_cases h : j = i
    · subst h
      have hj := S.r j
      rw [Array.getElem?_eq_getElem hi] at hj
      rw [World.cell?_setCell_same W _ _ hj, Array.getElem?_setIfInBounds, if_pos rfl, if_pos hi]
    · have hne : ¬ i = j := fun e => h e.symm
      rw [Array.getElem?_setIfInBounds, if_neg hne, ← S.r j]
      exact World.cell?_setCell_other W _ _ _ (by intro e; injection e with _ e2 _; exact hne e2)
  · rw [World.frozen?_setCell]; exact S.rf j
  · rw [cell_off _ _ _ _ _ _ (by omega)]; exact S.R j
  · rw [frozen_off _ _ _ _ _ _ (by omega)]; exact S.Rf j
  · rw [cell_off _ _ _ _ _ _ (by omega)]; exact S.G j

theorem St.of_key {w w2 w5 : World} {g : Nat} {u v : Value} {rc : Array Value} (hB2 : Below w.heap.size w w2) (hg : g < w.heap.size) (hs2 : w.heap.size < w2.heap.size)
    (hR : ∀ j, w2.cell? ⟨w.heap.size, j, none⟩ = (#[.int .u8 0, .int .u8 0, .int .u8 0, .int .u8 0, .int .u8 0, .int .u8 0, .int .u8 0, .int .u8 0, .int .u8 0, .int .u8 0, .int .u64 0, .int .u64 0, .int .u64 0] : Array Value)[j]?) (hRf : ∀ j, w2.frozen? ⟨w.heap.size, j, none⟩ = false)
    (h : Below ((w2.alloc (.cells #[u] 192)).alloc (.cells rc 58)).heap.size (((w2.alloc (.cells #[u] 192)).alloc (.cells rc 58)).setCell ⟨w2.heap.size, 0, none⟩ v) w5) : St w w2 w5 g v rc := by
  obtain ⟨hc5, hf5, hF5, hFf5, hr5, hrf5, hB5, hs5⟩ := after_key h
  exact ⟨hF5, hFf5, hr5, hrf5, fun j => (hc5 w.heap.size j hs2).trans (hR j), fun j => (hf5 w.heap.size j hs2).trans (hRf j), fun j => (hc5 g j (by omega)).trans (hB2.cell (p := ⟨g, j, none⟩) hg), hB2.trans (hB5.mono (by omega)), hs5, hg, hs2⟩
end Go.Proofs.YtlamgpeiolfffaaGreatDoor

namespace Go.Proofs.YtlamgpeiolfffaaGreatDoor
open Go.RowKit
variable [dK] [iK]

/-- How memory stands while the document's reader reads. -/
structure St2 (w W : World) (g : Nat) (rc : Array Value) : Prop where
  r : ∀ j, W.cell? ⟨w.heap.size + 1, j, none⟩ = rc[j]?
  rf : ∀ j, W.frozen? ⟨w.heap.size + 1, j, none⟩ = false
  R : ∀ j, W.cell? ⟨w.heap.size, j, none⟩ = (#[.int .u8 0, .int .u8 0, .int .u8 0, .int .u8 0, .int .u8 0, .int .u8 0, .int .u8 0, .int .u8 0, .int .u8 0, .int .u8 0, .int .u64 0, .int .u64 0, .int .u64 0] : Array Value)[j]?
  Rf : ∀ j, W.frozen? ⟨w.heap.size, j, none⟩ = false
  G : ∀ j, W.cell? ⟨g, j, none⟩ = w.cell? ⟨g, j, none⟩
  B : Below w.heap.size w W
  hg : g < w.heap.size

theorem St2.setr {w W : World} {g : Nat} {rc : Array Value} (S : St2 w W g rc) (i : Nat) (hi : i < rc.size) (u : Value) : St2 w (W.setCell ⟨w.heap.size + 1, i, none⟩ u) g (rc.setIfInBounds i u) := by
  have hg := S.hg
  refine ⟨fun j => ?_, fun j => ?_, fun j => ?_, fun j => ?_, fun j => ?_, S.B.setCell (by show _ ≤ w.heap.size + 1; omega) _, S.hg⟩
  · by_cases h : j = i
    · subst h
      have hj := S.r j
      rw [Array.getElem?_eq_getElem hi] at hj
      rw [World.cell?_setCell_same W _ _ hj, Array.getElem?_setIfInBounds, if_pos rfl, if_pos hi]
    · have hne : ¬ i = j := fun e => h e.symm
      rw [Array.getElem?_setIfInBounds, if_neg hne, ← S.r j]
      exact World.cell?_setCell_other W _ _ _ (by intro e; injection e with _ e2 _; exact hne e2)
  · rw [World.frozen?_setCell]; exact S.rf j
  · rw [cell_off _ _ _ _ _ _ (by omega)]; exact S.R j
  · rw [frozen_off _ _ _ _ _ _ (by omega)]; exact S.Rf j
  · rw [cell_off _ _ _ _ _ _ (by omega)]; exact S.G j

theorem St2.start (w : World) (g : Nat) (hg : g < w.heap.size) (c : Array Value) : St2 w ((w.alloc (.cells #[.int .u8 0, .int .u8 0, .int .u8 0, .int .u8 0, .int .u8 0, .int .u8 0, .int .u8 0, .int .u8 0, .int .u8 0, .int .u8 0, .int .u64 0, .int .u64 0, .int .u64 0] 58)).alloc (.cells c 58)) g c := by
  refine ⟨fun j => ?_, fun j => by simp, fun j => ?_, fun j => ?_, fun j => ?_, ((Below.refl _ w).alloc (Nat.le_refl _) _).alloc (by simp) _, hg⟩
  · exact World.cell?_alloc_at _ _ _ _ (by simp)
  · rw [World.cell?_alloc_past _ _ _ (by simp)]; exact cell_box w _ _ j
  · rw [World.frozen?_alloc_past _ _ _ (by simp)]; simp
  · rw [World.cell?_alloc_past _ _ _ (by simp; omega), World.cell?_alloc_past _ _ _ hg]

def keyArr (op : Int) (b : Nat → Int) (j : Nat) : Array Value := #[.int .u8 op, .int .u8 (if 0 < j then b 2 else 0), .int .u8 (if 1 < j then b 3 else 0), .int .u8 (if 2 < j then b 4 else 0), .int .u8 (if 3 < j then b 5 else 0), .int .u8 (if 4 < j then b 6 else 0), .int .u8 (if 5 < j then b 7 else 0), .int .u8 (if 6 < j then b 8 else 0), .int .u8 (if 7 < j then b 9 else 0), .int .u8 0, .int .u64 0, .int .u64 0, .int .u64 0]
theorem keyArr_step (op : Int) (b : Nat → Int) (j : Nat) (hj : j < 8) : (keyArr op b j).setIfInBounds (1 + j) (.int .u8 (b (2 + j))) = keyArr op b (j + 1) := by
  match j, hj with
  | 0, _ => rfl
  | 1, _ => rfl
  | 2, _ => rfl
  | 3, _ => rfl
  | 4, _ => rfl
  | 5, _ => rfl
  | 6, _ => rfl
  | 7, _ => rfl
theorem keyArr_zero (op : Int) (b : Nat → Int) : keyArr op b 0 = #[.int .u8 op, .int .u8 0, .int .u8 0, .int .u8 0, .int .u8 0, .int .u8 0, .int .u8 0, .int .u8 0, .int .u8 0, .int .u8 0, .int .u64 0, .int .u64 0, .int .u64 0] := rfl
theorem keyArr_eight (op : Int) (b : Nat → Int) : keyArr op b 8 = #[.int .u8 op, .int .u8 (b 2), .int .u8 (b 3), .int .u8 (b 4), .int .u8 (b 5), .int .u8 (b 6), .int .u8 (b 7), .int .u8 (b 8), .int .u8 (b 9), .int .u8 0, .int .u64 0, .int .u64 0, .int .u64 0] := rfl
end Go.Proofs.YtlamgpeiolfffaaGreatDoor

namespace Go.Proofs.YtlamgpeiolfffaaGreatDoor
open Go.RowKit
variable [dK] [iK]

/-- How memory stands while the bytes are written into: they are owned; what was read; the result; the rest as it was. -/
structure Lp (w w2 wr : World) (g n c : Nat) (qc zc : Array Value) : Prop where
  own : ∃ ys, wr.ownsRow (w.heap.size + 1) 5 1 (.slice (some ⟨g, 0, none⟩) n c) n ys
  r : ∀ j, wr.cell? ⟨w2.heap.size, j, none⟩ = qc[j]?
  R : ∀ j, wr.cell? ⟨w.heap.size, j, none⟩ = zc[j]?
  Rf : ∀ j, wr.frozen? ⟨w.heap.size, j, none⟩ = false
  B : Below w.heap.size w wr
  sz : w2.heap.size < wr.heap.size
  g1 : w.heap.size < g
  g2 : g < w2.heap.size

theorem own_below {w w' : World} {base B g n c : Nat} {xs : List Value} (h : w.ownsRow base 5 1 (.slice (some ⟨g, 0, none⟩) n c) n xs) (hb : Below B w w') (hg : g < B) : w'.ownsRow base 5 1 (.slice (some ⟨g, 0, none⟩) n c) n xs := by
  obtain ⟨h1, h2⟩ := h
  refine ⟨h1, ?_⟩
  rcases h2 with ⟨h2, _⟩ | ⟨g', cap, cur, hv, hg', hh, r⟩
  · simp at h2
  · have e : g' = g := by injection hv with e1 _ _; injection e1 with e1; injection e1 with e1; exact e1.symm
    subst e
    exact Or.inr ⟨g', cap, cur, hv, hg', by rw [hb.block g' hg]; exact hh, r⟩

theorem Lp.step {w w2 wr : World} {g n c : Nat} {qc zc : Array Value} (L : Lp w w2 wr g n c qc zc) (j : Nat) (u : Value) : Lp w w2 (wr.setCell ⟨g, j, none⟩ u) g n c qc zc := by
  have h1 := L.g1
  have h2 := L.g2
  obtain ⟨ys, ho⟩ := L.own
  refine ⟨⟨_, (ho.stored j u).1⟩, fun i => ?_, fun i => ?_, fun i => ?_, L.B.setCell (by show _ ≤ g; omega) _, by simpa using L.sz, L.g1, L.g2⟩
  · rw [cell_off _ _ _ _ _ _ (by omega)]; exact L.r i
  · rw [cell_off _ _ _ _ _ _ (by omega)]; exact L.R i
  · rw [frozen_off _ _ _ _ _ _ (by omega)]; exact L.Rf i

theorem Lp.cell {w w2 wr : World} {g n c : Nat} {qc zc : Array Value} (L : Lp w w2 wr g n c qc zc) (j : Nat) (hj : j < n) : (∃ u, wr.cell? ⟨g, j, none⟩ = some u) ∧ wr.frozen? ⟨g, j, none⟩ = false := by
  obtain ⟨ys, ho⟩ := L.own
  have hl : ys.length = n := by simpa using ho.1
  refine ⟨⟨ys[j]'(by omega), ?_⟩, ho.frozenAt j⟩
  rw [ho.cellAt j (by omega), List.getElem?_eq_getElem (by omega)]

theorem Lp.start {w w1 w2 : World} {g n c : Nat} {xs : List Value} {qc zc : Array Value} (ty : TypeId) (ho : w1.ownsRow (w.heap.size + 1) 5 1 (.slice (some ⟨g, 0, none⟩) n c) n xs) (hb2 : Below w1.heap.size w1 w2) (hgb : w.heap.size + 1 ≤ g) (hgl1 : g < w1.heap.size)
    (hR1 : ∀ j, w1.cell? ⟨w.heap.size, j, none⟩ = zc[j]?) (hRf1 : ∀ j, w1.frozen? ⟨w.heap.size, j, none⟩ = false) (hB1 : Below w.heap.size w w1) (hs1 : w.heap.size + 1 ≤ w1.heap.size) : Lp w w2 (w2.alloc (.cells qc ty)) g n c qc zc := by
  have hs2 := hb2.size
  refine ⟨⟨xs, (own_below ho hb2 hgl1).alloc _⟩, fun j => cell_box w2 _ _ j, fun j => ?_, fun j => ?_, (hB1.trans (hb2.mono (by omega))).alloc (by omega) _, by simp, by omega, by omega⟩
  · rw [World.cell?_alloc_lt _ _ ⟨w.heap.size, j, none⟩ (by show w.heap.size < _; omega), hb2.cell (p := ⟨w.heap.size, j, none⟩) (by show w.heap.size < _; omega)]; exact hR1 j
  · rw [World.frozen?_alloc_past _ _ _ (by omega), hb2.frozen (p := ⟨w.heap.size, j, none⟩) (by show w.heap.size < _; omega)]; exact hRf1 j
end Go.Proofs.YtlamgpeiolfffaaGreatDoor

namespace Go.Proofs.YtlamgpeiolfffaaGreatDoor
open Go.RowKit
variable [dK] [iK]


set_option maxRecDepth 100000 in
set_option maxHeartbeats 1000000 in
theorem wrep (c a b : Int) (w : World) (ha0 : 0 ≤ a) (ha1 : a ≤ 18446744073709551615) (hb0 : 0 ≤ b) (hb1 : b ≤ 18446744073709551615) :
    Calls Tryz.prog 68 #[.agg #[.int .u8 c, .int .u64 a, .int .u64 b]] w
      fun e w' => e = .returned (.slice (some ⟨w.heap.size + 1, 0, none⟩) 18 18) ∧ w'.ownsRow w.heap.size 5 1 (.slice (some ⟨w.heap.size + 1, 0, none⟩) 18 18) 18 ((encRep c a b).map (Value.int .u8)) ∧ Below w.heap.size w w' := by
  go_enter Tryz.func68, Tryz.ntmps68
  go_wp2_with fail
  refine (start_at 17 _ _ (w.heap.size + 1) (by simp) (by omega) (by omega)).mono ?_
  rintro e w1 ⟨rfl, hown1, hb1'⟩
  have hs1 : w.heap.size + 1 < w1.heap.size := (hown1.lt (w.heap.size + 1) rfl).2
  have hc1 : ∀ j, w1.cell? ⟨w.heap.size, j, none⟩ = (#[.int .u8 c, .int .u64 a, .int .u64 b] : Array Value)[j]? := fun j => (hb1'.cell (p := ⟨w.heap.size, j, none⟩) (by simp)).trans (cell_box w _ _ j)
  have hB1 : Below w.heap.size w w1 := ((Below.refl _ w).alloc (Nat.le_refl _) _).trans (hb1'.mono (by omega))
  clear hb1'
  go_wp2_with fail
  refine (num_any (w.heap.size + 1) 2 18 (w.heap.size + 1) _ _ _ hown1 (by omega) ha0 ha1).mono ?_
  rintro e w2 ⟨rfl, hown2, hgrow2⟩
  have hs2 := hgrow2.size
  have hc2 := fun j => (cell_grown hgrow2 (b := w.heap.size) (by omega) (by omega) j).trans (hc1 j)
  go_wp2_with fail
  refine (num_any (w.heap.size + 1) 10 18 (w.heap.size + 1) _ _ _ hown2 (by omega) hb0 hb1).mono ?_
  rintro e w3 ⟨rfl, hown3, hgrow3⟩
  go_wp2
  go_ret
  refine ⟨rfl, own_down (b := w.heap.size + 1) (by omega) hown3, ?_⟩
  exact (hB1.grown hgrow2 (by omega) (by simp)).grown hgrow3 (by omega) (by simp)

end Go.Proofs.YtlamgpeiolfffaaGreatDoor

namespace Go.Proofs.YtlamgpeiolfffaaGreatDoor
open Go.RowKit
variable [dK] [iK]

theorem u64w (n : Int) (h0 : 0 ≤ n) (h1 : n ≤ 18446744073709551615) : IntKind.u64.wrap n = n := by rw [IntKind.wrap_u64]; omega

/-- The number of the window is the quotient. -/
theorem div64 (now y : Int) (hy : 1 ≤ y) (h0 : 0 ≤ now) (h1 : now ≤ 18446744073709551615) : IntKind.u64.wrap (now.tdiv y) = now / y ∧ 0 ≤ now / y ∧ now / y ≤ 18446744073709551615 ∧ now / y * y ≤ now ∧ 0 ≤ now / y * y := by
  have e : now.tdiv y = now / y := Int.tdiv_eq_ediv_of_nonneg h0
  have d0 : 0 ≤ now / y := Int.ediv_nonneg h0 (by omega)
  have d1 : now / y ≤ now := Int.ediv_le_self y h0
  have d2 : now / y * y ≤ now := Int.ediv_mul_le now (by omega)
  exact ⟨by rw [e]; exact u64w _ d0 (by omega), d0, by omega, d2, Int.mul_nonneg d0 (by omega)⟩

/-- The quota at a time, by the program. -/
theorem qturn2 (q : Qt) (now : Int) (w : World) (hk : q.kd = 2) (hy : 1 ≤ q.y) (h0 : 0 ≤ now) (h1 : now ≤ 18446744073709551615) :
    Calls Tryz.prog 136 #[.agg #[.int .u8 2, .int .u64 q.x, .int .u64 q.y, .int .u64 q.lv, .int .u64 q.wn], .int .u64 now] w fun e w' =>
      e = .returned (.agg #[.int .u8 (turnM q now).kd, .int .u64 (turnM q now).x, .int .u64 (turnM q now).y, .int .u64 (turnM q now).lv, .int .u64 (turnM q now).wn]) ∧ Below w.heap.size w w' := by
  obtain ⟨e1, _⟩ := div64 now q.y hy h0 h1
  have hk1 : ¬ q.kd = 1 := by omega
  by_cases h : now / q.y = q.wn
  · have e : turnM q now = q := by unfold turnM; rw [if_neg hk1, if_pos h]
    rw [e, hk]
    refine (qturnWindow_same 2 q.x q.y q.lv q.wn now w (by omega) (by rw [e1, h])).mono ?_
    rintro e w' ⟨rfl, rfl⟩
    exact ⟨rfl, ((Below.refl _ w).alloc (Nat.le_refl _) _).alloc (by simp) _⟩
  · have e : turnM q now = ⟨q.kd, q.x, q.y, 0, now / q.y⟩ := by unfold turnM; rw [if_neg hk1, if_neg h]
    rw [e, hk]
    refine (qturnWindow_new 2 q.x q.y q.lv q.wn now (now / q.y) w (by omega) e1 (by simpa using h)).mono ?_
    rintro e w' ⟨rfl, rfl⟩
    exact ⟨rfl, ((Below.refl _ w).alloc (Nat.le_refl _) _).alloc (by simp) _⟩

theorem qturn1 (q : Qt) (now : Int) (w : World) :
    Calls Tryz.prog 134 #[.agg #[.int .u8 1, .int .u64 q.x, .int .u64 q.y, .int .u64 q.lv, .int .u64 q.wn], .int .u64 now] w fun e w' =>
      e = .returned (.agg #[.int .u8 1, .int .u64 q.x, .int .u64 q.y, .int .u64 q.lv, .int .u64 q.wn]) ∧ Below w.heap.size w w' := by
  refine (qturnSpaced 1 q.x q.y q.lv q.wn now w).mono ?_
  rintro e w' ⟨rfl, rfl⟩
  exact ⟨rfl, ((Below.refl _ w).alloc (Nat.le_refl _) _).alloc (by simp) _⟩

/-- How a key stands, by the program. -/
theorem qquery_any (q : Qt) (now : Int) (w : World) (hq : q.ok) (h0 : 0 ≤ now) (h1 : now ≤ 18446744073709551615) :
    Calls Tryz.prog 126 #[.agg #[.int .u8 q.kd, .int .u64 q.x, .int .u64 q.y, .int .u64 q.lv, .int .u64 q.wn], .int .u64 now] w fun e w' =>
      e = .returned (.agg #[.int .u8 1, .int .u64 (turnM q now).lv, .int .u64 (turnM q now).wn]) ∧ Below w.heap.size w w' := by
  rcases hq.kd with ⟨hk, _⟩ | ⟨hk, hy⟩
  · have e : turnM q now = q := by unfold turnM; rw [if_pos hk]
    rw [e, hk]
    exact qquery1 q.x q.y q.lv q.wn now 1 q.x q.y q.lv q.wn w (fun w1 => qturn1 q now w1)
  · rw [hk]
    exact qquery2 q.x q.y q.lv q.wn now _ _ _ _ _ w (fun w1 => qturn2 q now w1 hk hy h0 h1)

theorem turnM_ok (q : Qt) (now : Int) (hq : q.ok) (h0 : 0 ≤ now) (h1 : now ≤ 18446744073709551615) : (turnM q now).ok := by
  unfold turnM
  split
  · exact hq
  · split
    · exact hq
    · rcases hq.kd with ⟨hk, _⟩ | ⟨hk, hy⟩
      · contradiction
      · obtain ⟨_, d0, d1, _⟩ := div64 now q.y hy h0 h1
        exact ⟨hq.kd, hq.x, hq.y, ⟨by simp, by simp⟩, ⟨d0, d1⟩⟩
theorem turnM_wn (q : Qt) (now : Int) (hk : q.kd = 2) : (turnM q now).wn = now / q.y ∧ (turnM q now).y = q.y ∧ (turnM q now).x = q.x ∧ (turnM q now).kd = q.kd := by
  unfold turnM
  rw [if_neg (by omega)]
  split
  · exact ⟨by omega, rfl, rfl, rfl⟩
  · exact ⟨rfl, rfl, rfl, rfl⟩

/-- n are asked for, by the program. -/
theorem qadmit_any (q : Qt) (now n : Int) (w : World) (hq : q.ok) (h0 : 0 ≤ now) (h1 : now ≤ 18446744073709551615) (n0 : 0 ≤ n) (n1 : n ≤ 18446744073709551615) (z : Qt × Rp) (hz : z = admM q now n) :
    Calls Tryz.prog 125 #[.agg #[.int .u8 q.kd, .int .u64 q.x, .int .u64 q.y, .int .u64 q.lv, .int .u64 q.wn], .int .u64 now, .int .u64 n] w fun e w' =>
      e = .returned (.tuple #[.agg #[.int .u8 z.1.kd, .int .u64 z.1.x, .int .u64 z.1.y, .int .u64 z.1.lv, .int .u64 z.1.wn], .agg #[.int .u8 z.2.c, .int .u64 z.2.a, .int .u64 z.2.b]]) ∧ Below w.heap.size w w' := by
  rcases hq.kd with ⟨hk, hx⟩ | ⟨hk, hy⟩
  · have e : z = admS q now n := by rw [hz]; unfold admM; rw [if_pos hk]
    rw [hk]
    refine qadmit1 q.x q.y q.lv q.wn now n 1 q.x q.y q.lv q.wn _ _ _ _ _ _ _ _ w (fun w1 => qturn1 q now w1) (fun w1 => ?_)
    subst e
    clear hz
    unfold admS
    by_cases hn : n = 0
    · rw [if_pos hn]
      simp only [hk]
      exact qadmS_zero 1 q.x q.y q.lv q.wn now n w1 hn
    rw [if_neg hn]
    have hs0 : 0 ≤ startM q now := by unfold startM; have := hq.lv; split <;> omega
    have hp0 : 0 ≤ n * q.x := Int.mul_nonneg n0 (by omega)
    have hn1 : 0 ≤ (n - 1) * q.x := Int.mul_nonneg (by omega) (by omega)
    have hnx : n * q.x = (n - 1) * q.x + q.x := by rw [Int.sub_mul]; omega
    by_cases c1 : 18446744073709551615 < startM q now + n * q.x
    · rw [if_pos c1]
      simp only [hk]
      exact qadmS_none 1 q.x q.y q.lv q.wn now n w1 n0 n1 hq.x.1 hq.x.2 hq.y.1 hq.y.2 hq.lv.1 hq.lv.2 h0 h1 hn (startM q now) _ rfl rfl hp0 c1
    rw [if_neg c1]
    have m1 : IntKind.u64.wrap (n - 1) = n - 1 := u64w _ (by omega) (by omega)
    have m2 : IntKind.u64.wrap ((n - 1) * q.x) = (n - 1) * q.x := u64w _ hn1 (by omega)
    by_cases c2 : q.y < (n - 1) * q.x
    · rw [if_pos c2]
      simp only [hk]
      exact qadmS_far 1 q.x q.y q.lv q.wn now n w1 n0 n1 hq.x.1 hq.x.2 hq.y.1 hq.y.2 hq.lv.1 hq.lv.2 h0 h1 hn (startM q now) _ rfl rfl hp0 (by omega) (n - 1) _ m1 m2 c2
    rw [if_neg c2]
    have m3 : IntKind.u64.wrap (startM q now + (n - 1) * q.x) = startM q now + (n - 1) * q.x := u64w _ (by omega) (by omega)
    by_cases c3 : orNever (now + q.y) < startM q now + (n - 1) * q.x
    · rw [if_pos c3]
      simp only [hk]
      have hge : q.y ≤ startM q now + (n - 1) * q.x := by
        unfold orNever at c3
        split at c3 <;> omega
      exact qadmS_late 1 q.x q.y q.lv q.wn now n w1 n0 n1 hq.x.1 hq.x.2 hq.y.1 hq.y.2 hq.lv.1 hq.lv.2 h0 h1 hn (startM q now) _ rfl rfl hp0 (by omega) (n - 1) _ m1 m2 (by omega) _ m3 _ rfl c3 _ (u64w _ (by omega) (by omega))
    · rw [if_neg c3]
      simp only [hk]
      exact qadmS_in 1 q.x q.y q.lv q.wn now n w1 n0 n1 hq.x.1 hq.x.2 hq.y.1 hq.y.2 hq.lv.1 hq.lv.2 h0 h1 hn (startM q now) _ rfl rfl hp0 (by omega) (n - 1) _ m1 m2 (by omega) _ m3 _ rfl (by omega)
  · have e : z = admW (turnM q now) n := by rw [hz]; unfold admM; rw [if_neg (by omega)]
    obtain ⟨t1, t2, t3, t4⟩ := turnM_wn q now hk
    obtain ⟨_, d0, d1, d2, d3⟩ := div64 now q.y hy h0 h1
    have hto := turnM_ok q now hq h0 h1
    have htu : ∀ w1, _ := fun w1 => qturn2 q now w1 hk hy h0 h1
    rw [hk]
    generalize turnM q now = u at e t1 t2 t3 t4 hto htu
    refine qadmit2 q.x q.y q.lv q.wn now n u.kd u.x u.y u.lv u.wn _ _ _ _ _ _ _ _ w htu (fun w1 => ?_)
    subst e
    unfold admW
    by_cases c1 : u.lv + n ≤ u.x
    · rw [if_pos c1]
      exact qadmW_in u.kd u.x u.y u.lv u.wn now n w1 hto.lv.1 n0 hto.x.2 c1
    rw [if_neg c1]
    by_cases c2 : u.x < n
    · rw [if_pos c2]
      exact qadmW_never u.kd u.x u.y u.lv u.wn now n w1 hto.lv.1 hto.lv.2 n0 n1 hto.x.2 (by omega) c2
    · rw [if_neg c2]
      have hm : IntKind.u64.wrap (u.wn * u.y) = u.wn * u.y := u64w _ (by rw [t1, t2]; exact d3) (by rw [t1, t2]; omega)
      exact qadmW_next u.kd u.x u.y u.lv u.wn now n w1 hto.lv.1 hto.lv.2 n0 n1 hto.x.2 (by omega) (by omega) _ hm (by rw [t1, t2]; exact d3) (by rw [t1, t2]; omega) hto.y.1 hto.y.2
end Go.Proofs.YtlamgpeiolfffaaGreatDoor

namespace Go.Proofs.YtlamgpeiolfffaaGreatDoor
open Go.RowKit
variable [dK] [iK]

/-- A store of a key, as what it leaves of the ledger. -/
theorem Out.put {w w' : World} {st : Int} {sb : Nat} {L L' : Ld} {F : Nat → Prop} {mp : Option Nat} (hS : SrvAt w st sb L F) (hmF : ∀ b, mp = some b → F b) {b' : Nat} (h1 : w'.heap[sb]? = some (.cells #[.int .i32 st, .int .u32 0, .int .u64 L'.time, .map (some b'), .int .u64 L'.adm] 119)) (h2 : MapX w' (some b') L'.ks)
    (h3 : Keep (fun b => b = sb ∨ mp = some b) w w') (h4 : mp = some b' ∨ w.heap.size ≤ b') : Out w st sb L' F w' := by
  refine ⟨fun b => b = sb ∨ b = b', ⟨⟨some b', h1, h2, fun b e => Or.inr (Option.some.inj e).symm⟩, Or.inl rfl, ?_⟩, h3.mono (fun k h _ => h.elim (fun e => e ▸ hS.own) (hmF k)), ?_⟩
  · rintro b (rfl | rfl)
    · exact ltB h1
    · exact MapX.lt h2 b rfl
  · rintro b (rfl | rfl)
    · exact Or.inl hS.own
    · exact h4.imp (hmF b) id

theorem do69 (st : Int) (sb : Nat) (L : Ld) (F : Nat → Prop) (q : Rq) (w : World) (hS : SrvAt w st sb L F) (hL : L.ok) (hq : q.ok) :
    Calls Tryz.prog 69 #[.pointer (some ⟨sb, 0, none⟩), .agg #[.int .u8 q.op, .int .u8 q.k0, .int .u8 q.k1, .int .u8 q.k2, .int .u8 q.k3, .int .u8 q.k4, .int .u8 q.k5, .int .u8 q.k6, .int .u8 q.k7, .int .u8 q.kd, .int .u64 q.x, .int .u64 q.y, .int .u64 q.n]] w fun e w' => e = .returned (.agg #[.int .u8 (doM L q).2.c, .int .u64 (doM L q).2.a, .int .u64 (doM L q).2.b]) ∧ Out w st sb (doM L q).1 F w' := by
  have ht := hL.time
  by_cases o1 : q.op = 1
  · by_cases hso : soundM q.kd q.x q.y
    · cases hf : fnd q.key L.ks with
      | some z =>
        have e : doM L q = (L, ⟨9, 0, 0⟩) := by unfold doM; rw [if_pos o1, if_neg (not_not_intro hso), if_pos (by rw [hf]; rfl)]
        rw [e]
        refine do_define sb st L L L F q 9 0 0 w o1 hS (fun w1 h1 => ?_)
        obtain ⟨mp, m1, m2, m3⟩ := h1.mem
        refine (bdef_exists sb _ _ _ L.time mp L.ks q.key w1 m1 m2 hq.key q.kd q.x q.y hso z hf).mono ?_
        rintro e w' ⟨rfl, hb⟩
        exact ⟨rfl, Out.same h1 hb⟩
      | none =>
        by_cases hl : 12 ≤ L.ks.length
        · have e : doM L q = (L, ⟨5, 0, 0⟩) := by unfold doM; rw [if_pos o1, if_neg (not_not_intro hso), if_neg (by rw [hf]; simp), if_pos hl]
          rw [e]
          refine do_define sb st L L L F q 5 0 0 w o1 hS (fun w1 h1 => ?_)
          obtain ⟨mp, m1, m2, m3⟩ := h1.mem
          refine (bdef_full sb _ _ _ L.time mp L.ks q.key w1 m1 m2 hq.key q.kd q.x q.y hso hf hl).mono ?_
          rintro e w' ⟨rfl, hb⟩
          exact ⟨rfl, Out.same h1 hb⟩
        · have e : doM L q = (⟨L.time, L.adm, L.ks ++ [(q.key, ⟨q.kd, q.x, q.y, 0, 0⟩)]⟩, ⟨1, 0, 0⟩) := by unfold doM; rw [if_pos o1, if_neg (not_not_intro hso), if_neg (by rw [hf]; simp), if_neg hl]
          rw [e]
          refine do_define sb st L _ L F q 1 0 0 w o1 hS (fun w1 h1 => ?_)
          obtain ⟨mp, m1, m2, m3⟩ := h1.mem
          refine (bdef_new sb _ _ _ L.time mp L.ks q.key w1 m1 m2 hq.key q.kd q.x q.y hso hf (by omega)).mono ?_
          rintro e w' ⟨rfl, b', g1, g2, g3, g4, g5⟩
          have ep : putM q.key ⟨q.kd, q.x, q.y, 0, 0⟩ L.ks = L.ks ++ [(q.key, ⟨q.kd, q.x, q.y, 0, 0⟩)] := by unfold putM; rw [if_neg (by rw [hf]; simp)]
          exact ⟨rfl, Out.put h1 m3 g1 (ep ▸ g2) g3 g4⟩
    · have e : doM L q = (L, ⟨8, 0, 0⟩) := by unfold doM; rw [if_pos o1, if_pos hso]
      rw [e]
      refine do_define sb st L L L F q 8 0 0 w o1 hS (fun w1 h1 => ?_)
      obtain ⟨mp, m1, m2, m3⟩ := h1.mem
      cases hf : fnd q.key L.ks with
      | some z =>
        refine (bdef_bad1 sb _ _ _ L.time mp L.ks q.key w1 m1 m2 hq.key q.kd q.x q.y hso z hf).mono ?_
        rintro e w' ⟨rfl, hb⟩
        exact ⟨rfl, Out.same h1 hb⟩
      | none =>
        refine (bdef_bad0 sb _ _ _ L.time mp L.ks q.key w1 m1 m2 hq.key q.kd q.x q.y hso hf).mono ?_
        rintro e w' ⟨rfl, hb⟩
        exact ⟨rfl, Out.same h1 hb⟩
  by_cases o2 : q.op = 2
  · cases hf : fnd q.key L.ks with
    | none =>
      have e : doM L q = (L, ⟨4, 0, 0⟩) := by unfold doM; rw [if_neg o1, if_pos o2, hf]
      rw [e]
      refine do_admit sb st L L L F q 4 0 0 w o2 hS (fun w1 h1 => ?_) (fun w1 F1 h1 => ?_)
      · obtain ⟨mp, m1, m2, m3⟩ := h1.mem
        refine (badmit_none sb _ _ _ L.time mp L.ks q.key w1 m1 m2 hq.key hf q.n).mono ?_
        rintro e w' ⟨rfl, hb⟩
        exact ⟨rfl, Out.same h1 hb⟩
      · refine (scount_out sb q.n 4 0 0 (by decide) w1).mono ?_
        rintro e w' ⟨rfl, hb⟩
        exact ⟨rfl, Out.same h1 hb⟩
    | some z =>
      have hz := hL.qt _ (fnd_mem hf)
      obtain ⟨a1, a2, a3⟩ := admM_ok z L.time q.n hz ht.1 ht.2 hq.n.1
      have e : doM L q = (⟨L.time, if (admM z L.time q.n).2.c = 2 then (L.adm + q.n) % 18446744073709551616 else L.adm, upd q.key (admM z L.time q.n).1 L.ks⟩, (admM z L.time q.n).2) := by unfold doM; rw [if_neg o1, if_pos o2, hf]
      rw [e]
      have hqa := fun w1 => qadmit_any z L.time q.n w1 hz ht.1 ht.2 hq.n.1 hq.n.2 _ rfl
      generalize admM z L.time q.n = zr at a1 a2 a3 hqa
      obtain ⟨zq, zc, za, zb⟩ := zr
      refine do_admit sb st L ⟨L.time, L.adm, upd q.key zq L.ks⟩ _ F q zc za zb w o2 hS (fun w1 h1 => ?_) (fun w1 F1 h1 => ?_)
      · obtain ⟨mp, m1, m2, m3⟩ := h1.mem
        refine (badmit_some sb _ _ _ L.time mp L.ks q.key w1 m1 m2 hq.key hL.len z zq hf q.n zc za zb hqa).mono ?_
        rintro e w' ⟨rfl, b', g1, g2, g3, g4, g5⟩
        have ep : putM q.key zq L.ks = upd q.key zq L.ks := by unfold putM; rw [if_pos (by rw [hf]; rfl)]
        exact ⟨rfl, Out.put h1 m3 g1 (ep ▸ g2) g3 g4⟩
      · rcases a3 with h2 | h3
        · have h2 : zc = 2 := h2
          subst h2
          obtain ⟨mp, m1, m2, m3⟩ := h1.mem
          have hadm := hL.adm
          have hn := hq.n
          refine (scount_in sb _ _ _ _ L.adm q.n ((L.adm + q.n) % 18446744073709551616) za zb (by rw [IntKind.wrap_u64]) w1 m1).mono ?_
          rintro e w' ⟨rfl, g1, g2⟩
          refine ⟨rfl, F1, ⟨⟨mp, ?_, m2.kept fun b eb => g2.block b (m2.lt b eb) ?_, m3⟩, h1.own, fun b hb => Nat.lt_of_lt_of_le (h1.lt b hb) g2.size⟩, g2.mono (fun k hk _ => hk ▸ h1.own), fun b hb => Or.inl hb⟩
          · simpa using g1
          · intro e'
            subst e' eb
            obtain ⟨_, _, ⟨es, clock, g1, _⟩, _⟩ := m2
            rw [m1] at g1; simp at g1
        · have h3 : zc = 3 := h3
          subst h3
          refine (scount_out sb q.n 3 za zb (by decide) w1).mono ?_
          rintro e w' ⟨rfl, hb⟩
          exact ⟨rfl, by simpa using Out.same h1 hb⟩
  by_cases o3 : q.op = 3
  · cases hf : fnd q.key L.ks with
    | none =>
      have e : doM L q = (L, ⟨4, 0, 0⟩) := by unfold doM; rw [if_neg o1, if_neg o2, if_pos o3, hf]
      rw [e]
      refine do_query sb st L L L F q 4 0 0 w o3 hS (fun w1 h1 => ?_)
      obtain ⟨mp, m1, m2, m3⟩ := h1.mem
      refine (bquery_none sb _ _ _ L.time mp L.ks q.key w1 m1 m2 hq.key hf).mono ?_
      rintro e w' ⟨rfl, hb⟩
      exact ⟨rfl, Out.same h1 hb⟩
    | some z =>
      have hz := hL.qt _ (fnd_mem hf)
      have e : doM L q = (L, ⟨1, (turnM z L.time).lv, (turnM z L.time).wn⟩) := by unfold doM; rw [if_neg o1, if_neg o2, if_pos o3, hf]
      rw [e]
      refine do_query sb st L L L F q 1 _ _ w o3 hS (fun w1 h1 => ?_)
      obtain ⟨mp, m1, m2, m3⟩ := h1.mem
      refine (bquery_some sb _ _ _ L.time mp L.ks q.key w1 m1 m2 hq.key z hf 1 _ _ (fun w2 => qquery_any z L.time w2 hz ht.1 ht.2)).mono ?_
      rintro e w' ⟨rfl, hb⟩
      exact ⟨rfl, Out.same h1 hb⟩
  by_cases o4 : q.op = 4
  · cases hf : fnd q.key L.ks with
    | none =>
      have e : doM L q = (L, ⟨4, 0, 0⟩) := by unfold doM; rw [if_neg o1, if_neg o2, if_neg o3, if_pos o4, hf]
      rw [e]
      refine do_remove sb st L L L F q 4 0 0 w o4 hS (fun w1 h1 => ?_)
      obtain ⟨mp, m1, m2, m3⟩ := h1.mem
      refine (bremove_none sb _ _ _ L.time mp L.ks q.key w1 m1 m2 hq.key hf).mono ?_
      rintro e w' ⟨rfl, hb⟩
      exact ⟨rfl, Out.same h1 hb⟩
    | some z =>
      have e : doM L q = (⟨L.time, L.adm, del q.key L.ks⟩, ⟨1, 0, 0⟩) := by unfold doM; rw [if_neg o1, if_neg o2, if_neg o3, if_pos o4, hf]
      rw [e]
      refine do_remove sb st L _ L F q 1 0 0 w o4 hS (fun w1 h1 => ?_)
      obtain ⟨mp, m1, m2, m3⟩ := h1.mem
      refine (bremove_some sb _ _ _ L.time mp L.ks q.key w1 m1 m2 hq.key hL.nd z hf).mono ?_
      rintro e w' ⟨rfl, g1, g2, g3⟩
      exact ⟨rfl, F, ⟨⟨mp, g1, g2, m3⟩, h1.own, fun b hb => Nat.lt_of_lt_of_le (h1.lt b hb) g3.size⟩, g3.mono (fun k hk _ => m3 k hk), fun b hb => Or.inl hb⟩
  by_cases o6 : q.op = 6
  · have e : doM L q = (L, ⟨1, L.time, 0⟩) := by unfold doM; rw [if_neg o1, if_neg o2, if_neg o3, if_neg o4, if_pos o6]
    rw [e]
    exact do_clock sb st L F q w o6 hS
  · have e : doM L q = (L, ⟨1, 0, 0⟩) := by unfold doM; rw [if_neg o1, if_neg o2, if_neg o3, if_neg o4, if_neg o6]
    rw [e]
    exact do_other sb st L F q w o1 o2 o3 o4 o6 hS
end Go.Proofs.YtlamgpeiolfffaaGreatDoor

namespace Go.Proofs.YtlamgpeiolfffaaGreatDoor
open Go.RowKit
variable [dK] [iK]


set_option maxRecDepth 100000 in
set_option maxHeartbeats 1000000 in
theorem refreq1 (k0 k1 k2 k3 k4 k5 k6 k7 kd x y n : Int) (w : World) (hx0 : 0 ≤ x) (hx1 : x ≤ 18446744073709551615) (hy0 : 0 ≤ y) (hy1 : y ≤ 18446744073709551615) :
    Calls Tryz.prog 49 #[.agg #[.int .u8 1, .int .u8 k0, .int .u8 k1, .int .u8 k2, .int .u8 k3, .int .u8 k4, .int .u8 k5, .int .u8 k6, .int .u8 k7, .int .u8 kd, .int .u64 x, .int .u64 y, .int .u64 n]] w
      fun e w' => ∃ v', e = .returned v' ∧ w'.ownsRow w.heap.size 5 1 v' 27 (([26, 1, k0, k1, k2, k3, k4, k5, k6, k7, kd] ++ be8 x ++ be8 y).map (Value.int .u8)) ∧ Below w.heap.size w w' := by
  obtain ⟨i0, hi, hz0, hz1, hz2⟩ := info_parts Tryz.info5
  have hc1 : ∀ j, ((w.alloc (.cells #[.int .u8 1, .int .u8 k0, .int .u8 k1, .int .u8 k2, .int .u8 k3, .int .u8 k4, .int .u8 k5, .int .u8 k6, .int .u8 k7, .int .u8 kd, .int .u64 x, .int .u64 y, .int .u64 n] 58)).alloc (.cells #[.int .u8 26, .int .u8 1] 5)).cell? ⟨w.heap.size, j, none⟩ = (#[.int .u8 1, .int .u8 k0, .int .u8 k1, .int .u8 k2, .int .u8 k3, .int .u8 k4, .int .u8 k5, .int .u8 k6, .int .u8 k7, .int .u8 kd, .int .u64 x, .int .u64 y, .int .u64 n] : Array Value)[j]? := fun j => (World.cell?_alloc_past _ _ _ (by simp)).trans (cell_box w _ _ j)
  have hown1 : ((w.alloc (.cells #[.int .u8 1, .int .u8 k0, .int .u8 k1, .int .u8 k2, .int .u8 k3, .int .u8 k4, .int .u8 k5, .int .u8 k6, .int .u8 k7, .int .u8 kd, .int .u64 x, .int .u64 y, .int .u64 n] 58)).alloc (.cells #[.int .u8 26, .int .u8 1] 5)).ownsRow (w.heap.size + 1) 5 1 (.slice (some ⟨w.heap.size + 1, 0, none⟩) 2 2) 2 [.int .u8 26, .int .u8 1] := by
    have h := World.ownsRow_lit (base := w.heap.size + 1) (e := 5) (size := 1) (w.alloc (.cells #[.int .u8 1, .int .u8 k0, .int .u8 k1, .int .u8 k2, .int .u8 k3, .int .u8 k4, .int .u8 k5, .int .u8 k6, .int .u8 k7, .int .u8 kd, .int .u64 x, .int .u64 y, .int .u64 n] 58)) #[.int .u8 26, .int .u8 1] 2 (by simp) (by unfold maxLen; omega) rfl
    simpa using h
  have hB1 : Below w.heap.size w ((w.alloc (.cells #[.int .u8 1, .int .u8 k0, .int .u8 k1, .int .u8 k2, .int .u8 k3, .int .u8 k4, .int .u8 k5, .int .u8 k6, .int .u8 k7, .int .u8 kd, .int .u64 x, .int .u64 y, .int .u64 n] 58)).alloc (.cells #[.int .u8 26, .int .u8 1] 5)) := ((Below.refl _ w).alloc (Nat.le_refl _) _).alloc (by simp) _
  have hs1 : w.heap.size + 1 < ((w.alloc (.cells #[.int .u8 1, .int .u8 k0, .int .u8 k1, .int .u8 k2, .int .u8 k3, .int .u8 k4, .int .u8 k5, .int .u8 k6, .int .u8 k7, .int .u8 kd, .int .u64 x, .int .u64 y, .int .u64 n] 58)).alloc (.cells #[.int .u8 26, .int .u8 1] 5)).heap.size := by simp
  have hl : reqLen 1 = 26 := rfl
  go_enter Tryz.func49, Tryz.ntmps49
  go_wp2_with (first | (go_at_call 78; refine (size_any _ _).mono ?_; rintro e w' ⟨rfl, rfl⟩) | (at_builtin; refine wpList_append_own _ rfl (.tmp 17) (.tmp 19) 69 rfl (w.heap.size + 1) 5 i0 (.int .u8 0) 1 1 Tryz.underlying69 hi hz0 hz1 hz2 rfl (by decide) (.slice (some ⟨w.heap.size + 1, 0, none⟩) 2 2) 2 _ rfl hown1 ⟨w.heap.size, 1, none⟩ 8 8 [.int .u8 k0, .int .u8 k1, .int .u8 k2, .int .u8 k3, .int .u8 k4, .int .u8 k5, .int .u8 k6, .int .u8 k7] rfl rfl (src_of hc1 _ (key_src _ _ _ _ _ _ _ _ _ _ _ _ _)) (by simp [Value.oneCell']) (by unfold maxLen; omega) (by omega) (by simp) ?_; intro v2 w2 hown2 hgrow2 _; have hs2 := Nat.lt_of_lt_of_le hs1 hgrow2.size; have hD2 := (Below.refl (w.heap.size + 1) _).grown hgrow2 (Nat.le_of_lt hs1) (fun kk hkk => (hown1.lt kk hkk).1); have hc2 := fun j => (hD2.cell (p := ⟨w.heap.size, j, none⟩) (Nat.lt_succ_self _)).trans (hc1 j)) | (at_builtin; (refine wpList_append_own _ rfl (.tmp 24) (.tmp 28) 69 rfl (w.heap.size + 1) 5 i0 (.int .u8 0) 1 1 Tryz.underlying69 hi hz0 hz1 hz2 rfl (by decide) v2 10 _ rfl (hown2.alloc _) ⟨w2.heap.size, 0, none⟩ 1 1 [.int .u8 kd] rfl rfl (cell_one_new _ _ _) (by simp [Value.oneCell']) (by unfold maxLen; omega) (by omega) (by simp; omega) ?_); intro v3 w3 hown3 hgrow3 _; have hs3 : w.heap.size + 1 < w3.heap.size := (Nat.lt_of_lt_of_le (by simp; omega) hgrow3.size); have hD3 := (hD2.alloc (Nat.le_of_lt hs2) (.cells #[.int .u8 kd] 5)).grown hgrow3 (by simp; omega) (fun kk hkk => (hown2.lt kk hkk).1); have hc3 := fun j => (hD3.cell (p := ⟨w.heap.size, j, none⟩) (Nat.lt_succ_self _)).trans (hc1 j)))
  refine (refnum_any v3 11 (w.heap.size + 1) _ _ _ hown3 (by omega) (by omega) hx0 hx1).mono ?_
  rintro e w4 ⟨v4, rfl, hown4, hb4⟩
  have hs4 : w.heap.size + 1 < w4.heap.size := by have := hb4.size; omega
  have hc4 := fun j => (hb4.cell (p := ⟨w.heap.size, j, none⟩) (Nat.lt_succ_self _)).trans (hc3 j)
  go_wp2_with fail
  refine (refnum_any v4 19 (w.heap.size + 1) _ _ _ hown4 (by omega) (by omega) hy0 hy1).mono ?_
  rintro e w5 ⟨v5, rfl, hown5, hb5⟩
  have hc5 := fun j => (hb5.cell (p := ⟨w.heap.size, j, none⟩) (Nat.lt_succ_self _)).trans (hc4 j)
  go_wp2
  go_ret
  exact ⟨_, rfl, own_down (b := w.heap.size + 1) (by omega) (by simpa using hown5), hB1.trans (((hD3.trans hb4).trans hb5).mono (by omega))⟩

set_option maxRecDepth 100000 in
set_option maxHeartbeats 1000000 in
theorem refreq2 (k0 k1 k2 k3 k4 k5 k6 k7 kd x y n : Int) (w : World) (hn0 : 0 ≤ n) (hn1 : n ≤ 18446744073709551615) :
    Calls Tryz.prog 49 #[.agg #[.int .u8 2, .int .u8 k0, .int .u8 k1, .int .u8 k2, .int .u8 k3, .int .u8 k4, .int .u8 k5, .int .u8 k6, .int .u8 k7, .int .u8 kd, .int .u64 x, .int .u64 y, .int .u64 n]] w
      fun e w' => ∃ v', e = .returned v' ∧ w'.ownsRow w.heap.size 5 1 v' 18 (([17, 2, k0, k1, k2, k3, k4, k5, k6, k7] ++ be8 n).map (Value.int .u8)) ∧ Below w.heap.size w w' := by
  obtain ⟨i0, hi, hz0, hz1, hz2⟩ := info_parts Tryz.info5
  have hc1 : ∀ j, ((w.alloc (.cells #[.int .u8 2, .int .u8 k0, .int .u8 k1, .int .u8 k2, .int .u8 k3, .int .u8 k4, .int .u8 k5, .int .u8 k6, .int .u8 k7, .int .u8 kd, .int .u64 x, .int .u64 y, .int .u64 n] 58)).alloc (.cells #[.int .u8 17, .int .u8 2] 5)).cell? ⟨w.heap.size, j, none⟩ = (#[.int .u8 2, .int .u8 k0, .int .u8 k1, .int .u8 k2, .int .u8 k3, .int .u8 k4, .int .u8 k5, .int .u8 k6, .int .u8 k7, .int .u8 kd, .int .u64 x, .int .u64 y, .int .u64 n] : Array Value)[j]? := fun j => (World.cell?_alloc_past _ _ _ (by simp)).trans (cell_box w _ _ j)
  have hown1 : ((w.alloc (.cells #[.int .u8 2, .int .u8 k0, .int .u8 k1, .int .u8 k2, .int .u8 k3, .int .u8 k4, .int .u8 k5, .int .u8 k6, .int .u8 k7, .int .u8 kd, .int .u64 x, .int .u64 y, .int .u64 n] 58)).alloc (.cells #[.int .u8 17, .int .u8 2] 5)).ownsRow (w.heap.size + 1) 5 1 (.slice (some ⟨w.heap.size + 1, 0, none⟩) 2 2) 2 [.int .u8 17, .int .u8 2] := by
    have h := World.ownsRow_lit (base := w.heap.size + 1) (e := 5) (size := 1) (w.alloc (.cells #[.int .u8 2, .int .u8 k0, .int .u8 k1, .int .u8 k2, .int .u8 k3, .int .u8 k4, .int .u8 k5, .int .u8 k6, .int .u8 k7, .int .u8 kd, .int .u64 x, .int .u64 y, .int .u64 n] 58)) #[.int .u8 17, .int .u8 2] 2 (by simp) (by unfold maxLen; omega) rfl
    simpa using h
  have hB1 : Below w.heap.size w ((w.alloc (.cells #[.int .u8 2, .int .u8 k0, .int .u8 k1, .int .u8 k2, .int .u8 k3, .int .u8 k4, .int .u8 k5, .int .u8 k6, .int .u8 k7, .int .u8 kd, .int .u64 x, .int .u64 y, .int .u64 n] 58)).alloc (.cells #[.int .u8 17, .int .u8 2] 5)) := ((Below.refl _ w).alloc (Nat.le_refl _) _).alloc (by simp) _
  have hs1 : w.heap.size + 1 < ((w.alloc (.cells #[.int .u8 2, .int .u8 k0, .int .u8 k1, .int .u8 k2, .int .u8 k3, .int .u8 k4, .int .u8 k5, .int .u8 k6, .int .u8 k7, .int .u8 kd, .int .u64 x, .int .u64 y, .int .u64 n] 58)).alloc (.cells #[.int .u8 17, .int .u8 2] 5)).heap.size := by simp
  have hl : reqLen 2 = 17 := rfl
  go_enter Tryz.func49, Tryz.ntmps49
  go_wp2_with (first | (go_at_call 78; refine (size_any _ _).mono ?_; rintro e w' ⟨rfl, rfl⟩) | (at_builtin; refine wpList_append_own _ rfl (.tmp 17) (.tmp 19) 69 rfl (w.heap.size + 1) 5 i0 (.int .u8 0) 1 1 Tryz.underlying69 hi hz0 hz1 hz2 rfl (by decide) (.slice (some ⟨w.heap.size + 1, 0, none⟩) 2 2) 2 _ rfl hown1 ⟨w.heap.size, 1, none⟩ 8 8 [.int .u8 k0, .int .u8 k1, .int .u8 k2, .int .u8 k3, .int .u8 k4, .int .u8 k5, .int .u8 k6, .int .u8 k7] rfl rfl (src_of hc1 _ (key_src _ _ _ _ _ _ _ _ _ _ _ _ _)) (by simp [Value.oneCell']) (by unfold maxLen; omega) (by omega) (by simp) ?_; intro v2 w2 hown2 hgrow2 _; have hs2 := Nat.lt_of_lt_of_le hs1 hgrow2.size; have hD2 := (Below.refl (w.heap.size + 1) _).grown hgrow2 (Nat.le_of_lt hs1) (fun kk hkk => (hown1.lt kk hkk).1); have hc2 := fun j => (hD2.cell (p := ⟨w.heap.size, j, none⟩) (Nat.lt_succ_self _)).trans (hc1 j)))
  refine (refnum_any v2 10 (w.heap.size + 1) _ _ _ hown2 (by omega) (by omega) hn0 hn1).mono ?_
  rintro e w3 ⟨v3, rfl, hown3, hb3⟩
  go_wp2
  go_ret
  exact ⟨_, rfl, own_down (b := w.heap.size + 1) (by omega) (by simpa using hown3), hB1.trans ((hD2.trans hb3).mono (by omega))⟩

set_option maxRecDepth 100000 in
set_option maxHeartbeats 1000000 in
theorem refreq3 (k0 k1 k2 k3 k4 k5 k6 k7 kd x y n : Int) (w : World) :
    Calls Tryz.prog 49 #[.agg #[.int .u8 3, .int .u8 k0, .int .u8 k1, .int .u8 k2, .int .u8 k3, .int .u8 k4, .int .u8 k5, .int .u8 k6, .int .u8 k7, .int .u8 kd, .int .u64 x, .int .u64 y, .int .u64 n]] w
      fun e w' => ∃ v', e = .returned v' ∧ w'.ownsRow w.heap.size 5 1 v' 10 (([9, 3, k0, k1, k2, k3, k4, k5, k6, k7]).map (Value.int .u8)) ∧ Below w.heap.size w w' := by
  obtain ⟨i0, hi, hz0, hz1, hz2⟩ := info_parts Tryz.info5
  have hc1 : ∀ j, ((w.alloc (.cells #[.int .u8 3, .int .u8 k0, .int .u8 k1, .int .u8 k2, .int .u8 k3, .int .u8 k4, .int .u8 k5, .int .u8 k6, .int .u8 k7, .int .u8 kd, .int .u64 x, .int .u64 y, .int .u64 n] 58)).alloc (.cells #[.int .u8 9, .int .u8 3] 5)).cell? ⟨w.heap.size, j, none⟩ = (#[.int .u8 3, .int .u8 k0, .int .u8 k1, .int .u8 k2, .int .u8 k3, .int .u8 k4, .int .u8 k5, .int .u8 k6, .int .u8 k7, .int .u8 kd, .int .u64 x, .int .u64 y, .int .u64 n] : Array Value)[j]? := fun j => (World.cell?_alloc_past _ _ _ (by simp)).trans (cell_box w _ _ j)
  have hown1 : ((w.alloc (.cells #[.int .u8 3, .int .u8 k0, .int .u8 k1, .int .u8 k2, .int .u8 k3, .int .u8 k4, .int .u8 k5, .int .u8 k6, .int .u8 k7, .int .u8 kd, .int .u64 x, .int .u64 y, .int .u64 n] 58)).alloc (.cells #[.int .u8 9, .int .u8 3] 5)).ownsRow (w.heap.size + 1) 5 1 (.slice (some ⟨w.heap.size + 1, 0, none⟩) 2 2) 2 [.int .u8 9, .int .u8 3] := by
    have h := World.ownsRow_lit (base := w.heap.size + 1) (e := 5) (size := 1) (w.alloc (.cells #[.int .u8 3, .int .u8 k0, .int .u8 k1, .int .u8 k2, .int .u8 k3, .int .u8 k4, .int .u8 k5, .int .u8 k6, .int .u8 k7, .int .u8 kd, .int .u64 x, .int .u64 y, .int .u64 n] 58)) #[.int .u8 9, .int .u8 3] 2 (by simp) (by unfold maxLen; omega) rfl
    simpa using h
  have hB1 : Below w.heap.size w ((w.alloc (.cells #[.int .u8 3, .int .u8 k0, .int .u8 k1, .int .u8 k2, .int .u8 k3, .int .u8 k4, .int .u8 k5, .int .u8 k6, .int .u8 k7, .int .u8 kd, .int .u64 x, .int .u64 y, .int .u64 n] 58)).alloc (.cells #[.int .u8 9, .int .u8 3] 5)) := ((Below.refl _ w).alloc (Nat.le_refl _) _).alloc (by simp) _
  have hs1 : w.heap.size + 1 < ((w.alloc (.cells #[.int .u8 3, .int .u8 k0, .int .u8 k1, .int .u8 k2, .int .u8 k3, .int .u8 k4, .int .u8 k5, .int .u8 k6, .int .u8 k7, .int .u8 kd, .int .u64 x, .int .u64 y, .int .u64 n] 58)).alloc (.cells #[.int .u8 9, .int .u8 3] 5)).heap.size := by simp
  have hl : reqLen 3 = 9 := rfl
  go_enter Tryz.func49, Tryz.ntmps49
  go_wp2_with (first | (go_at_call 78; refine (size_any _ _).mono ?_; rintro e w' ⟨rfl, rfl⟩) | (at_builtin; refine wpList_append_own _ rfl (.tmp 17) (.tmp 19) 69 rfl (w.heap.size + 1) 5 i0 (.int .u8 0) 1 1 Tryz.underlying69 hi hz0 hz1 hz2 rfl (by decide) (.slice (some ⟨w.heap.size + 1, 0, none⟩) 2 2) 2 _ rfl hown1 ⟨w.heap.size, 1, none⟩ 8 8 [.int .u8 k0, .int .u8 k1, .int .u8 k2, .int .u8 k3, .int .u8 k4, .int .u8 k5, .int .u8 k6, .int .u8 k7] rfl rfl (src_of hc1 _ (key_src _ _ _ _ _ _ _ _ _ _ _ _ _)) (by simp [Value.oneCell']) (by unfold maxLen; omega) (by omega) (by simp) ?_; intro v2 w2 hown2 hgrow2 _; have hs2 := Nat.lt_of_lt_of_le hs1 hgrow2.size; have hD2 := (Below.refl (w.heap.size + 1) _).grown hgrow2 (Nat.le_of_lt hs1) (fun kk hkk => (hown1.lt kk hkk).1); have hc2 := fun j => (hD2.cell (p := ⟨w.heap.size, j, none⟩) (Nat.lt_succ_self _)).trans (hc1 j)))
  go_ret
  exact ⟨_, rfl, own_down (b := w.heap.size + 1) (by omega) (by simpa using hown2), hB1.trans (hD2.mono (by omega))⟩

set_option maxRecDepth 100000 in
set_option maxHeartbeats 1000000 in
theorem refreq4 (k0 k1 k2 k3 k4 k5 k6 k7 kd x y n : Int) (w : World) :
    Calls Tryz.prog 49 #[.agg #[.int .u8 4, .int .u8 k0, .int .u8 k1, .int .u8 k2, .int .u8 k3, .int .u8 k4, .int .u8 k5, .int .u8 k6, .int .u8 k7, .int .u8 kd, .int .u64 x, .int .u64 y, .int .u64 n]] w
      fun e w' => ∃ v', e = .returned v' ∧ w'.ownsRow w.heap.size 5 1 v' 10 (([9, 4, k0, k1, k2, k3, k4, k5, k6, k7]).map (Value.int .u8)) ∧ Below w.heap.size w w' := by
  obtain ⟨i0, hi, hz0, hz1, hz2⟩ := info_parts Tryz.info5
  have hc1 : ∀ j, ((w.alloc (.cells #[.int .u8 4, .int .u8 k0, .int .u8 k1, .int .u8 k2, .int .u8 k3, .int .u8 k4, .int .u8 k5, .int .u8 k6, .int .u8 k7, .int .u8 kd, .int .u64 x, .int .u64 y, .int .u64 n] 58)).alloc (.cells #[.int .u8 9, .int .u8 4] 5)).cell? ⟨w.heap.size, j, none⟩ = (#[.int .u8 4, .int .u8 k0, .int .u8 k1, .int .u8 k2, .int .u8 k3, .int .u8 k4, .int .u8 k5, .int .u8 k6, .int .u8 k7, .int .u8 kd, .int .u64 x, .int .u64 y, .int .u64 n] : Array Value)[j]? := fun j => (World.cell?_alloc_past _ _ _ (by simp)).trans (cell_box w _ _ j)
  have hown1 : ((w.alloc (.cells #[.int .u8 4, .int .u8 k0, .int .u8 k1, .int .u8 k2, .int .u8 k3, .int .u8 k4, .int .u8 k5, .int .u8 k6, .int .u8 k7, .int .u8 kd, .int .u64 x, .int .u64 y, .int .u64 n] 58)).alloc (.cells #[.int .u8 9, .int .u8 4] 5)).ownsRow (w.heap.size + 1) 5 1 (.slice (some ⟨w.heap.size + 1, 0, none⟩) 2 2) 2 [.int .u8 9, .int .u8 4] := by
    have h := World.ownsRow_lit (base := w.heap.size + 1) (e := 5) (size := 1) (w.alloc (.cells #[.int .u8 4, .int .u8 k0, .int .u8 k1, .int .u8 k2, .int .u8 k3, .int .u8 k4, .int .u8 k5, .int .u8 k6, .int .u8 k7, .int .u8 kd, .int .u64 x, .int .u64 y, .int .u64 n] 58)) #[.int .u8 9, .int .u8 4] 2 (by simp) (by unfold maxLen; omega) rfl
    simpa using h
  have hB1 : Below w.heap.size w ((w.alloc (.cells #[.int .u8 4, .int .u8 k0, .int .u8 k1, .int .u8 k2, .int .u8 k3, .int .u8 k4, .int .u8 k5, .int .u8 k6, .int .u8 k7, .int .u8 kd, .int .u64 x, .int .u64 y, .int .u64 n] 58)).alloc (.cells #[.int .u8 9, .int .u8 4] 5)) := ((Below.refl _ w).alloc (Nat.le_refl _) _).alloc (by simp) _
  have hs1 : w.heap.size + 1 < ((w.alloc (.cells #[.int .u8 4, .int .u8 k0, .int .u8 k1, .int .u8 k2, .int .u8 k3, .int .u8 k4, .int .u8 k5, .int .u8 k6, .int .u8 k7, .int .u8 kd, .int .u64 x, .int .u64 y, .int .u64 n] 58)).alloc (.cells #[.int .u8 9, .int .u8 4] 5)).heap.size := by simp
  have hl : reqLen 4 = 9 := rfl
  go_enter Tryz.func49, Tryz.ntmps49
  go_wp2_with (first | (go_at_call 78; refine (size_any _ _).mono ?_; rintro e w' ⟨rfl, rfl⟩) | (at_builtin; refine wpList_append_own _ rfl (.tmp 17) (.tmp 19) 69 rfl (w.heap.size + 1) 5 i0 (.int .u8 0) 1 1 Tryz.underlying69 hi hz0 hz1 hz2 rfl (by decide) (.slice (some ⟨w.heap.size + 1, 0, none⟩) 2 2) 2 _ rfl hown1 ⟨w.heap.size, 1, none⟩ 8 8 [.int .u8 k0, .int .u8 k1, .int .u8 k2, .int .u8 k3, .int .u8 k4, .int .u8 k5, .int .u8 k6, .int .u8 k7] rfl rfl (src_of hc1 _ (key_src _ _ _ _ _ _ _ _ _ _ _ _ _)) (by simp [Value.oneCell']) (by unfold maxLen; omega) (by omega) (by simp) ?_; intro v2 w2 hown2 hgrow2 _; have hs2 := Nat.lt_of_lt_of_le hs1 hgrow2.size; have hD2 := (Below.refl (w.heap.size + 1) _).grown hgrow2 (Nat.le_of_lt hs1) (fun kk hkk => (hown1.lt kk hkk).1); have hc2 := fun j => (hD2.cell (p := ⟨w.heap.size, j, none⟩) (Nat.lt_succ_self _)).trans (hc1 j)))
  go_ret
  exact ⟨_, rfl, own_down (b := w.heap.size + 1) (by omega) (by simpa using hown2), hB1.trans (hD2.mono (by omega))⟩

set_option maxRecDepth 100000 in
set_option maxHeartbeats 1000000 in
theorem refreq5 (k0 k1 k2 k3 k4 k5 k6 k7 kd x y n : Int) (w : World) :
    Calls Tryz.prog 49 #[.agg #[.int .u8 5, .int .u8 k0, .int .u8 k1, .int .u8 k2, .int .u8 k3, .int .u8 k4, .int .u8 k5, .int .u8 k6, .int .u8 k7, .int .u8 kd, .int .u64 x, .int .u64 y, .int .u64 n]] w
      fun e w' => ∃ v', e = .returned v' ∧ w'.ownsRow w.heap.size 5 1 v' 2 (([1, 5]).map (Value.int .u8)) ∧ Below w.heap.size w w' := by
  obtain ⟨i0, hi, hz0, hz1, hz2⟩ := info_parts Tryz.info5
  have hc1 : ∀ j, ((w.alloc (.cells #[.int .u8 5, .int .u8 k0, .int .u8 k1, .int .u8 k2, .int .u8 k3, .int .u8 k4, .int .u8 k5, .int .u8 k6, .int .u8 k7, .int .u8 kd, .int .u64 x, .int .u64 y, .int .u64 n] 58)).alloc (.cells #[.int .u8 1, .int .u8 5] 5)).cell? ⟨w.heap.size, j, none⟩ = (#[.int .u8 5, .int .u8 k0, .int .u8 k1, .int .u8 k2, .int .u8 k3, .int .u8 k4, .int .u8 k5, .int .u8 k6, .int .u8 k7, .int .u8 kd, .int .u64 x, .int .u64 y, .int .u64 n] : Array Value)[j]? := fun j => (World.cell?_alloc_past _ _ _ (by simp)).trans (cell_box w _ _ j)
  have hown1 : ((w.alloc (.cells #[.int .u8 5, .int .u8 k0, .int .u8 k1, .int .u8 k2, .int .u8 k3, .int .u8 k4, .int .u8 k5, .int .u8 k6, .int .u8 k7, .int .u8 kd, .int .u64 x, .int .u64 y, .int .u64 n] 58)).alloc (.cells #[.int .u8 1, .int .u8 5] 5)).ownsRow (w.heap.size + 1) 5 1 (.slice (some ⟨w.heap.size + 1, 0, none⟩) 2 2) 2 [.int .u8 1, .int .u8 5] := by
    have h := World.ownsRow_lit (base := w.heap.size + 1) (e := 5) (size := 1) (w.alloc (.cells #[.int .u8 5, .int .u8 k0, .int .u8 k1, .int .u8 k2, .int .u8 k3, .int .u8 k4, .int .u8 k5, .int .u8 k6, .int .u8 k7, .int .u8 kd, .int .u64 x, .int .u64 y, .int .u64 n] 58)) #[.int .u8 1, .int .u8 5] 2 (by simp) (by unfold maxLen; omega) rfl
    simpa using h
  have hB1 : Below w.heap.size w ((w.alloc (.cells #[.int .u8 5, .int .u8 k0, .int .u8 k1, .int .u8 k2, .int .u8 k3, .int .u8 k4, .int .u8 k5, .int .u8 k6, .int .u8 k7, .int .u8 kd, .int .u64 x, .int .u64 y, .int .u64 n] 58)).alloc (.cells #[.int .u8 1, .int .u8 5] 5)) := ((Below.refl _ w).alloc (Nat.le_refl _) _).alloc (by simp) _
  have hs1 : w.heap.size + 1 < ((w.alloc (.cells #[.int .u8 5, .int .u8 k0, .int .u8 k1, .int .u8 k2, .int .u8 k3, .int .u8 k4, .int .u8 k5, .int .u8 k6, .int .u8 k7, .int .u8 kd, .int .u64 x, .int .u64 y, .int .u64 n] 58)).alloc (.cells #[.int .u8 1, .int .u8 5] 5)).heap.size := by simp
  have hl : reqLen 5 = 1 := rfl
  go_enter Tryz.func49, Tryz.ntmps49
  go_wp2_with (go_at_call 78; refine (size_any _ _).mono ?_; rintro e w' ⟨rfl, rfl⟩)
  go_ret
  exact ⟨_, rfl, own_down (b := w.heap.size + 1) (by omega) (by simpa using hown1), hB1⟩

set_option maxRecDepth 100000 in
set_option maxHeartbeats 1000000 in
theorem refreq6 (k0 k1 k2 k3 k4 k5 k6 k7 kd x y n : Int) (w : World) :
    Calls Tryz.prog 49 #[.agg #[.int .u8 6, .int .u8 k0, .int .u8 k1, .int .u8 k2, .int .u8 k3, .int .u8 k4, .int .u8 k5, .int .u8 k6, .int .u8 k7, .int .u8 kd, .int .u64 x, .int .u64 y, .int .u64 n]] w
      fun e w' => ∃ v', e = .returned v' ∧ w'.ownsRow w.heap.size 5 1 v' 2 (([1, 6]).map (Value.int .u8)) ∧ Below w.heap.size w w' := by
  obtain ⟨i0, hi, hz0, hz1, hz2⟩ := info_parts Tryz.info5
  have hc1 : ∀ j, ((w.alloc (.cells #[.int .u8 6, .int .u8 k0, .int .u8 k1, .int .u8 k2, .int .u8 k3, .int .u8 k4, .int .u8 k5, .int .u8 k6, .int .u8 k7, .int .u8 kd, .int .u64 x, .int .u64 y, .int .u64 n] 58)).alloc (.cells #[.int .u8 1, .int .u8 6] 5)).cell? ⟨w.heap.size, j, none⟩ = (#[.int .u8 6, .int .u8 k0, .int .u8 k1, .int .u8 k2, .int .u8 k3, .int .u8 k4, .int .u8 k5, .int .u8 k6, .int .u8 k7, .int .u8 kd, .int .u64 x, .int .u64 y, .int .u64 n] : Array Value)[j]? := fun j => (World.cell?_alloc_past _ _ _ (by simp)).trans (cell_box w _ _ j)
  have hown1 : ((w.alloc (.cells #[.int .u8 6, .int .u8 k0, .int .u8 k1, .int .u8 k2, .int .u8 k3, .int .u8 k4, .int .u8 k5, .int .u8 k6, .int .u8 k7, .int .u8 kd, .int .u64 x, .int .u64 y, .int .u64 n] 58)).alloc (.cells #[.int .u8 1, .int .u8 6] 5)).ownsRow (w.heap.size + 1) 5 1 (.slice (some ⟨w.heap.size + 1, 0, none⟩) 2 2) 2 [.int .u8 1, .int .u8 6] := by
    have h := World.ownsRow_lit (base := w.heap.size + 1) (e := 5) (size := 1) (w.alloc (.cells #[.int .u8 6, .int .u8 k0, .int .u8 k1, .int .u8 k2, .int .u8 k3, .int .u8 k4, .int .u8 k5, .int .u8 k6, .int .u8 k7, .int .u8 kd, .int .u64 x, .int .u64 y, .int .u64 n] 58)) #[.int .u8 1, .int .u8 6] 2 (by simp) (by unfold maxLen; omega) rfl
    simpa using h
  have hB1 : Below w.heap.size w ((w.alloc (.cells #[.int .u8 6, .int .u8 k0, .int .u8 k1, .int .u8 k2, .int .u8 k3, .int .u8 k4, .int .u8 k5, .int .u8 k6, .int .u8 k7, .int .u8 kd, .int .u64 x, .int .u64 y, .int .u64 n] 58)).alloc (.cells #[.int .u8 1, .int .u8 6] 5)) := ((Below.refl _ w).alloc (Nat.le_refl _) _).alloc (by simp) _
  have hs1 : w.heap.size + 1 < ((w.alloc (.cells #[.int .u8 6, .int .u8 k0, .int .u8 k1, .int .u8 k2, .int .u8 k3, .int .u8 k4, .int .u8 k5, .int .u8 k6, .int .u8 k7, .int .u8 kd, .int .u64 x, .int .u64 y, .int .u64 n] 58)).alloc (.cells #[.int .u8 1, .int .u8 6] 5)).heap.size := by simp
  have hl : reqLen 6 = 1 := rfl
  go_enter Tryz.func49, Tryz.ntmps49
  go_wp2_with (go_at_call 78; refine (size_any _ _).mono ?_; rintro e w' ⟨rfl, rfl⟩)
  go_ret
  exact ⟨_, rfl, own_down (b := w.heap.size + 1) (by omega) (by simpa using hown1), hB1⟩

set_option maxRecDepth 100000 in
set_option maxHeartbeats 1000000 in
theorem refreq0 (op k0 k1 k2 k3 k4 k5 k6 k7 kd x y n : Int) (w : World) (h : reqLen op = 0) :
    Calls Tryz.prog 49 #[.agg #[.int .u8 op, .int .u8 k0, .int .u8 k1, .int .u8 k2, .int .u8 k3, .int .u8 k4, .int .u8 k5, .int .u8 k6, .int .u8 k7, .int .u8 kd, .int .u64 x, .int .u64 y, .int .u64 n]] w fun e w' => e = .returned (.slice none 0 0) ∧ Below w.heap.size w w' := by
  go_enter Tryz.func49, Tryz.ntmps49
  go_wp2_with (go_at_call 78; refine (size_any _ _).mono ?_; rintro e w' ⟨rfl, rfl⟩)
  go_ret
  exact ⟨rfl, (Below.refl _ w).alloc (Nat.le_refl _) _⟩

theorem refreq_any (op k0 k1 k2 k3 k4 k5 k6 k7 kd x y n : Int) (w : World) (hx0 : 0 ≤ x) (hx1 : x ≤ 18446744073709551615) (hy0 : 0 ≤ y) (hy1 : y ≤ 18446744073709551615) (hn0 : 0 ≤ n) (hn1 : n ≤ 18446744073709551615) :
    Calls Tryz.prog 49 #[.agg #[.int .u8 op, .int .u8 k0, .int .u8 k1, .int .u8 k2, .int .u8 k3, .int .u8 k4, .int .u8 k5, .int .u8 k6, .int .u8 k7, .int .u8 kd, .int .u64 x, .int .u64 y, .int .u64 n]] w
      fun e w' => ∃ v', e = .returned v' ∧ w'.ownsRow w.heap.size 5 1 v' (encReq op k0 k1 k2 k3 k4 k5 k6 k7 kd x y n).length ((encReq op k0 k1 k2 k3 k4 k5 k6 k7 kd x y n).map (Value.int .u8)) ∧ Below w.heap.size w w' := by
  by_cases h1 : op = 1
  · subst h1; exact refreq1 k0 k1 k2 k3 k4 k5 k6 k7 kd x y n w hx0 hx1 hy0 hy1
  by_cases h2 : op = 2
  · subst h2; exact refreq2 k0 k1 k2 k3 k4 k5 k6 k7 kd x y n w hn0 hn1
  by_cases h3 : op = 3
  · subst h3; exact refreq3 k0 k1 k2 k3 k4 k5 k6 k7 kd x y n w
  by_cases h4 : op = 4
  · subst h4; exact refreq4 k0 k1 k2 k3 k4 k5 k6 k7 kd x y n w
  by_cases h5 : op = 5
  · subst h5; exact refreq5 k0 k1 k2 k3 k4 k5 k6 k7 kd x y n w
  by_cases h6 : op = 6
  · subst h6; exact refreq6 k0 k1 k2 k3 k4 k5 k6 k7 kd x y n w
  have h0 : reqLen op = 0 := by simp [reqLen, h1, h2, h3, h4, h5, h6]
  have e0 : encReq op k0 k1 k2 k3 k4 k5 k6 k7 kd x y n = [] := by simp [encReq, h1, h2, h3, h4, h5, h6]
  rw [e0]
  refine (refreq0 op k0 k1 k2 k3 k4 k5 k6 k7 kd x y n w h0).mono ?_
  rintro e w' ⟨rfl, hb⟩
  exact ⟨_, rfl, World.ownsRow_nil _ _ _ _, hb⟩
end Go.Proofs.YtlamgpeiolfffaaGreatDoor
