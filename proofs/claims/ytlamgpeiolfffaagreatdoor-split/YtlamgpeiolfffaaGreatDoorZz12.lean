import Derived.Test.YtlamgpeiolfffaaGreatDoorZz10
import Derived.Test.YtlamgpeiolfffaaGreatDoorZz11
import Derived.Deep.RegionWith
import Derived.Test.YtlamgpeiolfffaaGreatDoorZz00
set_option linter.unusedSectionVars false
namespace Go.Proofs.YtlamgpeiolfffaaGreatDoor
open Go.RowKit
variable [dK] [iK]

set_option maxRecDepth 100000 in
set_option maxHeartbeats 1000000 in
theorem read25 (v ev : Value) (q : Rp) (m : Int) (w : World)
    (h26 : Hid (∀ w1, Below w.heap.size w w1 → Calls Tryz.prog 88 #[v] w1 fun e w' => e = .returned (.tuple #[.agg #[.int .u8 q.c, .int .u64 q.a, .int .u64 q.b], .int .i64 m, ev]) ∧ Below w1.heap.size w1 w')) :
    Calls Tryz.prog 61 #[v] w fun e w' => e = .returned (.tuple #[.agg #[.int .u8 q.c, .int .u64 q.a, .int .u64 q.b], .int .i64 m, ev]) ∧ Below w.heap.size w w' := by
  go_enter Tryz.func61, Tryz.ntmps61
  go_wp2_with fail
  refine (h26.out _ ((Below.refl _ w).alloc (Nat.le_refl _) _)).mono ?_
  rintro e w1 ⟨rfl, hb1⟩
  have hB1 : Below w.heap.size w w1 := ((Below.refl _ w).alloc (Nat.le_refl _) _).trans (hb1.mono (by simp))
  have hR : ∀ j, w1.cell? ⟨w.heap.size, j, none⟩ = (#[.int .u8 0, .int .u64 0, .int .u64 0] : Array Value)[j]? := fun j => (hb1.cell (p := ⟨w.heap.size, j, none⟩) (by simp)).trans (cell_box w _ _ j)
  have hRf : ∀ j, w1.frozen? ⟨w.heap.size, j, none⟩ = false := fun j => (hb1.frozen (p := ⟨w.heap.size, j, none⟩) (by simp)).trans (by simp)
  clear hb1
  go_wp2
  refine bodyPost_ret (v := .tuple #[.agg #[.int .u8 q.c, .int .u64 q.a, .int .u64 q.b], .int .i64 m, ev]) (by simp [results, Tryz.results61, go_sem, hR]) rfl ⟨rfl, ?_⟩
  repeat (refine Below.setCell ?_ (by first | exact Nat.le_refl _ | (show _ ≤ w1.heap.size; omega)) _)
  exact hB1

set_option maxRecDepth 100000 in
set_option maxHeartbeats 1000000 in
theorem read17_cons (sg so : Nat) (cap : Nat) (w : World) (bs : List Int) (n : Nat) (hn : bs.length = n) (hnp : 0 < n) (hlen : n ≤ 1048576) (q : Rp) (hq : q = rpQ bs) (m er : Int) (hm : m = rpN bs) (her : er = rpErr bs)
    (hc : ∀ j u, (bs.map (Value.int .u8))[j]? = some u → w.cell? ⟨sg, so + j, none⟩ = some u) (hadl : sg < w.heap.size) (hr : ∀ j, 0 ≤ bs.getD j 0 ∧ bs.getD j 0 ≤ 255)
    (hgl : w.cell? ⟨0, 0, none⟩ = some (.iface 201 (.agg #[.pointer (some ⟨1, 88, none⟩)]))) :
    Calls Tryz.prog 39 #[.slice (some ⟨sg, so, none⟩) n cap] w fun e w' => e = .returned (.tuple #[.agg #[.int .u8 q.c, .int .u64 q.a, .int .u64 q.b], .int .i64 m, .int .i64 er]) ∧ Below w.heap.size w w' := by
  obtain ⟨i0, hi, hz0, hz1, hz2⟩ := info_parts Tryz.info5
  have HQ := hide hq
  have HM := hide hm
  have HE := hide her
  have HN := hide hn
  have HR := hide hr
  have HC := hide hc
  clear hq hm her hr hn hc
  go_enter Tryz.func39, Tryz.ntmps39
  go_wp2_with (at_builtin; (refine wpList_append_own _ rfl _ _ 69 rfl (w.heap.size + 1) 5 i0 (.int .u8 0) 1 1 Tryz.underlying69 hi hz0 hz1 hz2 rfl (by decide) (.slice none 0 0) 0 [] rfl (World.ownsRow_nil _ _ _ _) ⟨sg, so, none⟩ n cap (bs.map (Value.int .u8)) rfl (by simpa using HN.out) (fun j u hj => by rw [Addr.add_lit, World.cell?_alloc_lt _ _ ⟨sg, so + j, none⟩ hadl]; exact HC.out j u hj) (ints_oneCell _ _) (by unfold maxLen; omega) (by omega) (by simp) ?_); intro own w1 hown1 hgrow1 hnil1)
  simp only [Nat.zero_add, List.nil_append] at hown1
  obtain ⟨g, c, hv, hgb, hgl1, hnc, hcells⟩ := own_shape hown1 hnp HN.out
  have HO := hide hown1
  have HCL := hide hcells
  clear hown1 hcells hnil1
  replace hgrow1 : (w.alloc (.cells #[.int .u8 0, .int .u64 0, .int .u64 0] 40)).grownBy w1 none := hgrow1
  subst hv
  have hs1 : w.heap.size + 1 ≤ w1.heap.size := by have := hgrow1.size; simp at this; omega
  have hB1 : Below w.heap.size w w1 := ((Below.refl _ w).alloc (Nat.le_refl _) _).grown hgrow1 (by simp) (by simp)
  have hR1 : ∀ j, w1.cell? ⟨w.heap.size, j, none⟩ = (#[.int .u8 0, .int .u64 0, .int .u64 0] : Array Value)[j]? := fun j => (World.cell?_of_block (w := w.alloc _) (hgrow1.block w.heap.size (by simp) (by simp))).trans (cell_box w _ _ j)
  have hRf1 : ∀ j, w1.frozen? ⟨w.heap.size, j, none⟩ = false := fun j => (World.frozen?_of_block (w := w.alloc _) (hgrow1.block w.heap.size (by simp) (by simp))).trans (by simp)
  clear hgrow1
  refine (read25 _ (errV er) q m w1 (fun w2 hB => read29_bs g c n bs w2 HN.out hnp hnc hlen (Nat.lt_of_lt_of_le hgl1 hB.size) (fun j hj => (hB.cell (p := ⟨g, j, none⟩) hgl1).trans (HCL.out j hj)) HR.out q HQ.out m er HM.out HE.out)).mono ?_
  rintro e w2 ⟨rfl, hb2⟩
  go_wp2
  have LS := Lp.start (qc := #[.int .u8 q.c, .int .u64 q.a, .int .u64 q.b]) 40 HO.out hb2 hgb hgl1 hR1 hRf1 hB1 hs1
  have hlt0 : 0 < w.heap.size := by
    rcases Nat.eq_zero_or_pos w.heap.size with h0 | h
    · simp [World.cell?, h0] at hgl
    · exact h
  have HG := hide hgl
  clear hgl HO HCL hR1 hRf1 hb2 hB1 HQ HM HE HN HR HC hgb hnc
  go_loopw [20] (fun i wr => ∃ j : Nat, j ≤ n ∧ i = .int .i64 j ∧ Lp w w2 wr g n c #[.int .u8 q.c, .int .u64 q.a, .int .u64 q.b] #[.int .u8 0, .int .u64 0, .int .u64 0]) (fun i _ => n - (intOf i).toNat)
  case atStart => exact ⟨0, Nat.zero_le _, rfl, LS⟩
  case round =>
    obtain ⟨j, hj, rfl, L⟩ := hrel
    clear LS
    by_cases hlt : j < n
    · obtain ⟨⟨u, hu⟩, hfz⟩ := L.cell j hlt
      go_wp2
      go_roundw
      case rel => exact ⟨j + 1, by omega, by go_num, L.step j _⟩
      case measure => simp [intOf]; omega
    · obtain rfl : j = n := by omega
      have hr4 := L.r
      have hR4 := L.R
      have hRf4 := L.Rf
      have hB4 := L.B
      have hz4 := L.sz
      have hg12 := L.g1
      have hg22 := L.g2
      have hgl4 : wr.cell? ⟨0, 0, none⟩ = some (.iface 201 (.agg #[.pointer (some ⟨1, 88, none⟩)])) := (hB4.cell (p := ⟨0, 0, none⟩) hlt0).trans HG.out
      clear L
      go_wp2_with fail
      go_region_with (go_at_call 31; refine (told_any er _ (by exact hgl4)).mono ?_; rintro e w3 ⟨rfl, hb3⟩; have hr5 := fun jj => (hb3.cell (p := ⟨w2.heap.size, jj, none⟩) (by exact hz4)).trans (hr4 jj); have hR5 := fun jj => (hb3.cell (p := ⟨w.heap.size, jj, none⟩) (show w.heap.size < _ from Nat.lt_trans (Nat.lt_trans hg12 hg22) hz4)).trans (hR4 jj); have hRf5 := fun jj => (hb3.frozen (p := ⟨w.heap.size, jj, none⟩) (show w.heap.size < _ from Nat.lt_trans (Nat.lt_trans hg12 hg22) hz4)).trans (hRf4 jj))
      all_goals
        go_wp2
        refine bodyPost_ret (v := .tuple #[.agg #[.int .u8 q.c, .int .u64 q.a, .int .u64 q.b], .int .i64 m, .int .i64 er]) (by simp [results, Tryz.results39, go_sem, hR5]) rfl ⟨rfl, ?_⟩
        repeat (refine Below.setCell ?_ (by first | exact Nat.le_refl _ | (show _ ≤ w2.heap.size; omega)) _)
        exact hB4.drew.trans (hb3.mono (show w.heap.size ≤ wr.heap.size by omega))

set_option maxRecDepth 100000 in
set_option maxHeartbeats 1000000 in
theorem read17_nil (vb : Value) (w : World) (hvb : vb = .slice none 0 0 ∨ ∃ sg so cap, vb = .slice (some ⟨sg, so, none⟩) 0 cap)
    (hgl : w.cell? ⟨0, 0, none⟩ = some (.iface 201 (.agg #[.pointer (some ⟨1, 88, none⟩)]))) :
    Calls Tryz.prog 39 #[vb] w fun e w' => e = .returned (.tuple #[.agg #[.int .u8 0, .int .u64 0, .int .u64 0], .int .i64 0, .int .i64 1]) ∧ Below w.heap.size w w' := by
  obtain ⟨i0, hi, hz0, hz1, hz2⟩ := info_parts Tryz.info5
  have hlt0 : 0 < w.heap.size := by
    rcases Nat.eq_zero_or_pos w.heap.size with h0 | h
    · simp [World.cell?, h0] at hgl
    · exact h
  rcases hvb with rfl | ⟨sg, so, cap, rfl⟩
  all_goals
    go_enter Tryz.func39, Tryz.ntmps39
    go_wp2_with fail
    have h19 : Calls Tryz.prog 61 #[.slice none 0 0] (w.alloc (.cells #[.int .u8 0, .int .u64 0, .int .u64 0] 40)) fun e w' => e = .returned (.tuple #[.agg #[.int .u8 0, .int .u64 0, .int .u64 0], .int .i64 0, .iface 46 (.int .i64 1)]) ∧ Below (w.alloc (.cells #[.int .u8 0, .int .u64 0, .int .u64 0] 40)).heap.size (w.alloc (.cells #[.int .u8 0, .int .u64 0, .int .u64 0] 40)) w' :=
      read25 (.slice none 0 0) (.iface 46 (.int .i64 1)) (⟨0, 0, 0⟩ : Rp) 0 _ (fun w2 _ => read29_nil none 0 w2)
    refine h19.mono ?_
    clear h19
    rintro e w2 ⟨rfl, hb2⟩
    have hs2 : w.heap.size < w2.heap.size := by have := hb2.size; simp at this; omega
    have hB2 : Below w.heap.size w w2 := ((Below.refl _ w).alloc (Nat.le_refl _) _).trans (hb2.mono (by simp))
    have hR2 : ∀ j, (w2.alloc (.cells #[.int .u8 0, .int .u64 0, .int .u64 0] 40)).cell? ⟨w.heap.size, j, none⟩ = (#[.int .u8 0, .int .u64 0, .int .u64 0] : Array Value)[j]? := fun j => (World.cell?_alloc_past _ _ _ hs2).trans ((hb2.cell (p := ⟨w.heap.size, j, none⟩) (by simp)).trans (cell_box w _ _ j))
    have hRf2 : ∀ j, (w2.alloc (.cells #[.int .u8 0, .int .u64 0, .int .u64 0] 40)).frozen? ⟨w.heap.size, j, none⟩ = false := fun j => (World.frozen?_alloc_past _ _ _ hs2).trans ((hb2.frozen (p := ⟨w.heap.size, j, none⟩) (by simp)).trans (by simp))
    have hgl2 : (w2.alloc (.cells #[.int .u8 0, .int .u64 0, .int .u64 0] 40)).cell? ⟨0, 0, none⟩ = some (.iface 201 (.agg #[.pointer (some ⟨1, 88, none⟩)])) := (World.cell?_alloc_past _ _ _ (by omega)).trans ((hB2.cell (p := ⟨0, 0, none⟩) hlt0).trans hgl)
    have hr2 : ∀ j, (w2.alloc (.cells #[.int .u8 0, .int .u64 0, .int .u64 0] 40)).cell? ⟨w2.heap.size, j, none⟩ = (#[.int .u8 0, .int .u64 0, .int .u64 0] : Array Value)[j]? := fun j => cell_box w2 _ _ j
    have hB3 := hB2.alloc (Nat.le_of_lt hs2) (.cells #[.int .u8 0, .int .u64 0, .int .u64 0] 40)
    clear hb2 hB2 hgl
    go_wp2
    refine wp_loop_rounds 1 ?_
    rw [rounds_succ]
    go_wp2
    go_region_with (go_at_call 31; refine (told_err 1 _ (by exact hgl2)).mono ?_; rintro e w3 ⟨rfl, hb3⟩; have hr5 := fun jj => (hb3.cell (p := ⟨w2.heap.size, jj, none⟩) (by simp)).trans (hr2 jj); have hR5 := fun jj => (hb3.cell (p := ⟨w.heap.size, jj, none⟩) (by simp; omega)).trans (hR2 jj); have hRf5 := fun jj => (hb3.frozen (p := ⟨w.heap.size, jj, none⟩) (by simp; omega)).trans (hRf2 jj))
    all_goals
      go_wp2
      refine bodyPost_ret (v := .tuple #[.agg #[.int .u8 0, .int .u64 0, .int .u64 0], .int .i64 0, .int .i64 1]) (by simp [results, Tryz.results39, go_sem, hR5]) rfl ⟨rfl, ?_⟩
      repeat (refine Below.setCell ?_ (by first | exact Nat.le_refl _ | (show _ ≤ w2.heap.size; omega)) _)
      exact hB3.drew.trans (hb3.mono (by simp; omega))

/-- plain.ReadReply, over whatever bytes. -/
theorem read17 (vb : Value) (bs : List Int) (w : World) (hs : Src w vb bs) (hlen : bs.length ≤ 1048576) (hr : ∀ j, 0 ≤ bs.getD j 0 ∧ bs.getD j 0 ≤ 255) (q : Rp) (hq : q = rpQ bs) (m er : Int) (hm : m = rpN bs) (her : er = rpErr bs)
    (hgl : w.cell? ⟨0, 0, none⟩ = some (.iface 201 (.agg #[.pointer (some ⟨1, 88, none⟩)]))) :
    Calls Tryz.prog 39 #[vb] w fun e w' => e = .returned (.tuple #[.agg #[.int .u8 q.c, .int .u64 q.a, .int .u64 q.b], .int .i64 m, .int .i64 er]) ∧ Below w.heap.size w w' := by
  rcases hs with ⟨rfl, hv⟩ | ⟨hp, sg, so, cap, rfl, hsg, hc⟩
  · subst hq hm her
    exact read17_nil vb w hv hgl
  · exact read17_cons sg so cap w bs bs.length rfl hp hlen q hq m er hm her hc hsg hr hgl
end Go.Proofs.YtlamgpeiolfffaaGreatDoor

namespace Go.Proofs.YtlamgpeiolfffaaGreatDoor
open Go.RowKit
variable [dK] [iK]

theorem cellB {w : World} {b : Nat} {c : Array Value} {t : TypeId} {fr : Nat × Nat} (h : w.heap[b]? = some (.cells c t fr)) (j : Nat) : w.cell? ⟨b, j, none⟩ = c[j]? := by
  simp [World.cell?, h]
theorem frozenB {w : World} {b : Nat} {c : Array Value} {t : TypeId} (h : w.heap[b]? = some (.cells c t)) (j : Nat) : w.frozen? ⟨b, j, none⟩ = false := by
  simp [World.frozen?, h]
theorem ltB {w : World} {b : Nat} {o : Obj} (h : w.heap[b]? = some o) : b < w.heap.size := (Array.getElem?_eq_some_iff.1 h).1
theorem heapNew (w : World) (o : Obj) : (w.alloc o).heap[w.heap.size]? = some o := (MapKept.heap_alloc w o).1
theorem heapN {w : World} {o : Obj} {k : Nat} (h : k = w.heap.size) : (w.alloc o).heap[k]? = some o := h ▸ heapNew w o
theorem heapDrew (w : World) (k : Nat) : w.drew.heap[k]? = w.heap[k]? := rfl
theorem heapOld (w : World) (o : Obj) {k : Nat} (h : k < w.heap.size) : (w.alloc o).heap[k]? = w.heap[k]? := Below.heap_alloc w o k h
theorem heapSet {w : World} {b : Nat} {c : Array Value} {t : TypeId} {fr : Nat × Nat} (h : w.heap[b]? = some (.cells c t fr)) (j : Nat) (v : Value) : (w.setCell ⟨b, j, none⟩ v).heap[b]? = some (.cells (c.setIfInBounds j v) t fr) := by
  simp [World.setCell, Array.getElem?_modify, h]
theorem heapSetO {w : World} {b k : Nat} (hne : k ≠ b) (j : Nat) (v : Value) : (w.setCell ⟨b, j, none⟩ v).heap[k]? = w.heap[k]? := Below.heap_setCell w ⟨b, j, none⟩ v k hne

theorem heapSet3 {w : World} {b : Nat} {c0 c1 c2 : Value} {t : TypeId} {fr : Nat × Nat} (h : w.heap[b]? = some (.cells #[c0, c1, c2] t fr)) (v0 v1 v2 : Value) :
    (((w.setCell ⟨b, 0, none⟩ v0).setCell ⟨b, 1, none⟩ v1).setCell ⟨b, 2, none⟩ v2).heap[b]? = some (.cells #[v0, v1, v2] t fr) := by
  simpa using heapSet (heapSet (heapSet h 0 v0) 1 v1) 2 v2
theorem heapSet5 {w : World} {b : Nat} {c0 c1 c2 c3 c4 : Value} {t : TypeId} {fr : Nat × Nat} (h : w.heap[b]? = some (.cells #[c0, c1, c2, c3, c4] t fr)) (v0 v1 v2 v3 v4 : Value) :
    (((((w.setCell ⟨b, 0, none⟩ v0).setCell ⟨b, 1, none⟩ v1).setCell ⟨b, 2, none⟩ v2).setCell ⟨b, 3, none⟩ v3).setCell ⟨b, 4, none⟩ v4).heap[b]? = some (.cells #[v0, v1, v2, v3, v4] t fr) := by
  simpa using heapSet (heapSet (heapSet (heapSet (heapSet h 0 v0) 1 v1) 2 v2) 3 v3) 4 v4
theorem upB {w : World} {b : Nat} {x : Obj} (h : w.heap[b]? = some x) (o : Obj) : (w.alloc o).heap[b]? = some x := (heapOld w o (ltB h)).trans h
theorem upC {w : World} {b : Nat} {c : Array Value} {t : TypeId} {fr : Nat × Nat} (h : w.heap[b]? = some (.cells c t fr)) (o : Obj) (j : Nat) : (w.alloc o).cell? ⟨b, j, none⟩ = c[j]? := cellB (upB h o) j
theorem upF {w : World} {b : Nat} {c : Array Value} {t : TypeId} (h : w.heap[b]? = some (.cells c t)) (o : Obj) (j : Nat) : (w.alloc o).frozen? ⟨b, j, none⟩ = false := frozenB (upB h o) j
theorem Below.toB {B : Nat} {w w' : World} (h : Below B w w') {b : Nat} {x : Obj} (hb : w.heap[b]? = some x) (hB : b < B) : w'.heap[b]? = some x := (h.block b hB).trans hb

/-- All blocks but those of S are as they were. -/
structure Keep (S : Nat → Prop) (w w' : World) : Prop where
  os : w'.os = w.os
  tape : w'.tape = w.tape
  output : w'.output = w.output
  size : w.heap.size ≤ w'.heap.size
  block : ∀ k, k < w.heap.size → ¬ S k → w'.heap[k]? = w.heap[k]?

theorem Keep.refl (S : Nat → Prop) (w : World) : Keep S w w := ⟨rfl, rfl, rfl, Nat.le_refl _, fun _ _ _ => rfl⟩
theorem Keep.of_below {S : Nat → Prop} {w w' : World} (h : Below w.heap.size w w') : Keep S w w' := ⟨h.os, h.tape, h.output, h.size, fun k hk _ => h.block k hk⟩
theorem Keep.mono {S T : Nat → Prop} {w w' : World} (h : Keep S w w') (hs : ∀ k, S k → k < w.heap.size → T k) : Keep T w w' := ⟨h.os, h.tape, h.output, h.size, fun k hk hT => h.block k hk (fun hS => hT (hs k hS hk))⟩
theorem Keep.trans {S : Nat → Prop} {a b c : World} (h : Keep S a b) (k : Keep S b c) : Keep S a c :=
  ⟨k.os.trans h.os, k.tape.trans h.tape, k.output.trans h.output, Nat.le_trans h.size k.size, fun i hi hS => (k.block i (Nat.lt_of_lt_of_le hi h.size) hS).trans (h.block i hi hS)⟩
theorem Keep.then {S T : Nat → Prop} {a b c : World} (h : Keep S a b) (k : Keep T b c) (hst : ∀ i, i < a.heap.size → T i → S i) : Keep S a c :=
  ⟨k.os.trans h.os, k.tape.trans h.tape, k.output.trans h.output, Nat.le_trans h.size k.size, fun i hi hS => (k.block i (Nat.lt_of_lt_of_le hi h.size) (fun hT => hS (hst i hi hT))).trans (h.block i hi hS)⟩
theorem Keep.alloc {S : Nat → Prop} {a w : World} (h : Keep S a w) (o : Obj) : Keep S a (w.alloc o) :=
  ⟨h.os, h.tape, h.output, by rw [World.size_alloc]; exact Nat.le_succ_of_le h.size, fun k hk hS => (heapOld w o (Nat.lt_of_lt_of_le hk h.size)).trans (h.block k hk hS)⟩
theorem Keep.drew {S : Nat → Prop} {a w : World} (h : Keep S a w) : Keep S a w.drew := ⟨h.os, h.tape, h.output, h.size, h.block⟩
theorem Keep.set {S : Nat → Prop} {a w : World} (h : Keep S a w) {b : Nat} (hb : S b ∨ a.heap.size ≤ b) (j : Nat) (v : Value) : Keep S a (w.setCell ⟨b, j, none⟩ v) :=
  ⟨h.os, h.tape, h.output, by rw [World.size_setCell]; exact h.size, fun k hk hS => (heapSetO (fun e => by subst e; rcases hb with hb | hb; exact hS hb; omega) j v).trans (h.block k hk hS)⟩
/-- Where all that may turn is new, nothing old turns. -/
theorem Keep.below {S : Nat → Prop} {w w' : World} (h : Keep S w w') {B : Nat} (hB : B ≤ w.heap.size) (hS : ∀ k, S k → B ≤ k) : Below B w w' :=
  ⟨h.os, h.tape, h.output, h.size, fun k hk => h.block k (Nat.lt_of_lt_of_le hk hB) (fun hs => by have := hS k hs; omega)⟩
end Go.Proofs.YtlamgpeiolfffaaGreatDoor
