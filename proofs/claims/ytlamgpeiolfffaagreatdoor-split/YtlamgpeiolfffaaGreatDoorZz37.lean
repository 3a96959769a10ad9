import Derived.Test.YtlamgpeiolfffaaGreatDoorZz35
import Derived.Test.YtlamgpeiolfffaaGreatDoorZz36
import Derived.Test.YtlamgpeiolfffaaGreatDoorProg
import Derived.Test.YtlamgpeiolfffaaGreatDoorRows
import Derived.Test.YtlamgpeiolfffaaGreatDoorCards
import Derived.Test.YtlamgpeiolfffaaGreatDoorTie
import Derived.LaidHandle
import Derived.LaidLaws
import Derived.ProofKit
import Derived.OpenShut
import Derived.Carry
import Derived.Deep.DeepHandedRow
set_option linter.unusedSectionVars false
namespace Go.Proofs.YtlamgpeiolfffaaGreatDoor
open Go.RowKit
variable [dK] [iK]

theorem be8_bytes (v : Int) : Bytes (be8 v) := by
  intro x hx
  simp only [be8, List.mem_cons, List.not_mem_nil, or_false] at hx
  rcases hx with rfl | rfl | rfl | rfl | rfl | rfl | rfl | rfl <;> exact nb_range v _
structure Rq.byt (q : Rq) : Prop where
  op : 0 ≤ q.op ∧ q.op ≤ 255
  kd : 0 ≤ q.kd ∧ q.kd ≤ 255
theorem enc_bytes (q : Rq) (h : q.ok) (hb : q.byt) : Bytes q.enc := by
  have hk := h.key
  have h0 := hk.h0; have h1 := hk.h1; have h2 := hk.h2; have h3 := hk.h3; have h4 := hk.h4; have h5 := hk.h5; have h6 := hk.h6; have h7 := hk.h7
  have hkd := hb.kd
  have hop := hb.op
  simp only [Rq.key] at h0 h1 h2 h3 h4 h5 h6 h7
  unfold Rq.enc encReq
  split
  · refine (Bytes.app ?_ (be8_bytes _)).app (be8_bytes _)
    intro x hx
    simp only [List.mem_cons, List.not_mem_nil, or_false] at hx
    omega
  · split
    · refine Bytes.app ?_ (be8_bytes _)
      intro x hx
      simp only [List.mem_cons, List.not_mem_nil, or_false] at hx
      omega
    · split
      · intro x hx
        simp only [List.mem_cons, List.not_mem_nil, or_false] at hx
        omega
      · split
        · intro x hx
          simp only [List.mem_cons, List.not_mem_nil, or_false] at hx
          omega
        · intro x hx
          simp at hx
theorem encQs_bytes (qs : List Rq) (h : ∀ q ∈ qs, q.ok ∧ q.byt) : Bytes (encQs qs) := by
  intro x hx
  obtain ⟨q, hq, hx⟩ := List.mem_flatMap.1 hx
  exact enc_bytes q (h q hq).1 (h q hq).2 x hx
abbrev rqcl (q : Rq) : List Value := [.int .u8 q.op, .int .u8 q.k0, .int .u8 q.k1, .int .u8 q.k2, .int .u8 q.k3, .int .u8 q.k4, .int .u8 q.k5, .int .u8 q.k6, .int .u8 q.k7, .int .u8 q.kd, .int .u64 q.x, .int .u64 q.y, .int .u64 q.n]
/-- keep's bytes over requests that lie one behind the other in a block. -/
theorem bytes9' (A cap : Nat) (qs : List Rq) (w : World) (t : TypeId) (fr : Nat × Nat) (hnc : qs.length ≤ cap) (hn1 : qs.length ≤ 1000) (hok : ∀ q ∈ qs, q.ok) (hA : w.heap[A]? = some (.cells (qs.flatMap rqcl).toArray t fr)) :
    Calls Tryz.prog 9 #[.slice (some ⟨A, 0, none⟩) qs.length cap] w fun e w' => e = .returned (.string (strOfNums (encQs qs))) ∧ Below w.heap.size w w' := by
  refine bytes9 A 0 qs.length cap qs w rfl hnc hn1 hok (ltB hA) (fun i h j => ?_)
  rcases Nat.lt_or_ge j 13 with hj | hj
  · left
    rw [cellB hA, Nat.zero_add]
    have hfl : ∀ (l : List Rq) (i : Nat) (h : i < l.length), (l.flatMap rqcl)[i * 13 + j]? = (rqcl l[i])[j]? := by
      intro l
      induction l with
      | nil => intro i h; simp at h
      | cons q r ih =>
        intro i h
        rw [List.flatMap_cons]
        cases i with
        | zero =>
          rw [Nat.zero_mul, Nat.zero_add, List.getElem?_append_left (by simpa using hj)]
          rfl
        | succ i =>
          rw [List.getElem?_append_right (by simp; omega)]
          have e : (i + 1) * 13 + j - (rqcl q).length = i * 13 + j := by simp; omega
          rw [e, ih i (by simpa using h)]
          rfl
    have := hfl qs i h
    simpa using this
  · right; exact hj

set_option maxRecDepth 100000 in
set_option maxHeartbeats 4000000 in
theorem opened8 (kd x y blk : Int) (w : World) (hso : soundM kd x y) (hx : 0 ≤ x ∧ x ≤ 18446744073709551615) (hy : 0 ≤ y ∧ y ≤ 18446744073709551615) (hgl : w.cell? ⟨0, 0, none⟩ = some (.iface 201 (.agg #[.pointer (some ⟨1, 88, none⟩)]))) :
    Calls Tryz.prog 8 #[.agg #[.int .u8 kd, .int .u64 x, .int .u64 y], .int .u64 blk] w fun e w' => ∃ hb db nb sb mb F cv cb, e = .returned (.pointer (some ⟨hb, 0, none⟩)) ∧ HostAt w' hb db nb sb mb blk ⟨0, 0, [(kK, ⟨kd, x, y, 0, 0⟩)]⟩ F w.heap.size cv 3 cb (fun _ => ⟨[], false⟩) ∧ Below w.heap.size w w' := by
  obtain ⟨W0, hW0⟩ : ∃ W0, W0 = w.alloc (.cells #[.int .u8 kd, .int .u64 x, .int .u64 y] 30) := ⟨_, rfl⟩
  have hbx : W0.heap[w.heap.size]? = some (.cells #[.int .u8 kd, .int .u64 x, .int .u64 y] 30) := hW0 ▸ heapNew _ _
  have hB0 : Below w.heap.size w W0 := hW0 ▸ (Below.refl _ w).alloc (Nat.le_refl _) _
  have hs0 : W0.heap.size = w.heap.size + 1 := by rw [hW0]; simp
  have HOKS : Hid (∀ q ∈ [qDef kd x y, qQk, qQj], q.ok) := hide (fun q hq => by
    have z : (0 : Int) ≤ 0 ∧ (0 : Int) ≤ 18446744073709551615 := by omega
    simp only [List.mem_cons, List.not_mem_nil, or_false] at hq
    rcases hq with rfl | rfl | rfl
    · exact ⟨⟨by simp [qDef, Rq.key], by simp [qDef, Rq.key], by simp [qDef, Rq.key], by simp [qDef, Rq.key], by simp [qDef, Rq.key], by simp [qDef, Rq.key], by simp [qDef, Rq.key], by simp [qDef, Rq.key]⟩, hx, hy, z⟩
    · exact ⟨⟨by simp [qQk, Rq.key], by simp [qQk, Rq.key], by simp [qQk, Rq.key], by simp [qQk, Rq.key], by simp [qQk, Rq.key], by simp [qQk, Rq.key], by simp [qQk, Rq.key], by simp [qQk, Rq.key]⟩, z, z, z⟩
    · exact ⟨⟨by simp [qQj, Rq.key], by simp [qQj, Rq.key], by simp [qQj, Rq.key], by simp [qQj, Rq.key], by simp [qQj, Rq.key], by simp [qQj, Rq.key], by simp [qQj, Rq.key], by simp [qQj, Rq.key]⟩, z, z, z⟩)
  have HBYS : Hid (∀ q ∈ [qDef kd x y, qQk, qQj], q.byt) := hide (fun q hq => by
    simp only [List.mem_cons, List.not_mem_nil, or_false] at hq
    rcases hq with rfl | rfl | rfl
    · exact ⟨by simp [qDef], by rcases hso with h | h <;> simp [qDef, h.1]⟩
    · exact ⟨by simp [qQk], by simp [qQk]⟩
    · exact ⟨by simp [qQj], by simp [qQj]⟩)
  have hlt0 : 0 < w.heap.size := by
    rcases Nat.eq_zero_or_pos w.heap.size with h0 | h
    · simp [World.cell?, h0] at hgl
    · exact h
  have HGL := hide hgl
  have HS0 := hide hs0
  clear hgl hs0
  go_enter Tryz.func8, Tryz.ntmps8
  go_wp2_with fail
  rw [← hW0]
  clear hW0
  refine (newhost15 blk _).mono ?_
  rintro e w1 ⟨nb, rfl, h1, h2, h3, h4, h5, h6⟩
  obtain ⟨hb, ehb⟩ : ∃ hb, hb = W0.heap.size + 2 := ⟨_, rfl⟩
  obtain ⟨db, edb⟩ : ∃ db, db = W0.heap.size + 1 := ⟨_, rfl⟩
  obtain ⟨mb, emb⟩ : ∃ mb, mb = W0.heap.size := ⟨_, rfl⟩
  have hbx1 := (h6.block _ (ltB hbx)).trans hbx
  rw [← edb, ← emb] at h2
  rw [← ehb, ← edb] at h1
  rw [← emb] at h3
  have HB1 := hide (hB0.trans (h6.mono (Nat.le_of_lt (ltB hbx))))
  have HSZ : Hid (w.heap.size < mb ∧ mb < db ∧ db < hb ∧ hb < nb ∧ nb < w1.heap.size) := hide ⟨by have := HS0.out; omega, by omega, by omega, by omega, ltB h4⟩
  rw [← ehb]
  clear ehb edb emb h5 h6 hB0 hbx HS0
  go_wp2_with fail
  refine (hostopen16 hb db nb (.map (some mb)) _ _ blk _ _ w1 h1 h2 ⟨_, rfl⟩ h4).mono ?_
  rintro e w2 ⟨sb, rfl, i1, i2, i3, i4, i5⟩
  have hz := HSZ.out
  have hbx2 := (i5.block w.heap.size (ltB hbx1) (by omega)).trans hbx1
  have HB2 : Hid (Below w.heap.size w w2) := hide (HB1.out.trans (i5.below (Nat.le_of_lt (ltB hbx1)) (fun k hk => by omega)))
  have H2 : HostAt w2 hb db nb sb (some mb) blk ⟨0, 0, []⟩ (fun b => b = sb) w.heap.size (.slice none 0 0) 0 (fun _ => 0) (fun _ => ⟨[], false⟩) := by
    refine ⟨i2, i3, i4, fun i hi => absurd hi (Nat.not_lt_zero _), fun i j hi => absurd hi (Nat.not_lt_zero _), World.ownsRow_nil _ _ _ _, fun g hg hF => ?_, fun b hb' => ?_, fun _ _ => rfl⟩
    · rcases hg with h | h | h
      · omega
      · omega
      · simp [Value.ownBlock] at h
    · rcases hb' with h | h | h | h | ⟨i, hi, h⟩
      · omega
      · omega
      · omega
      · simp [Value.ownBlock] at h
      · omega
  have hsz2 := i5.size
  have HH2 := hide H2
  have a1 := cellB hbx2
  clear h1 h2 h3 h4 hbx1 HB1 i1 i2 i3 i4 i5 H2 hz
  go_wp2_with fail
  obtain ⟨W, hW⟩ : ∃ W, W = w2.alloc (.cells (([qDef kd x y, qQk, qQj] : List Rq).flatMap rqcl).toArray 58) := ⟨_, rfl⟩
  have hWA : W.heap[w2.heap.size]? = some (.cells (([qDef kd x y, qQk, qQj] : List Rq).flatMap rqcl).toArray 58) := hW ▸ heapNew _ _
  have hWB : Below w2.heap.size w2 W := hW ▸ (Below.refl _ w2).alloc (Nat.le_refl _) _
  have h9 := bytes9' w2.heap.size 3 [qDef kd x y, qQk, qQj] W 58 (0, 0) (by simp) (by simp) HOKS.out hWA
  rw [hW] at h9
  refine h9.mono ?_
  rw [← hW]
  rintro e w3 ⟨rfl, hb3⟩
  have hk3 : ∀ k, k < w2.heap.size → w3.heap[k]? = w2.heap[k]? := fun k hk => (hb3.block k (Nat.lt_of_lt_of_le hk hWB.size)).trans (hWB.block k hk)
  have hs3 : w2.heap.size ≤ w3.heap.size := Nat.le_trans hWB.size hb3.size
  have H3 := HH2.out.kept hs3 hk3
  have hB3 : Below w.heap.size w w3 := HB2.out.trans ⟨hb3.os.trans hWB.os, hb3.tape.trans hWB.tape, hb3.output.trans hWB.output, hs3, fun k hk => hk3 k (Nat.lt_of_lt_of_le hk HB2.out.size)⟩
  obtain ⟨st, hst⟩ : ∃ st, st = strOfNums (encQs [qDef kd x y, qQk, qQj]) := ⟨_, rfl⟩
  have hnum : numsOf st = encQs [qDef kd x y, qQk, qQj] := by rw [hst]; exact numsOf_str _ (encQs_bytes _ (fun q hq => ⟨HOKS.out q hq, HBYS.out q hq⟩))
  have hfm : feedM ⟨0, 0, []⟩ ⟨[], false⟩ 0 (numsOf st) = (⟨0, 0, [(kK, ⟨kd, x, y, 0, 0⟩)]⟩, ⟨[], false⟩, [⟨1, 0, 0⟩, ⟨1, 0, 0⟩, ⟨4, 0, 0⟩]) := by rw [hnum]; exact opened_reckon kd x y hso hx hy
  have h11 := feed11 hb db nb sb (some mb) blk ⟨0, 0, []⟩ (fun b => b = sb) w.heap.size (.slice none 0 0) 0 (fun _ => 0) (fun _ => ⟨[], false⟩) 0 0 st w3 H3 (by decide) hB3.size (fun _ _ => rfl) 0 (by decide) (by decide) (by decide) ⟨by simp, by simp, by simp, by simp, by simp, by simp⟩ (by decide) (by decide) (by intro b hb; simp at hb) (by rw [hnum]; have := encQs_len [qDef kd x y, qQk, qQj]; simp at this ⊢; omega)
  simp only [hfm] at h11
  have H11 := hide h11
  have HBW3 := hide hB3
  have HLO3 : Hid (∀ b, HG hb db (fun b => b = sb) (.slice none 0 0) 0 (fun _ => 0) b → w.heap.size ≤ b) := hide H3.lo
  rw [← hst]
  clear hst hnum hfm h11 hB3 H3 hk3 hs3 h9 hW hWA hWB hb3
  go_wp2_with fail
  refine H11.out.mono ?_
  rintro e w4 ⟨F4, cv4, cb4, rfl, H4, hK4, hG4⟩
  have hB4 : Below w.heap.size w w4 := HBW3.out.trans (hK4.below HBW3.out.size HLO3.out)
  obtain ⟨st2, hst2⟩ : ∃ st2, st2 = strOfNums (encs [⟨1, 0, 0⟩, ⟨1, 0, 0⟩, ⟨4, 0, 0⟩]) := ⟨_, rfl⟩
  have htd : ∀ r ∈ ([⟨1, 0, 0⟩, ⟨1, 0, 0⟩, ⟨4, 0, 0⟩] : List Rp), r.told := fun r hr => by
    simp only [List.mem_cons, List.not_mem_nil, or_false] at hr
    rcases hr with rfl | rfl | rfl <;> exact ⟨by decide, by decide, by decide, by decide⟩
  have h23 := replies23 st2 [⟨1, 0, 0⟩, ⟨1, 0, 0⟩, ⟨4, 0, 0⟩] w4 (by rw [hst2]; exact numsOf_str _ (encs_bytes _ htd)) htd (by simp) ((hB4.cell (p := ⟨0, 0, none⟩) hlt0).trans HGL.out)
  have H23 := hide h23
  rw [← hst2]
  have HB4 := hide hB4
  have HH4 := hide H4
  have HG4 := hide hG4
  clear hst2 h23 hB4 H4 hK4 hG4 H11 HLO3 htd
  go_wp2_with fail
  refine H23.out.mono ?_
  rintro e w5 ⟨lv, rfl, hown5, hb5⟩
  obtain ⟨g, gc, rfl, _, hg5⟩ := hown5.form (by decide)
  have k0 := hown5.cellAt 0 (by simp)
  have k1 := hown5.cellAt 1 (by simp)
  have k2 := hown5.cellAt 2 (by simp)
  have k3 := hown5.cellAt 3 (by simp)
  have k4 := hown5.cellAt 4 (by simp)
  have k5 := hown5.cellAt 5 (by simp)
  have k6 := hown5.cellAt 6 (by simp)
  simp [rpcs, rpc] at k0 k1 k2 k3 k4 k5 k6
  clear hown5 H23
  go_wp2_with fail
  go_ret
  have hce : (fun j : Nat => if j = 0 then (⟨[], false⟩ : Cn) else ⟨[], false⟩) = fun _ => ⟨[], false⟩ := by
    funext j
    split <;> rfl
  have H4 := HH4.out
  rw [hce] at H4
  exact ⟨hb, db, nb, sb, some mb, F4, cv4, cb4, rfl, H4.kept hb5.size (fun k hk => hb5.block k hk), HB4.out.trans (hb5.mono HB4.out.size)⟩
end Go.Proofs.YtlamgpeiolfffaaGreatDoor

namespace Go.Proofs.YtlamgpeiolfffaaGreatDoor
open Go.ChangeShapes Go.WideShapes Go.ChangeAt Go.RowKit
variable [dK] [iK]

theorem Tryz.own : ownKnob Tryz.prog.godebug = none := by kernel_rfl
theorem Tryz.laidOut : laidOutB Tryz.prog = true := by kernel_rfl
theorem Tryz.et : Tryz.prog.globalNamed "errors.errorType" = some 0 := by kernel_rfl
theorem Tryz.rt : (Tryz.prog.cutTypes.find? (·.1 == "internal/reflectlite.rtype")).map (·.2) = some 201 := by kernel_rfl
theorem Tryz.oneRow : ((List.range 309).filter fun t => Tryz.prog.rowNamed t [101, 114, 114, 111, 114]) = [88] := by kernel_rfl
theorem Tryz.size : Tryz.prog.types.size = 309 := by kernel_rfl

/-- What the condition gives a walk: the variable's one cell. -/
theorem handle_of_laid {W : World} (h : laidMetH Tryz.prog [("errors.errorType", Rows.laid_errors_errorType)] W) : W.cell? ⟨0, 0, none⟩ = some (.iface 201 (.agg #[.pointer (some ⟨1, 88, none⟩)])) := by
  have h' : laidMet Tryz.prog [] W ∧ handlesMet Tryz.prog [("errors.errorType", Rows.laid_errors_errorType)] W := h
  obtain ⟨name, u, ty, e1, e2, e3, e4, e5⟩ := h'.2 _ (List.mem_singleton.2 rfl)
  have en : name = [101, 114, 114, 111, 114] := (Option.some.inj e1).symm
  subst en
  obtain rfl := Option.some.inj (Tryz.rt.symm.trans e2)
  have hm : ty ∈ (List.range 309).filter fun t => Tryz.prog.rowNamed t [101, 114, 114, 111, 114] := List.mem_filter.2 ⟨List.mem_range.2 (by rw [← Tryz.size]; exact e3), e4⟩
  rw [Tryz.oneRow] at hm
  obtain rfl := List.mem_singleton.1 hm
  have hh : typeHandle Tryz.prog 88 = .pointer (some ⟨1, 88, none⟩) := by kernel_rfl
  rw [hh] at e5
  simpa using World.var?_cell Tryz.et e5 0

section
variable {H : Type} {enc : TypeId × Value → H} {P : Program} {w : World} {base : Nat} {spare : Nat → Bool} {held : Bool}
theorem trodAll_five {t t' t'' t3 t4 : TypeId} {args : Array Value} {ds : List (DataW H)} {ps : List MemPlace} (h : DataW.TrodAll enc P w base spare held [t, t', t'', t3, t4] args.toList ds ps) :
    ∃ v v' v'' v3 v4 d d' d'' d3 d4 p p' p'' p3 p4, args = #[v, v', v'', v3, v4] ∧ ds = [d, d', d'', d3, d4] ∧ ps = p ++ p' ++ p'' ++ p3 ++ p4 ∧ DataW.Trod enc P w base spare held t v d p ∧ DataW.Trod enc P w base spare held t' v' d' p' ∧ DataW.Trod enc P w base spare held t'' v'' d'' p'' ∧ DataW.Trod enc P w base spare held t3 v3 d3 p3 ∧ DataW.Trod enc P w base spare held t4 v4 d4 p4 := by
  obtain ⟨v, vs, d, ds', p, q, hargs, rfl, rfl, hd, hrest⟩ := trodAll_cons h
  obtain ⟨v', vs', d', ds'', p', q', rfl, rfl, rfl, hd', hrest'⟩ := trodAll_cons hrest
  obtain ⟨v'', vs'', d'', ds''', p'', q'', rfl, rfl, rfl, hd'', hrest''⟩ := trodAll_cons hrest'
  obtain ⟨v3, vs3, d3, ds3, p3, q3, rfl, rfl, rfl, hd3, hrest3⟩ := trodAll_cons hrest''
  obtain ⟨v4, vs4, d4, ds4, p4, q4, rfl, rfl, rfl, hd4, hrest4⟩ := trodAll_cons hrest3
  obtain ⟨rfl, rfl, rfl⟩ := trodAll_nil hrest4
  exact ⟨v, v', v'', v3, v4, d, d', d'', d3, d4, p, p', p'', p3, p4, by cases args; simp_all, rfl, by simp, hd, hd', hd'', hd3, hd4⟩
theorem trodAll_mk5 {t t' t'' t3 t4 : TypeId} {v v' v'' v3 v4 : Value} {d d' d'' d3 d4 : DataW H} {p p' p'' p3 p4 : List MemPlace} (h : DataW.Trod enc P w base spare held t v d p) (h' : DataW.Trod enc P w base spare held t' v' d' p')
    (h'' : DataW.Trod enc P w base spare held t'' v'' d'' p'') (h3 : DataW.Trod enc P w base spare held t3 v3 d3 p3) (h4 : DataW.Trod enc P w base spare held t4 v4 d4 p4) : DataW.TrodAll enc P w base spare held [t, t', t'', t3, t4] [v, v', v'', v3, v4] [d, d', d'', d3, d4] (p ++ (p' ++ (p'' ++ (p3 ++ p4)))) := ⟨p, p' ++ (p'' ++ (p3 ++ p4)), h, trodAll_mk4 h' h'' h3 h4, rfl⟩
end
end Go.Proofs.YtlamgpeiolfffaaGreatDoor
