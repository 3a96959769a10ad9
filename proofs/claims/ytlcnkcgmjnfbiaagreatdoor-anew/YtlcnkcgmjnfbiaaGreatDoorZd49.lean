import Derived.Test.YtlcnkcgmjnfbiaaGreatDoorZd29
import Derived.Test.YtlcnkcgmjnfbiaaGreatDoorZd48
import Derived.Test.YtlcnkcgmjnfbiaaGreatDoorZd26
import Derived.Test.YtlcnkcgmjnfbiaaGreatDoorZd47
import Derived.Test.YtlcnkcgmjnfbiaaGreatDoorZd00
import Derived.Lib.SmallJoins
import Derived.Deep.Slices
set_option linter.unusedSectionVars false
namespace Go.Proofs.YtlcnkcgmjnfbiaaGreatDoor
open Go.RowKit
variable [dK] [iK]

structure Rq.byt (q : Rq) : Prop where
  op : 0 ≤ q.op ∧ q.op ≤ 255
  kd : 0 ≤ q.kd ∧ q.kd ≤ 255
theorem enc_bytes (q : Rq) (h : q.ok) (hb : q.byt) : Bytes q.enc := by
  have hk := h.key
  have h0 := hk.h0; have h1 := hk.h1; have h2 := hk.h2; have h3 := hk.h3; have h4 := hk.h4; have h5 := hk.h5; have h6 := hk.h6; have h7 := hk.h7
  have hkd := hb.kd
  have hop := hb.op
  simp only [Rq.key] at h0 h1 h2 h3 h4 h5 h6 h7
  unfold Rq.enc encReq
  split
  · refine (Bytes.app ?_ (be8_bytes _)).app (be8_bytes _)
    intro x hx
    simp only [List.mem_cons, List.not_mem_nil, or_false] at hx
    omega
  · split
    · refine Bytes.app ?_ (be8_bytes _)
      intro x hx
      simp only [List.mem_cons, List.not_mem_nil, or_false] at hx
      omega
    · split
      · intro x hx
        simp only [List.mem_cons, List.not_mem_nil, or_false] at hx
        omega
      · split
        · intro x hx
          simp only [List.mem_cons, List.not_mem_nil, or_false] at hx
          omega
        · intro x hx
          simp at hx
theorem encQs_bytes (qs : List Rq) (h : ∀ q ∈ qs, q.ok ∧ q.byt) : Bytes (encQs qs) := by
  intro x hx
  obtain ⟨q, hq, hx⟩ := List.mem_flatMap.1 hx
  exact enc_bytes q (h q hq).1 (h q hq).2 x hx
abbrev rqcl (q : Rq) : List Value := [.int .u8 q.op, .int .u8 q.k0, .int .u8 q.k1, .int .u8 q.k2, .int .u8 q.k3, .int .u8 q.k4, .int .u8 q.k5, .int .u8 q.k6, .int .u8 q.k7, .int .u8 q.kd, .int .u64 q.x, .int .u64 q.y, .int .u64 q.n]
theorem HostAt.lower {w : World} {hb db nb sb : Nat} {mb : Option Nat} {blk D D' : Int} {L : Ld} {F : Nat → Prop} {B : Nat} {cv : Value} {m : Nat} {cb : Nat → Nat} {c : Nat → Cn} (H : HostAt w hb db nb sb mb blk D L F B cv m cb c) (hd : D' ≤ D) : HostAt w hb db nb sb mb blk D' L F B cv m cb c :=
  ⟨H.hh, H.hd, H.hs.lower hd, H.hc, H.hi, H.ho, H.hF, H.lo, H.fr⟩
/-- keep's bytes over requests that lie one behind the other in a block. -/
theorem bytes9' (A cap : Nat) (qs : List Rq) (w : World) (t : TypeId) (fr : Nat × Nat) (hnc : qs.length ≤ cap) (hn1 : qs.length ≤ 1000) (hok : ∀ q ∈ qs, q.ok) (hA : w.heap[A]? = some (.cells (qs.flatMap rqcl).toArray t fr)) :
    Calls Tryz.prog 22 #[.slice (some ⟨A, 0, none⟩) qs.length cap] w fun e w' => e = .returned (.string (strOfNums (encQs qs))) ∧ Below w.heap.size w w' := by
  refine bytes9 A 0 qs.length cap qs w rfl hnc hn1 hok (ltB hA) (fun i h j => ?_)
  rcases Nat.lt_or_ge j 13 with hj | hj
  · left
    rw [cellB hA, Nat.zero_add]
    have hfl : ∀ (l : List Rq) (i : Nat) (h : i < l.length), (l.flatMap rqcl)[i * 13 + j]? = (rqcl l[i])[j]? := by
      intro l
      induction l with
      | nil => intro i h; simp at h
      | cons q r ih =>
        intro i h
        rw [List.flatMap_cons]
        cases i with
        | zero =>
          rw [Nat.zero_mul, Nat.zero_add, List.getElem?_append_left (by simpa using hj)]
          rfl
        | succ i =>
          rw [List.getElem?_append_right (by simp; omega)]
          have e : (i + 1) * 13 + j - (rqcl q).length = i * 13 + j := by simp; omega
          rw [e, ih i (by simpa using h)]
          rfl
    have := hfl qs i h
    simpa using this
  · right; exact hj

set_option maxRecDepth 100000 in
set_option maxHeartbeats 4000000 in
theorem opened8 (kd x y blk : Int) (w : World) (hso : soundM kd x y) (hx : 0 ≤ x ∧ x ≤ 18446744073709551615) (hy : 0 ≤ y ∧ y ≤ 18446744073709551615) (hblk : 0 ≤ blk ∧ blk ≤ 18446744073709551615) (hgl : w.cell? ⟨0, 0, none⟩ = some (.iface 236 (.agg #[.pointer (some ⟨5, 93, none⟩)]))) :
    Calls Tryz.prog 20 #[.agg #[.int .u8 kd, .int .u64 x, .int .u64 y], .int .u64 blk] w fun e w' => ∃ hb db nb sb mb F cv cb, e = .returned (.pointer (some ⟨hb, 0, none⟩)) ∧ HostAt w' hb db nb sb mb blk 0 ⟨0, 0, [(kK, ⟨kd, x, y, 0, 0⟩)]⟩ F w.heap.size cv 3 cb (fun _ => ⟨[], false⟩) ∧ Below w.heap.size w w' := by
  obtain ⟨W0, hW0⟩ : ∃ W0, W0 = w.alloc (.cells #[.int .u8 kd, .int .u64 x, .int .u64 y] 39) := ⟨_, rfl⟩
  have hbx : W0.heap[w.heap.size]? = some (.cells #[.int .u8 kd, .int .u64 x, .int .u64 y] 39) := hW0 ▸ heapNew _ _
  have hB0 : Below w.heap.size w W0 := hW0 ▸ (Below.refl _ w).alloc (Nat.le_refl _) _
  have hs0 : W0.heap.size = w.heap.size + 1 := by rw [hW0]; simp
  have HOKS : Hid (∀ q ∈ [qDef kd x y, qQk, qQj], q.ok) := hide (fun q hq => by
    have z : (0 : Int) ≤ 0 ∧ (0 : Int) ≤ 18446744073709551615 := by omega
    simp only [List.mem_cons, List.not_mem_nil, or_false] at hq
    rcases hq with rfl | rfl | rfl
    · exact ⟨⟨by simp [qDef, Rq.key], by simp [qDef, Rq.key], by simp [qDef, Rq.key], by simp [qDef, Rq.key], by simp [qDef, Rq.key], by simp [qDef, Rq.key], by simp [qDef, Rq.key], by simp [qDef, Rq.key]⟩, hx, hy, z⟩
    · exact ⟨⟨by simp [qQk, Rq.key], by simp [qQk, Rq.key], by simp [qQk, Rq.key], by simp [qQk, Rq.key], by simp [qQk, Rq.key], by simp [qQk, Rq.key], by simp [qQk, Rq.key], by simp [qQk, Rq.key]⟩, z, z, z⟩
    · exact ⟨⟨by simp [qQj, Rq.key], by simp [qQj, Rq.key], by simp [qQj, Rq.key], by simp [qQj, Rq.key], by simp [qQj, Rq.key], by simp [qQj, Rq.key], by simp [qQj, Rq.key], by simp [qQj, Rq.key]⟩, z, z, z⟩)
  have HBYS : Hid (∀ q ∈ [qDef kd x y, qQk, qQj], q.byt) := hide (fun q hq => by
    simp only [List.mem_cons, List.not_mem_nil, or_false] at hq
    rcases hq with rfl | rfl | rfl
    · exact ⟨by simp [qDef], by rcases hso with h | h <;> simp [qDef, h.1]⟩
    · exact ⟨by simp [qQk], by simp [qQk]⟩
    · exact ⟨by simp [qQj], by simp [qQj]⟩)
  have hlt0 : 0 < w.heap.size := by
    rcases Nat.eq_zero_or_pos w.heap.size with h0 | h
    · simp [World.cell?, h0] at hgl
    · exact h
  have HGL := hide hgl
  have HS0 := hide hs0
  clear hgl hs0
  go_enter Tryz.func20, Tryz.ntmps20
  go_wp2_with fail
  rw [← hW0]
  clear hW0
  refine (newhost15 blk _).mono ?_
  rintro e w1 ⟨nb, rfl, h1, h2, h3, h4, h5, h6⟩
  obtain ⟨hb, ehb⟩ : ∃ hb, hb = W0.heap.size + 2 := ⟨_, rfl⟩
  obtain ⟨db, edb⟩ : ∃ db, db = W0.heap.size + 1 := ⟨_, rfl⟩
  obtain ⟨mb, emb⟩ : ∃ mb, mb = W0.heap.size := ⟨_, rfl⟩
  have hbx1 := (h6.block _ (ltB hbx)).trans hbx
  rw [← edb, ← emb] at h2
  rw [← ehb, ← edb] at h1
  rw [← emb] at h3
  have HB1 := hide (hB0.trans (h6.mono (Nat.le_of_lt (ltB hbx))))
  have HSZ : Hid (w.heap.size < mb ∧ mb < db ∧ db < hb ∧ hb < nb ∧ nb < w1.heap.size) := hide ⟨by have := HS0.out; omega, by omega, by omega, by omega, ltB h4⟩
  rw [← ehb]
  clear ehb edb emb h5 h6 hB0 hbx HS0
  go_wp2_with fail
  refine (hostopen16 hb db nb mb _ _ blk _ _ w1 hblk h1 h2 h3 h4 (by have := HSZ.out; omega)).mono ?_
  rintro e w2 ⟨sb, F0, rfl, i1, i2, i4, i6, i7, i5⟩
  have hz := HSZ.out
  have hbx2 := (i5.block w.heap.size (ltB hbx1) (by omega)).trans hbx1
  have HB2 : Hid (Below w.heap.size w w2) := hide (HB1.out.trans (i5.below (Nat.le_of_lt (ltB hbx1)) (fun k hk => by omega)))
  have H2 : HostAt w2 hb db nb sb (some mb) blk 0 ⟨0, 0, []⟩ F0 w.heap.size (.slice none 0 0) 0 (fun _ => 0) (fun _ => ⟨[], false⟩) := by
    refine ⟨i2, i4.dskF, i4, fun i hi => absurd hi (Nat.not_lt_zero _), fun i j hi => absurd hi (Nat.not_lt_zero _), World.ownsRow_nil _ _ _ _, fun g hg hF => ?_, fun b hb' => ?_, fun _ _ => rfl⟩
    · rcases hg with h | h | h
      · exact i7 (h ▸ hF)
      · exact h
      · simp [Value.ownBlock] at h
    · rcases hb' with h | h | h | h | ⟨i, hi, h⟩
      · omega
      · omega
      · rcases i6 b h with h | h | h | h <;> omega
      · simp [Value.ownBlock] at h
      · omega
  have hsz2 := i5.size
  have HH2 := hide H2
  have a1 := cellB hbx2
  clear h1 h2 h3 h4 hbx1 HB1 i1 i2 i4 i5 i6 i7 H2 hz
  go_wp2_with fail
  obtain ⟨W, hW⟩ : ∃ W, W = w2.alloc (.cells (([qDef kd x y, qQk, qQj] : List Rq).flatMap rqcl).toArray 41) := ⟨_, rfl⟩
  have hWA : W.heap[w2.heap.size]? = some (.cells (([qDef kd x y, qQk, qQj] : List Rq).flatMap rqcl).toArray 41) := hW ▸ heapNew _ _
  have hWB : Below w2.heap.size w2 W := hW ▸ (Below.refl _ w2).alloc (Nat.le_refl _) _
  have h9 := bytes9' w2.heap.size 3 [qDef kd x y, qQk, qQj] W 41 (0, 0) (by simp) (by simp) HOKS.out hWA
  rw [hW] at h9
  refine h9.mono ?_
  rw [← hW]
  rintro e w3 ⟨rfl, hb3⟩
  have hk3 : ∀ k, k < w2.heap.size → w3.heap[k]? = w2.heap[k]? := fun k hk => (hb3.block k (Nat.lt_of_lt_of_le hk hWB.size)).trans (hWB.block k hk)
  have hs3 : w2.heap.size ≤ w3.heap.size := Nat.le_trans hWB.size hb3.size
  have H3 := HH2.out.kept hs3 hk3
  have hB3 : Below w.heap.size w w3 := HB2.out.trans ⟨hb3.os.trans hWB.os, hb3.tape.trans hWB.tape, hb3.output.trans hWB.output, hs3, fun k hk => hk3 k (Nat.lt_of_lt_of_le hk HB2.out.size)⟩
  obtain ⟨st, hst⟩ : ∃ st, st = strOfNums (encQs [qDef kd x y, qQk, qQj]) := ⟨_, rfl⟩
  have hnum : numsOf st = encQs [qDef kd x y, qQk, qQj] := by rw [hst]; exact numsOf_str _ (encQs_bytes _ (fun q hq => ⟨HOKS.out q hq, HBYS.out q hq⟩))
  have hfm : feedM ⟨0, 0, []⟩ ⟨[], false⟩ 0 (numsOf st) = (⟨0, 0, [(kK, ⟨kd, x, y, 0, 0⟩)]⟩, ⟨[], false⟩, [⟨1, 0, 0⟩, ⟨1, 0, 0⟩, ⟨4, 0, 0⟩]) := by rw [hnum]; exact opened_reckon kd x y hso hx hy
  have h11 := feed11 hb db nb sb (some mb) blk 0 ⟨0, 0, []⟩ F0 w.heap.size (.slice none 0 0) 0 (fun _ => 0) (fun _ => ⟨[], false⟩) 0 0 st w3 H3 (by decide) hB3.size (fun _ _ => rfl) 0 (by decide) (by decide) (by decide) ⟨by simp, by simp, by simp, by simp, by simp, by simp⟩ (by decide) (by decide) (by intro b hb; simp at hb) (by rw [hnum]; have := encQs_len [qDef kd x y, qQk, qQj]; simp at this ⊢; omega)
  simp only [hfm] at h11
  have H11 := hide h11
  have HBW3 := hide hB3
  have HLO3 : Hid (∀ b, HG hb db F0 (.slice none 0 0) 0 (fun _ => 0) b → w.heap.size ≤ b) := hide H3.lo
  rw [← hst]
  clear hst hnum hfm h11 hB3 H3 hk3 hs3 h9 hW hWA hWB hb3
  go_wp2_with fail
  refine H11.out.mono ?_
  rintro e w4 ⟨F4, cv4, cb4, rfl, H4, hK4, hG4⟩
  have hB4 : Below w.heap.size w w4 := HBW3.out.trans (hK4.below HBW3.out.size HLO3.out)
  obtain ⟨st2, hst2⟩ : ∃ st2, st2 = strOfNums (encs [⟨1, 0, 0⟩, ⟨1, 0, 0⟩, ⟨4, 0, 0⟩]) := ⟨_, rfl⟩
  have htd : ∀ r ∈ ([⟨1, 0, 0⟩, ⟨1, 0, 0⟩, ⟨4, 0, 0⟩] : List Rp), r.told := fun r hr => by
    simp only [List.mem_cons, List.not_mem_nil, or_false] at hr
    rcases hr with rfl | rfl | rfl <;> exact ⟨by decide, by decide, by decide, by decide⟩
  have h23 := replies23 st2 [⟨1, 0, 0⟩, ⟨1, 0, 0⟩, ⟨4, 0, 0⟩] w4 (by rw [hst2]; exact numsOf_str _ (encs_bytes _ htd)) htd (by simp) ((hB4.cell (p := ⟨0, 0, none⟩) hlt0).trans HGL.out)
  have H23 := hide h23
  rw [← hst2]
  have HB4 := hide hB4
  have HH4 := hide H4
  have HG4 := hide hG4
  clear hst2 h23 hB4 H4 hK4 hG4 H11 HLO3 htd
  go_wp2_with fail
  refine H23.out.mono ?_
  rintro e w5 ⟨lv, rfl, hown5, hb5⟩
  obtain ⟨g, gc, rfl, _, hg5⟩ := hown5.form (by decide)
  have k0 := hown5.cellAt 0 (by simp)
  have k1 := hown5.cellAt 1 (by simp)
  have k2 := hown5.cellAt 2 (by simp)
  have k3 := hown5.cellAt 3 (by simp)
  have k4 := hown5.cellAt 4 (by simp)
  have k5 := hown5.cellAt 5 (by simp)
  have k6 := hown5.cellAt 6 (by simp)
  simp [rpcs, rpc] at k0 k1 k2 k3 k4 k5 k6
  clear hown5 H23
  go_wp2_with fail
  go_ret
  have hce : (fun j : Nat => if j = 0 then (⟨[], false⟩ : Cn) else ⟨[], false⟩) = fun _ => ⟨[], false⟩ := by
    funext j
    split <;> rfl
  have H4 := HH4.out
  rw [hce] at H4
  exact ⟨hb, db, nb, sb, some mb, F4, cv4, cb4, rfl, (H4.lower (feedD_ge 0 ⟨0, 0, []⟩ ⟨[], false⟩ 0 _ (Int.le_refl _)).1).kept hb5.size (fun k hk => hb5.block k hk), HB4.out.trans (hb5.mono HB4.out.size)⟩
end Go.Proofs.YtlcnkcgmjnfbiaaGreatDoor

namespace Go.Proofs.YtlcnkcgmjnfbiaaGreatDoor
open Go.RowKit Go.Maps
variable [dK] [iK]

/-- A host whose ledger stands so, nothing waiting; its blocks are those of G. -/
def HstAt (w : World) (hb : Nat) (blk D : Int) (L : Ld) (B : Nat) (G : Nat → Prop) : Prop := ∃ db nb sb mb F cv m cb, m ≤ 3 ∧ HostAt w hb db nb sb mb blk D L F B cv m cb (fun _ => ⟨[], false⟩) ∧ G = HG hb db F cv m cb
theorem HstAt.quiet {w w' : World} {hb : Nat} {blk D : Int} {L : Ld} {B : Nat} {G : Nat → Prop} (h : HstAt w hb blk D L B G) (hs : w.heap.size ≤ w'.heap.size) (hk : ∀ k, G k → w'.heap[k]? = w.heap[k]?) : HstAt w' hb blk D L B G := by
  obtain ⟨db, nb, sb, mb, F, cv, m, cb, hm, H, rfl⟩ := h
  exact ⟨db, nb, sb, mb, F, cv, m, cb, hm, H.quiet (fun _ => rfl) hs hk, rfl⟩
theorem HstAt.lt {w : World} {hb : Nat} {blk D : Int} {L : Ld} {B : Nat} {G : Nat → Prop} (h : HstAt w hb blk D L B G) (b : Nat) (hb' : G b) : b < w.heap.size := by
  obtain ⟨db, nb, sb, mb, F, cv, m, cb, hm, H, rfl⟩ := h
  exact H.lt b hb'
theorem HstAt.lo {w : World} {hb : Nat} {blk D : Int} {L : Ld} {B : Nat} {G : Nat → Prop} (h : HstAt w hb blk D L B G) (b : Nat) (hb' : G b) : B ≤ b := by
  obtain ⟨db, nb, sb, mb, F, cv, m, cb, hm, H, rfl⟩ := h
  exact H.lo b hb'
theorem HstAt.lok {w : World} {hb : Nat} {blk D : Int} {L : Ld} {B : Nat} {G : Nat → Prop} (h : HstAt w hb blk D L B G) : L.ok := by
  obtain ⟨db, nb, sb, mb, F, cv, m, cb, hm, H, rfl⟩ := h
  exact H.hs.lok
/-- Requests come in, whole. -/
theorem hst_feed (hb : Nat) (blk D : Int) (L L' : Ld) (B : Nat) (G : Nat → Prop) (qs : List Rq) (rs : List Rp) (now : Int) (w : World) (H : HstAt w hb blk D L B G) (hB : B ≤ w.heap.size) (hq : ∀ q ∈ qs, q.ok ∧ q.byt) (hql : qs.length ≤ 1000) (hn : 0 ≤ now ∧ now ≤ 18446744073709551615) (hf : feedM L ⟨[], false⟩ now (encQs qs) = (L', ⟨[], false⟩, rs)) (st st2 : ByteArray) (hst : st = strOfNums (encQs qs)) (hst2 : st2 = strOfNums (encs rs)) :
    Calls Tryz.prog 21 #[.pointer (some ⟨hb, 0, none⟩), .int .i64 0, .int .u64 now, .string st, .int .i64 (-1), .int .i64 (-1), .int .i64 0, .int .i64 0] w fun e w' => ∃ G', e = .returned (.tuple #[.string st2, .bool false]) ∧ HstAt w' hb blk (feedD D L ⟨[], false⟩ now (encQs qs)) L' B G' ∧ Keep G w w' ∧ ∀ b, G' b → G b ∨ w.heap.size ≤ b := by
  have hlok := H.lok
  obtain ⟨db, nb, sb, mb, F, cv, m, cb, hm, H, rfl⟩ := H
  have hnum : numsOf st = encQs qs := by rw [hst]; exact numsOf_str _ (encQs_bytes _ hq)
  have h11 := feed11 hb db nb sb mb blk D L F B cv m cb (fun _ => ⟨[], false⟩) 0 now st w H hm hB (fun _ _ => rfl) 0 (by decide) (by decide) (by decide) hlok hn.1 hn.2 (by intro b hb; simp at hb) (by rw [hnum]; have := encQs_len qs; simp; omega)
  simp only [hnum, hf] at h11
  rw [← hst2] at h11
  refine h11.mono ?_
  rintro e w' ⟨F', cv', cb', rfl, H', hk, hg⟩
  have hce : (fun j : Nat => if j = 0 then (⟨[], false⟩ : Cn) else ⟨[], false⟩) = fun _ => ⟨[], false⟩ := by
    funext j
    split <;> rfl
  rw [hce] at H'
  exact ⟨_, rfl, ⟨db, nb, sb, mb, F', cv', 3, cb', Nat.le_refl _, H', rfl⟩, hk, hg⟩
/-- The host lost its ledger: w0 is the memory ahead of it. -/
def GoneAt (w0 w : World) (hb : Nat) (blk D : Int) (L : Ld) (B : Nat) (G : Nat → Prop) : Prop := ∃ db nb0 sb mb0 F cv m cb, HostAt w0 hb db nb0 sb mb0 blk D L F B cv m cb (fun _ => ⟨[], false⟩) ∧ G = HG hb db F cv m cb ∧ ∃ (c0 : Led) (mb nb : Nat), c0.ok ∧ c0.ld = L ∧ (c0.blk = blk ∧ c0.has D) ∧ w.heap[hb]? = some (.cells #[.pointer (some ⟨db, 0, none⟩), .pointer none, cv, .int .u64 blk] 88) ∧ w.heap[db]? = some (.cells #[.map (some mb), .map (some nb), .slice none 0 0, .int .i64 (-1), .int .i64 (-1), .bool false] 84) ∧ DirAt w mb c0.fsD ∧ DirAt w nb c0.fsD ∧ mb ≠ nb ∧ F mb ∧ w0.heap.size ≤ nb ∧ (∀ p ∈ c0.fsD, F p.2.1) ∧ Keep (fun b => b = hb ∨ b = db) w0 w
theorem hst_lose (hb : Nat) (blk D : Int) (L : Ld) (B : Nat) (G : Nat → Prop) (kept part : Int) (w : World) (H : HstAt w hb blk D L B G) (p0 : -9223372036854775808 ≤ part) (p1 : part ≤ 9223372036854775807) :
    Calls Tryz.prog 26 #[.pointer (some ⟨hb, 0, none⟩), .int .i64 kept, .int .i64 part] w fun e w' => e = .returned (.tuple #[]) ∧ GoneAt w w' hb blk D L B G := by
  obtain ⟨db, nb, sb, mb, F, cv, m, cb, hm, H, rfl⟩ := H
  refine (lose25 hb db nb sb mb blk D _ F B cv m cb _ kept part w H p0 p1).mono ?_
  rintro e w' ⟨rfl, h⟩
  exact ⟨rfl, db, nb, sb, mb, F, cv, m, cb, H, rfl, h⟩
theorem GoneAt.drew {w0 w : World} {hb : Nat} {blk D : Int} {L : Ld} {B : Nat} {G : Nat → Prop} (h : GoneAt w0 w hb blk D L B G) : GoneAt w0 w.drew hb blk D L B G := by
  obtain ⟨db, nb0, sb, mb0, F, cv, m, cb, H, hG, c0, mb, nb, h1, h2, h3, h4, h5, h6, h7, h8, h9, h10, h11, h12⟩ := h
  exact ⟨db, nb0, sb, mb0, F, cv, m, cb, H, hG, c0, mb, nb, h1, h2, h3, h4, h5, h6.kept rfl (fun _ _ => rfl), h7.kept rfl (fun _ _ => rfl), h8, h9, h10, h11, h12.drew⟩
theorem hst_open (hb : Nat) (blk D : Int) (L : Ld) (B : Nat) (G : Nat → Prop) (w0 w : World) (H : GoneAt w0 w hb blk D L B G) (hB : B ≤ w0.heap.size) :
    Calls Tryz.prog 8 #[.pointer (some ⟨hb, 0, none⟩), .int .i64 (-1), .int .i64 (-1), .int .i64 0, .int .i64 0] w fun e w' => ∃ L' G', e = .returned (.int .i64 0) ∧ HstAt w' hb blk L'.time L' B G' ∧ (Rec blk L L' ∧ D ≤ L'.time) ∧ Keep G w0 w' ∧ ∀ b, G' b → G b ∨ w0.heap.size ≤ b := by
  obtain ⟨db, nb0, sb, mb0, F, cv, m, cb, H, rfl, c0, mb, nb, h1, h2, h3, h4, h5, h6, h7, h8, h9, h10, h11, h12⟩ := H
  refine (hostopen16f hb db nb mb _ _ blk D _ _ c0 w h1 h3.2 h3.1 h4 h5 h6 h7 h8).mono ?_
  rintro e w' ⟨sb', L', F', rfl, hsb, hh', hS, hRec, hF', hFh, hK⟩
  obtain ⟨H', hk', hg'⟩ := H.again hB h9 h10 h11 h12 hh' hS hF' hFh hK
  rw [h2] at hRec
  exact ⟨L', _, rfl, ⟨db, nb0, sb', mb0, F', _, 0, _, by omega, H', rfl⟩, hRec, hk', hg'⟩
/-- A ledger that has no key. -/
theorem no_key {L : Ld} (h : ∀ k, fnd k L.ks = none) : L.ks = [] := by
  match hk : L.ks with
  | [] => rfl
  | p :: r =>
    have := h p.1
    rw [hk] at this
    simp [fnd] at this
/-- What a failure makes of a ledger with that one key, or with none. -/
theorem Rec.one {blk T A : Int} {z : Qt} {L' : Ld} (h : Rec blk ⟨T, A, [(kK, z)]⟩ L') (hlok : L'.ok) : ∃ T' z', L' = ⟨T', 0, [(kK, z')]⟩ ∧ 0 ≤ T' ∧ T' ≤ T ∧ Res blk z z' := by
  obtain ⟨q, e1, e2, _⟩ := h.some_ kK z (by simp [fnd])
  have hks := one_key hlok e1 (fun k hk => h.none_ k (by simp [fnd]; exact fun e => hk e.symm))
  have ht := hlok.time
  have ht2 := h.time
  refine ⟨L'.time, q, ?_, ht.1, ht2, e2⟩
  have ha := h.adm
  cases L'
  simp only at hks ha
  rw [hks, ha]
theorem Rec.none {blk T A : Int} {L' : Ld} (h : Rec blk ⟨T, A, []⟩ L') (hlok : L'.ok) : ∃ T', L' = ⟨T', 0, []⟩ ∧ 0 ≤ T' ∧ T' ≤ T := by
  have hks := no_key (fun k => h.none_ k (by simp [fnd]))
  have ht := hlok.time
  have ht2 := h.time
  refine ⟨L'.time, ?_, ht.1, ht2⟩
  have ha := h.adm
  cases L'
  simp only at hks ha
  rw [hks, ha]
end Go.Proofs.YtlcnkcgmjnfbiaaGreatDoor

namespace Go.Proofs.YtlcnkcgmjnfbiaaGreatDoor
open Go.RowKit Go.Maps
variable [dK] [iK]

/-- A host between the calls of a statement that began at w; of the other blocks those of ks stand as they are. -/
structure Hv (w W : World) (hb : Nat) (blk D : Int) (L : Ld) (B : Nat) (G : Nat → Prop) (ks : List (Nat × Obj)) : Prop where
  hst : HstAt W hb blk D L B G
  bs : B ≤ W.heap.size
  wB : w.heap.size ≤ B
  be : Below w.heap.size w W
  ks : ∀ p ∈ ks, W.heap[p.1]? = some p.2 ∧ ¬ G p.1
theorem Hv.kept {w W W' : World} {hb : Nat} {blk D : Int} {L : Ld} {B : Nat} {G : Nat → Prop} {ks : List (Nat × Obj)} (h : Hv w W hb blk D L B G ks) (hb' : Below W.heap.size W W') : Hv w W' hb blk D L B G ks :=
  ⟨h.hst.quiet hb'.size (fun k hk => hb'.block k (h.hst.lt k hk)), Nat.le_trans h.bs hb'.size, h.wB, h.be.trans (hb'.mono (Nat.le_trans h.wB h.bs)), fun p hp => ⟨(hb'.block p.1 (ltB (h.ks p hp).1)).trans (h.ks p hp).1, (h.ks p hp).2⟩⟩
theorem Hv.fed {w W W' : World} {hb : Nat} {blk D D' : Int} {L L' : Ld} {B : Nat} {G G' : Nat → Prop} {ks : List (Nat × Obj)} (h : Hv w W hb blk D L B G ks) (hp : HstAt W' hb blk D' L' B G') (hk : Keep G W W') (hg : ∀ b, G' b → G b ∨ W.heap.size ≤ b) : Hv w W' hb blk D' L' B G' ks := by
  refine ⟨hp, Nat.le_trans h.bs hk.size, h.wB, h.be.trans (hk.below (Nat.le_trans h.wB h.bs) (fun k hk => Nat.le_trans h.wB (h.hst.lo k hk))), fun p hp => ?_⟩
  obtain ⟨h1, h2⟩ := h.ks p hp
  have hl := ltB h1
  refine ⟨(hk.block p.1 hl h2).trans h1, fun h3 => ?_⟩
  rcases hg p.1 h3 with h4 | h4
  · exact h2 h4
  · omega
theorem Hv.more {w W : World} {hb : Nat} {blk D : Int} {L : Ld} {B : Nat} {G : Nat → Prop} {ks : List (Nat × Obj)} (h : Hv w W hb blk D L B G ks) (o : Obj) : Hv w (W.alloc o) hb blk D L B G ((W.heap.size, o) :: ks) := by
  have h' := h.kept ((Below.refl _ W).alloc (Nat.le_refl _) o)
  refine ⟨h'.hst, h'.bs, h'.wB, h'.be, fun p hp => ?_⟩
  rcases List.mem_cons.1 hp with e | e
  · rw [e]
    refine ⟨heapNew _ _, fun hG => ?_⟩
    have := h.hst.lt _ hG
    omega
  · exact h'.ks p e
theorem Hv.drew {w W : World} {hb : Nat} {blk D : Int} {L : Ld} {B : Nat} {G : Nat → Prop} {ks : List (Nat × Obj)} (h : Hv w W hb blk D L B G ks) : Hv w W.drew hb blk D L B G ks := h.kept (Below.refl _ W).drew
theorem hv_lose {w W : World} {hb : Nat} {blk D : Int} {L : Ld} {B : Nat} {G : Nat → Prop} {ks : List (Nat × Obj)} (h : Hv w W hb blk D L B G ks) {W' : World} {L' : Ld} {G' : Nat → Prop} (h1 : HstAt W' hb blk L'.time L' B G') (h2 : Keep G W W') (h3 : ∀ b, G' b → G b ∨ W.heap.size ≤ b) : Hv w W' hb blk L'.time L' B G' ks := h.fed h1 h2 h3

/-- What holds behind quotaledgerkeep.fail. -/
def FailPost (w : World) (hb : Nat) (blk D : Int) (L : Ld) (B : Nat) (ks : List (Nat × Obj)) (bit : Bool) (e : Ending) (w' : World) : Prop := e = .returned (.bool true) ∧ ∃ D' L' G', Hv w w' hb blk D' L' B G' ks ∧ L'.ok ∧ if bit then Rec blk L L' ∧ D ≤ L'.time ∧ D' = L'.time else L' = L ∧ D' = D
def bitM (lose : Int) (i : Nat) : Bool := ((pickM lose 8).toNat >>> i) % 2 == 1
theorem callFuncLoseK (vs : Array Value) (w : World) : Sem.run Tryz.prog (callFunc 26 vs) w = .ok (.enter 26 vs) w := by simp [go_sem]

set_option maxRecDepth 100000 in
set_option maxHeartbeats 8000000 in
theorem fail24 (w W : World) (hb : Nat) (blk D : Int) (L : Ld) (B : Nat) (G : Nat → Prop) (ks : List (Nat × Obj)) (lose kept : Int) (i : Nat) (j : Int) (hi : (i = 0 ∧ j = 0) ∨ (i = 1 ∧ j = 1) ∨ (i = 2 ∧ j = 2)) (h : Hv w W hb blk D L B G ks) (l0 : -9223372036854775808 ≤ lose) (l1 : lose ≤ 9223372036854775807) :
    Calls Tryz.prog 24 #[.pointer (some ⟨hb, 0, none⟩), .int .i64 lose, .int .i64 j, .int .i64 kept] W fun e w' => FailPost w hb blk D L B ks (bitM lose i) e w' := by
  have hpk := pickM_ok lose 8 (by omega)
  have HP := hide (fun w => pick10 lose 8 w (by omega) (by omega) l0 l1)
  obtain ⟨bt, hbt⟩ : ∃ bt, bt = bitM lose i := ⟨_, rfl⟩
  rw [← hbt]
  unfold bitM at hbt
  obtain ⟨pk, hpke⟩ : ∃ pk, pk = pickM lose 8 := ⟨_, rfl⟩
  rw [← hpke] at HP hpk hbt
  have HV := hide h
  have hlok := h.hst.lok
  have HLOK := hide hlok
  clear h hpke hlok
  have hc : pk = 0 ∨ pk = 1 ∨ pk = 2 ∨ pk = 3 ∨ pk = 4 ∨ pk = 5 ∨ pk = 6 ∨ pk = 7 := by omega
  clear hpk
  have HN : bt = false → Hid (FailPost w hb blk D L B ks bt (.returned (.bool true)) W) := fun e => hide ⟨rfl, D, L, G, HV.out, HLOK.out, by rw [e]; exact ⟨rfl, rfl⟩⟩
  have HY : bt = true → Hid (∀ (wc : World), GoneAt W wc hb blk D L B G → Calls Tryz.prog 8 #[.pointer (some ⟨hb, 0, none⟩), .int .i64 (-1), .int .i64 (-1), .int .i64 0, .int .i64 0] wc fun e w' => e = .returned (.int .i64 0) ∧ FailPost w hb blk D L B ks bt (.returned (.bool true)) w') := fun e => hide (fun wc hg => (hst_open hb blk D L B G W wc hg HV.out.bs).mono (by
    rintro e' w' ⟨L', G', rfl, h1, h2, h3, h4⟩
    exact ⟨rfl, rfl, L'.time, L', G', HV.out.fed h1 h3 h4, h1.lok, by rw [e]; exact ⟨h2.1, h2.2, rfl⟩⟩))
  have HLO := hide (hst_lose hb blk D L B G kept 0 W HV.out.hst (by omega) (by omega))
  clear HLOK
  rcases hi with ⟨rfl, rfl⟩ | ⟨rfl, rfl⟩ | ⟨rfl, rfl⟩ <;> rcases hc with rfl | rfl | rfl | rfl | rfl | rfl | rfl | rfl
  all_goals (
    go_enter Tryz.func24, Tryz.ntmps24
    go_wp2_with fail
    refine (HP.out _).mono ?_
    rintro e w1 ⟨rfl, he1⟩
    rw [he1]
    clear he1
    first
    | (have HN1 := HN (by rw [hbt]; decide)
       clear HN HY HLO
       go_wp2_with fail
       go_ret
       exact HN1.out)
    | (have HY1 := HY (by rw [hbt]; decide)
       clear HN HY
       go_wp2_with fail
       refine HLO.out.mono ?_
       rintro e w2 ⟨rfl, hgone⟩
       have HG1 := hide hgone
       clear hgone
       go_wp2_with fail
       refine (HY1.out _ HG1.out).mono ?_
       rintro e w3 ⟨rfl, hpost⟩
       have HPO := hide hpost
       clear hpost
       go_wp2_with fail
       go_ret
       exact HPO.out))
/-- Requests come in at such a host. -/
theorem hv_feed (w W : World) (hb : Nat) (blk D : Int) (L L' : Ld) (B : Nat) (G : Nat → Prop) (ks : List (Nat × Obj)) (qs : List Rq) (rs : List Rp) (now : Int) (h : Hv w W hb blk D L B G ks) (hq : ∀ q ∈ qs, q.ok ∧ q.byt) (hql : qs.length ≤ 1000) (hn : 0 ≤ now ∧ now ≤ 18446744073709551615) (hf : feedM L ⟨[], false⟩ now (encQs qs) = (L', ⟨[], false⟩, rs)) (st st2 : ByteArray) (hst : st = strOfNums (encQs qs)) (hst2 : st2 = strOfNums (encs rs)) :
    Calls Tryz.prog 21 #[.pointer (some ⟨hb, 0, none⟩), .int .i64 0, .int .u64 now, .string st, .int .i64 (-1), .int .i64 (-1), .int .i64 0, .int .i64 0] W fun e w' => e = .returned (.tuple #[.string st2, .bool false]) ∧ ∃ G', Hv w w' hb blk (feedD D L ⟨[], false⟩ now (encQs qs)) L' B G' ks :=
  (hst_feed hb blk D L L' B G qs rs now W h.hst h.bs hq hql hn hf st st2 hst hst2).mono (by
    rintro e w' ⟨G', rfl, h1, h2, h3⟩
    exact ⟨rfl, G', h.fed h1 h2 h3⟩)
/-- Requests are written at such a host. -/
theorem hv_bytes (w Y : World) (hb : Nat) (blk D : Int) (L : Ld) (B : Nat) (G : Nat → Prop) (ks : List (Nat × Obj)) (qs : List Rq) (h : Hv w Y hb blk D L B G ks) (hq : ∀ q ∈ qs, q.ok) (hql : qs.length ≤ 1000) (st : ByteArray) (hst : st = strOfNums (encQs qs)) :
    Calls Tryz.prog 22 #[.slice (some ⟨Y.heap.size, 0, none⟩) qs.length qs.length] (Y.alloc (.cells (qs.flatMap rqcl).toArray 41)) fun e w' => e = .returned (.string st) ∧ Hv w w' hb blk D L B G ks := by
  refine (bytes9' Y.heap.size qs.length qs _ 41 (0, 0) (Nat.le_refl _) hql hq (heapNew _ _)).mono ?_
  rintro e w' ⟨rfl, h1⟩
  exact ⟨by rw [hst], (h.kept ((Below.refl _ Y).alloc (Nat.le_refl _) _)).kept h1⟩
/-- Replies are read at such a host. -/
theorem hv_replies (w Y : World) (hb : Nat) (blk D : Int) (L : Ld) (B : Nat) (G : Nat → Prop) (ks : List (Nat × Obj)) (rs : List Rp) (h : Hv w Y hb blk D L B G ks) (hok : ∀ r ∈ rs, r.told) (hlen : rs.length ≤ 1000) (h0 : 0 < w.heap.size) (hgl : w.cell? ⟨0, 0, none⟩ = some (.iface 236 (.agg #[.pointer (some ⟨5, 93, none⟩)]))) (st : ByteArray) (hst : st = strOfNums (encs rs)) :
    Calls Tryz.prog 25 #[.string st] Y fun e w' => ∃ v, e = .returned (.tuple #[v, .bool true]) ∧ w'.ownsRow Y.heap.size 51 3 v rs.length (rpcs rs) ∧ Below Y.heap.size Y w' ∧ Hv w w' hb blk D L B G ks := by
  refine (replies23 st rs Y (by rw [hst]; exact numsOf_str _ (encs_bytes _ hok)) hok hlen ((h.be.cell (p := ⟨0, 0, none⟩) h0).trans hgl)).mono ?_
  rintro e w' ⟨v, rfl, h1, h2⟩
  exact ⟨v, rfl, h1, h2, h.kept h2⟩
theorem polr_ok (kind x y : Int) (p : Int × Int × Int) (hp : p = polM kind x y) : soundM p.1 p.2.1 p.2.2 ∧ (0 ≤ p.2.1 ∧ p.2.1 ≤ 50) ∧ (0 ≤ p.2.2 ∧ p.2.2 ≤ 200) ∧ (p.1 = 1 ∨ p.1 = 2 ∧ 1 ≤ p.2.2) := by
  have r1 := pickM_ok x 50 (by omega)
  have r2 := pickM_ok y 200 (by omega)
  have r3 := pickM_ok x 20 (by omega)
  have r4 := pickM_ok y 100 (by omega)
  unfold polM at hp
  split at hp
  · subst hp
    exact ⟨Or.inr ⟨rfl, by show 1 ≤ 1 + pickM y 100; omega⟩, by dsimp only; omega, by dsimp only; omega, Or.inr ⟨rfl, by dsimp only; omega⟩⟩
  · subst hp
    exact ⟨Or.inl ⟨rfl, by show 1 ≤ 1 + pickM x 50; omega⟩, by dsimp only; omega, by dsimp only; omega, Or.inl rfl⟩
theorem qAdm_ok' (n : Int) (hn : 0 ≤ n ∧ n ≤ 18446744073709551615) : (qAdm n).ok ∧ (qAdm n).byt := ⟨⟨⟨by simp [qAdm, Rq.key], by simp [qAdm, Rq.key], by simp [qAdm, Rq.key], by simp [qAdm, Rq.key], by simp [qAdm, Rq.key], by simp [qAdm, Rq.key], by simp [qAdm, Rq.key], by simp [qAdm, Rq.key]⟩, by simp [qAdm], by simp [qAdm], hn⟩, ⟨by simp [qAdm], by simp [qAdm]⟩⟩
theorem qQk_ok' : qQk.ok ∧ qQk.byt := ⟨⟨⟨by simp [qQk, Rq.key], by simp [qQk, Rq.key], by simp [qQk, Rq.key], by simp [qQk, Rq.key], by simp [qQk, Rq.key], by simp [qQk, Rq.key], by simp [qQk, Rq.key], by simp [qQk, Rq.key]⟩, by simp [qQk], by simp [qQk], by simp [qQk]⟩, ⟨by simp [qQk], by simp [qQk]⟩⟩
theorem qDef_ok' (kd x y : Int) (hso : soundM kd x y) (hx : 0 ≤ x ∧ x ≤ 18446744073709551615) (hy : 0 ≤ y ∧ y ≤ 18446744073709551615) : (qDef kd x y).ok ∧ (qDef kd x y).byt := ⟨⟨⟨by simp [qDef, Rq.key], by simp [qDef, Rq.key], by simp [qDef, Rq.key], by simp [qDef, Rq.key], by simp [qDef, Rq.key], by simp [qDef, Rq.key], by simp [qDef, Rq.key], by simp [qDef, Rq.key]⟩, hx, hy, by simp [qDef]⟩, ⟨by simp [qDef], by rcases hso with h | h <;> simp [qDef, h.1]⟩⟩
end Go.Proofs.YtlcnkcgmjnfbiaaGreatDoor

namespace Go.Proofs.YtlcnkcgmjnfbiaaGreatDoor
open Go.RowKit Go.Maps
variable [dK] [iK]

def qDel : Rq := ⟨4, 107, 0, 0, 0, 0, 0, 0, 0, 0, 0, 0, 0⟩
theorem reads_del : Reads qDel := by
  intro t
  have e : Rq.enc qDel = [9, 4, 107, 0, 0, 0, 0, 0, 0, 0] := rfl
  have eE : rdErr (Rq.enc qDel ++ t) = 0 := by
    rw [e]; simp [rdErr, reqLen]; omega
  have eQ := rdQ_3 (Rq.enc qDel ++ t) eE (by rw [e]; exact Or.inr rfl)
  refine ⟨eE, ?_, ?_⟩
  · unfold rdN; rw [if_pos eE, e]; simp
  · rw [eQ, e]; rfl
theorem do_del (T A : Int) (z : Qt) : doM ⟨T, A, [(kK, z)]⟩ qDel = (⟨T, A, []⟩, ⟨1, 0, 0⟩) := by
  have hf : fnd qDel.key [(kK, z)] = some z := by simp [fnd, qDel, kK, Rq.key]
  have hd : del qDel.key [(kK, z)] = [] := by simp [del, qDel, kK, Rq.key]
  unfold doM
  rw [if_neg (by simp [qDel]), if_neg (by simp [qDel]), if_neg (by simp [qDel]), if_pos (by simp [qDel])]
  simp only [hf, hd]
theorem do_unk (T A : Int) : doM ⟨T, A, []⟩ qQk = (⟨T, A, []⟩, ⟨4, 0, 0⟩) := by
  unfold doM
  rw [if_neg (by simp [qQk]), if_neg (by simp [qQk]), if_pos (by simp [qQk])]
  simp only [fnd]
theorem do_new (T A kd x y : Int) (h : soundM kd x y) : doM ⟨T, A, []⟩ (qDef kd x y) = (⟨T, A, [(kK, ⟨kd, x, y, 0, 0⟩)]⟩, ⟨1, 0, 0⟩) := by
  unfold doM qDef
  rw [if_pos rfl, if_neg (by exact fun g => g h), if_neg (by simp [fnd]), if_neg (by simp)]
  rfl
theorem do_says (T A : Int) (z : Qt) : doM ⟨T, A, [(kK, z)]⟩ qQk = (⟨T, A, [(kK, z)]⟩, ⟨1, (turnM z T).lv, (turnM z T).wn⟩) := by
  have hf : fnd qQk.key [(kK, z)] = some z := by simp [fnd, qQk, kK, Rq.key]
  unfold doM
  rw [if_neg (by simp [qQk]), if_neg (by simp [qQk]), if_pos (by simp [qQk])]
  simp only [hf]
theorem del_reckon (T A at_ : Int) (z : Qt) : feedM ⟨T, A, [(kK, z)]⟩ ⟨[], false⟩ at_ (encQs [qDel]) = (⟨if T < at_ then at_ else T, A, []⟩, ⟨[], false⟩, [⟨1, 0, 0⟩]) := by
  have e : encQs [qDel] = qDel.enc ++ [] := by simp [encQs]
  have hp : passM ⟨T, A, [(kK, z)]⟩ at_ = ⟨if T < at_ then at_ else T, A, [(kK, z)]⟩ := rfl
  rw [feedM_good _ _ _ _ rfl, List.nil_append, e, hp, runL_enc _ qDel reads_del, do_del, runL_nil]
  rfl
theorem new_reckon (T A at_ kd x y : Int) (h : soundM kd x y) (hx : 0 ≤ x ∧ x ≤ 18446744073709551615) (hy : 0 ≤ y ∧ y ≤ 18446744073709551615) : feedM ⟨T, A, []⟩ ⟨[], false⟩ at_ (encQs [qQk, qDef kd x y]) = (⟨if T < at_ then at_ else T, A, [(kK, ⟨kd, x, y, 0, 0⟩)]⟩, ⟨[], false⟩, [⟨4, 0, 0⟩, ⟨1, 0, 0⟩]) := by
  have e : encQs [qQk, qDef kd x y] = qQk.enc ++ ((qDef kd x y).enc ++ []) := by simp [encQs]
  have hp : passM ⟨T, A, []⟩ at_ = ⟨if T < at_ then at_ else T, A, []⟩ := rfl
  rw [feedM_good _ _ _ _ rfl, List.nil_append, e, hp, runL_enc _ qQk (reads_qry 107), do_unk, runL_enc _ (qDef kd x y) (reads_def 107 kd x y hx hy), do_new _ _ kd x y h, runL_nil]
  rfl
theorem says_reckon (T A : Int) (z : Qt) (hT : 0 ≤ T) : feedM ⟨T, A, [(kK, z)]⟩ ⟨[], false⟩ 0 (encQs [qQk]) = (⟨T, A, [(kK, z)]⟩, ⟨[], false⟩, [⟨1, (turnM z T).lv, (turnM z T).wn⟩]) := by
  have e : encQs [qQk] = qQk.enc ++ [] := by simp [encQs]
  have hp : passM ⟨T, A, [(kK, z)]⟩ 0 = ⟨T, A, [(kK, z)]⟩ := by unfold passM; simp; omega
  rw [feedM_good _ _ _ _ rfl, List.nil_append, e, hp, runL_enc _ qQk (reads_qry 107), do_says, runL_nil]
  rfl
/-- How far on a key stands that is new, or was reserved anew. -/
theorem new_says {blk kd x y T : Int} {z : Qt} (h : Res blk ⟨kd, x, y, 0, 0⟩ z) (hb : 0 ≤ blk) : 0 ≤ (turnM z T).lv ∧ (turnM z T).lv ≤ blk := by
  have h1 := h.lo
  have h2 := h.up
  dsimp only at h1 h2
  unfold turnM
  split
  · omega
  · split
    · omega
    · dsimp only; omega
end Go.Proofs.YtlcnkcgmjnfbiaaGreatDoor

namespace Go.Proofs.YtlcnkcgmjnfbiaaGreatDoor
open Go.RowKit Go.Maps
variable [dK] [iK]

def qSnp : Rq := ⟨5, 0, 0, 0, 0, 0, 0, 0, 0, 0, 0, 0, 0⟩
theorem reads_snp : Reads qSnp := by
  intro t
  have e : Rq.enc qSnp = [1, 5] := rfl
  have eE : rdErr (Rq.enc qSnp ++ t) = 0 := by
    rw [e]; simp [rdErr, reqLen]; omega
  have eQ := rdQ_5 (Rq.enc qSnp ++ t) eE (by rw [e]; exact Or.inl rfl)
  refine ⟨eE, ?_, ?_⟩
  · unfold rdN; rw [if_pos eE, e]; simp
  · rw [eQ, e]; rfl
theorem do_snp (L : Ld) : doM L qSnp = (L, ⟨1, 0, 0⟩) := by
  unfold doM qSnp
  rw [if_neg (by simp), if_neg (by simp), if_neg (by simp), if_neg (by simp), if_neg (by simp)]
theorem doD_snp (D : Int) (L : Ld) : doD D L qSnp = L.time := by
  unfold doD
  rw [do_snp]
  simp [durB, oneB, qSnp]
theorem doD_qk (D : Int) (L : Ld) : doD D L qQk = D := by
  unfold doD
  simp [durB, qQk]
theorem doD_clk (D : Int) (L : Ld) : doD D L qClk = D := by
  unfold doD
  simp [durB, qClk]
/-- What is asked ahead of the failure, and behind it. -/
def qAll : List Rq := [qQk, qSnp, qQk, qClk]
theorem encQs_all : encQs qAll = qQk.enc ++ (qSnp.enc ++ (qQk.enc ++ (qClk.enc ++ []))) := by simp [encQs, qAll]
theorem pass0 (T A : Int) (z : Qt) (hT : 0 ≤ T) : passM ⟨T, A, [(kK, z)]⟩ 0 = ⟨T, A, [(kK, z)]⟩ := by unfold passM; simp; omega
theorem all_reckon (T A : Int) (z : Qt) (hT : 0 ≤ T) : feedM ⟨T, A, [(kK, z)]⟩ ⟨[], false⟩ 0 (encQs qAll) = (⟨T, A, [(kK, z)]⟩, ⟨[], false⟩, [⟨1, (turnM z T).lv, (turnM z T).wn⟩, ⟨1, 0, 0⟩, ⟨1, (turnM z T).lv, (turnM z T).wn⟩, ⟨1, T, 0⟩]) := by
  rw [feedM_good _ _ _ _ rfl, List.nil_append, encQs_all, pass0 T A z hT, runL_enc _ qQk (reads_qry 107), do_says, runL_enc _ qSnp reads_snp, do_snp, runL_enc _ qQk (reads_qry 107), do_says, runL_enc _ qClk reads_clk, do_clk, runL_nil]
  rfl
/-- Behind a snapshot the files have the ledger's time. -/
theorem all_time (D T A : Int) (z : Qt) (hT : 0 ≤ T) : feedD D ⟨T, A, [(kK, z)]⟩ ⟨[], false⟩ 0 (encQs qAll) = T := by
  unfold feedD
  rw [if_neg (by simp), List.nil_append, encQs_all, pass0 T A z hT, runDL_enc _ _ qQk (reads_qry 107), do_says, runDL_enc _ _ qSnp reads_snp, doD_snp, do_snp, runDL_enc _ _ qQk (reads_qry 107), doD_qk, do_says, runDL_enc _ _ qClk reads_clk, doD_clk, do_clk, runDL_nil]
theorem Res.zero {z z' : Qt} (h : Res 0 z z') : z' = z := by
  have h1 := h.lo
  have h2 := h.up
  have e : z'.lv = z.lv := by omega
  have hk := h.kd
  have hx := h.x
  have hy := h.y
  have hw := h.wn
  cases z
  cases z'
  simp only at e hk hx hy hw
  subst e hk hx hy hw
  rfl
/-- With no block, and a snapshot ahead of it, a failure turns nothing but the count. -/
theorem Rec.same {T A : Int} {z : Qt} {L' : Ld} (h : Rec 0 ⟨T, A, [(kK, z)]⟩ L') (hlok : L'.ok) (hd : T ≤ L'.time) : L' = ⟨T, 0, [(kK, z)]⟩ := by
  obtain ⟨T', z', rfl, h1, h2, h3⟩ := h.one hlok
  have e : T' = T := by
    have : T ≤ T' := hd
    omega
  rw [e, h3.zero]
end Go.Proofs.YtlcnkcgmjnfbiaaGreatDoor

namespace Go.Proofs.YtlcnkcgmjnfbiaaGreatDoor
open Go.RowKit Go.Maps
variable [dK] [iK]

/-- A demand. -/
structure Dm where
  now : Int
  n : Int
  lose : Int
  kept : Int
  part : Int
structure Dm.ok (d : Dm) : Prop where
  now : -9223372036854775808 ≤ d.now ∧ d.now ≤ 9223372036854775807
  n : -9223372036854775808 ≤ d.n ∧ d.n ≤ 9223372036854775807
  lose : -9223372036854775808 ≤ d.lose ∧ d.lose ≤ 9223372036854775807
  kept : -9223372036854775808 ≤ d.kept ∧ d.kept ≤ 9223372036854775807
  part : -9223372036854775808 ≤ d.part ∧ d.part ≤ 9223372036854775807
def dmc (d : Dm) : List Value := [.int .i64 d.now, .int .i64 d.n, .int .i64 d.lose, .int .i64 d.kept, .int .i64 d.part]
end Go.Proofs.YtlcnkcgmjnfbiaaGreatDoor

namespace Go.Proofs.YtlcnkcgmjnfbiaaGreatDoor
open Go.ChangeShapes Go.WideShapes Go.ChangeAt Go.RowKit Go.Joins
variable [dK] [iK]

theorem Tryz.cellsDm : Tryz.prog.cellsOf 76 = 5 := by kernel_rfl
theorem Tryz.cellsIn : Tryz.prog.cellsOf 3 = 1 := by kernel_rfl
theorem trod_struct5 {H : Type} {enc : TypeId × Value → H} {P : Program} {w : World} {base : Nat} {spare : Nat → Bool} {held : Bool} {t : TypeId} {f0 f1 f2 f3 f4 : Field} {fuel : Nat} {cs : List Value} {x : DataW H × List MemPlace} (ht : P.underlying t = some (.struct #[f0, f1, f2, f3, f4])) (h : DataW.trod enc P w base spare held fuel t cs = some x) :
    ∃ y0 y1 y2 y3 y4 n,
      DataW.trod enc P w base spare held n f0.type ((cs.drop f0.offset).take (P.cellsOf f0.type)) = some y0 ∧ DataW.trod enc P w base spare held n f1.type ((cs.drop f1.offset).take (P.cellsOf f1.type)) = some y1 ∧
      DataW.trod enc P w base spare held n f2.type ((cs.drop f2.offset).take (P.cellsOf f2.type)) = some y2 ∧ DataW.trod enc P w base spare held n f3.type ((cs.drop f3.offset).take (P.cellsOf f3.type)) = some y3 ∧
      DataW.trod enc P w base spare held n f4.type ((cs.drop f4.offset).take (P.cellsOf f4.type)) = some y4 := by
  obtain ⟨xs, n, _, rfl, _, hlen, hf⟩ := DataW.trod_struct ht h
  match xs, hlen with
  | [y0, y1, y2, y3, y4], _ => exact ⟨y0, y1, y2, y3, y4, n, by simpa using hf 0 f0 rfl, by simpa using hf 1 f1 rfl, by simpa using hf 2 f2 rfl, by simpa using hf 3 f3 rfl, by simpa using hf 4 f4 rfl⟩
theorem int_of {H : Type} {enc : TypeId × Value → H} {W : World} {base n : Nat} {spare : Nat → Bool} {held : Bool} {c : Value} {x : DataW H × List MemPlace} (h : DataW.trod enc Tryz.prog W base spare held n 3 [c] = some x) : ∃ a, c = .int .i64 a ∧ -9223372036854775808 ≤ a ∧ a ≤ 9223372036854775807 := by
  obtain ⟨a, e, _, wa⟩ := DataW.trod_int Tryz.underlying3 h
  have hb := bounds_i64 wa
  simp at e
  exact ⟨a, e, hb.1, by omega⟩
theorem list5 {cs : List Value} (h : cs.length = 5) : ∃ c0 c1 c2 c3 c4, cs = [c0, c1, c2, c3, c4] := by
  match cs, h with
  | [c0, c1, c2, c3, c4], _ => exact ⟨c0, c1, c2, c3, c4, rfl⟩

set_option maxRecDepth 100000 in
/-- The cells of a demand: its numbers. -/
theorem dm_of {H : Type} {enc : TypeId × Value → H} {W : World} {base fuel : Nat} {spare : Nat → Bool} {held : Bool} {cs : List Value} {x : DataW H × List MemPlace}
    (hl : cs.length = 5) (hf : DataW.trod enc Tryz.prog W base spare held fuel 76 cs = some x) : ∃ d : Dm, d.ok ∧ cs = dmc d := by
  obtain ⟨c0, c1, c2, c3, c4, rfl⟩ := list5 hl
  obtain ⟨y0, y1, y2, y3, y4, n, t0, t1, t2, t3, t4⟩ := trod_struct5 Tryz.underlying76 hf
  simp only [Tryz.cellsIn] at t0 t1 t2 t3 t4
  obtain ⟨a0, rfl, l0⟩ := int_of (c := c0) t0
  obtain ⟨a1, rfl, l1⟩ := int_of (c := c1) t1
  obtain ⟨a2, rfl, l2⟩ := int_of (c := c2) t2
  obtain ⟨a3, rfl, l3⟩ := int_of (c := c3) t3
  obtain ⟨a4, rfl, l4⟩ := int_of (c := c4) t4
  exact ⟨⟨a0, a1, a2, a3, a4⟩, ⟨l0, l1, l2, l3, l4⟩, rfl⟩

set_option maxRecDepth 100000 in
/-- A list of demands that comes in. -/
theorem open_dms {H : Type} {enc : TypeId × Value → H} {W : World} {r : Reach} {b0 base : Nat} {spare : Nat → Bool} {held : Bool} {v : Value} {d : DataW H} {p : List MemPlace}
    (hv : Value.okWide Tryz.prog W r b0 74 v) (h : DataW.Trod enc Tryz.prog W base spare held 74 v d p) :
    ∃ (ao : Option Addr) (n cap : Nat) (ds : List Dm), v = .slice ao n cap ∧ ds.length = n ∧ n ≤ cap ∧ n ≤ maxLen ∧ (∀ d ∈ ds, Dm.ok d) ∧ (0 < n → ∃ A o, ao = some ⟨A, o, none⟩ ∧ A < W.heap.size ∧ ∀ i (h : i < ds.length) j, j < 5 → W.cell? ⟨A, o + i * 5 + j, none⟩ = (dmc ds[i])[j]?) := by
  obtain ⟨a, len, cap, rfl⟩ := okWide_slice Tryz.underlying74 hv
  obtain ⟨fuel, hf⟩ := h
  have hf' : DataW.trod enc Tryz.prog W base spare held fuel 74 [.slice a len cap] = some (d, p) := by simpa [Value.cells] using hf
  rcases Deep.open_slice Tryz.underlying74 hf' with ⟨e, _⟩ | ⟨a', len', cap', m, n, D, Pl, e, hb, hlc, hcm, hm, _, hel⟩
  · simp at e
    obtain ⟨rfl, rfl, rfl⟩ := e
    exact ⟨none, 0, 0, [], rfl, rfl, by omega, by simp, fun q hq => (by cases hq), fun h => absurd h (by omega)⟩
  · simp at e
    obtain ⟨rfl, rfl, rfl⟩ := e
    have hlm : len ≤ m := by rw [hm]; split <;> omega
    rw [Tryz.cellsDm] at hel
    have each : ∀ i, i < len → ∃ q : Dm, q.ok ∧ W.cells? base (a'.add (i * 5)) 5 = some (dmc q) := by
      intro i hi
      obtain ⟨cs, h1, h2⟩ := hel i (by omega)
      obtain ⟨q, h3, rfl⟩ := dm_of (World.cells?_some h1).2.1 h2
      exact ⟨q, h3, h1⟩
    rcases Nat.eq_zero_or_pos len with h0 | hp
    · subst h0
      exact ⟨_, 0, cap, [], rfl, rfl, by omega, by simp, fun q hq => (by cases hq), fun h => absurd h (by omega)⟩
    · have hchoose : ∃ Q : Nat → Dm, ∀ i, i < len → (Q i).ok ∧ W.cells? base (a'.add (i * 5)) 5 = some (dmc (Q i)) := by
        refine ⟨fun i => if h : i < len then (each i h).choose else ⟨0, 0, 0, 0, 0⟩, fun i hi => ?_⟩
        dsimp only
        rw [dif_pos hi]
        exact (each i hi).choose_spec
      obtain ⟨Q, hQ⟩ := hchoose
      have hc : ∀ i, i < len → ∀ j, j < 5 → W.cell? ((a'.add (i * 5)).add j) = (dmc (Q i))[j]? := fun i hi j hj => (World.cells?_some (hQ i hi).2).2.2 j hj
      have hsp : a'.spot = none := by
        have := hc 0 hp 0 (by omega)
        exact World.cell?_spot (v := .int .i64 (Q 0).now) (by simpa [Addr.add, dmc] using this)
      obtain ⟨A, o, sp⟩ := a'
      simp at hsp
      subst hsp
      refine ⟨_, len, cap, (List.range len).map Q, rfl, by simp, hlc, by omega, fun q hq => ?_, fun _ => ⟨A, o, rfl, ?_, fun i hi j hj => ?_⟩⟩
      · obtain ⟨i, hi, rfl⟩ := List.mem_map.1 hq
        exact (hQ i (List.mem_range.1 hi)).1
      · exact World.cells?_block (hQ 0 hp).2 (by omega)
      · have hi' : i < len := by simpa using hi
        have := hc i hi' j hj
        rw [Deep.add_add, Addr.add_lit] at this
        rw [Nat.add_assoc, this]
        simp
end Go.Proofs.YtlcnkcgmjnfbiaaGreatDoor
