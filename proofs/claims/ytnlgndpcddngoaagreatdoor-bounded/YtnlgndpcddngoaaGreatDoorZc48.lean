import Derived.Test.YtnlgndpcddngoaaGreatDoorZc28
import Derived.Test.YtnlgndpcddngoaaGreatDoorZc47
import Derived.Test.YtnlgndpcddngoaaGreatDoorZc25
import Derived.Test.YtnlgndpcddngoaaGreatDoorZc46
set_option linter.unusedSectionVars false
namespace Go.Proofs.YtnlgndpcddngoaaGreatDoor
open Go.RowKit
variable [dK] [iK]

structure Rq.byt (q : Rq) : Prop where
  op : 0 ≤ q.op ∧ q.op ≤ 255
  kd : 0 ≤ q.kd ∧ q.kd ≤ 255
theorem enc_bytes (q : Rq) (h : q.ok) (hb : q.byt) : Bytes q.enc := by
  have hk := h.key
  have h0 := hk.h0; have h1 := hk.h1; have h2 := hk.h2; have h3 := hk.h3; have h4 := hk.h4; have h5 := hk.h5; have h6 := hk.h6; have h7 := hk.h7
  have hkd := hb.kd
  have hop := hb.op
  simp only [Rq.key] at h0 h1 h2 h3 h4 h5 h6 h7
  unfold Rq.enc encReq
  split
  · refine (Bytes.app ?_ (be8_bytes _)).app (be8_bytes _)
    intro x hx
    simp only [List.mem_cons, List.not_mem_nil, or_false] at hx
    omega
  · split
    · refine Bytes.app ?_ (be8_bytes _)
      intro x hx
      simp only [List.mem_cons, List.not_mem_nil, or_false] at hx
      omega
    · split
      · intro x hx
        simp only [List.mem_cons, List.not_mem_nil, or_false] at hx
        omega
      · split
        · intro x hx
          simp only [List.mem_cons, List.not_mem_nil, or_false] at hx
          omega
        · intro x hx
          simp at hx
theorem encQs_bytes (qs : List Rq) (h : ∀ q ∈ qs, q.ok ∧ q.byt) : Bytes (encQs qs) := by
  intro x hx
  obtain ⟨q, hq, hx⟩ := List.mem_flatMap.1 hx
  exact enc_bytes q (h q hq).1 (h q hq).2 x hx
abbrev rqcl (q : Rq) : List Value := [.int .u8 q.op, .int .u8 q.k0, .int .u8 q.k1, .int .u8 q.k2, .int .u8 q.k3, .int .u8 q.k4, .int .u8 q.k5, .int .u8 q.k6, .int .u8 q.k7, .int .u8 q.kd, .int .u64 q.x, .int .u64 q.y, .int .u64 q.n]
/-- keep's bytes over requests that lie one behind the other in a block. -/
theorem bytes9' (A cap : Nat) (qs : List Rq) (w : World) (t : TypeId) (fr : Nat × Nat) (hnc : qs.length ≤ cap) (hn1 : qs.length ≤ 1000) (hok : ∀ q ∈ qs, q.ok) (hA : w.heap[A]? = some (.cells (qs.flatMap rqcl).toArray t fr)) :
    Calls Tryz.prog 12 #[.slice (some ⟨A, 0, none⟩) qs.length cap] w fun e w' => e = .returned (.string (strOfNums (encQs qs))) ∧ Below w.heap.size w w' := by
  refine bytes9 A 0 qs.length cap qs w rfl hnc hn1 hok (ltB hA) (fun i h j => ?_)
  rcases Nat.lt_or_ge j 13 with hj | hj
  · left
    rw [cellB hA, Nat.zero_add]
    have hfl : ∀ (l : List Rq) (i : Nat) (h : i < l.length), (l.flatMap rqcl)[i * 13 + j]? = (rqcl l[i])[j]? := by
      intro l
      induction l with
      | nil => intro i h; simp at h
      | cons q r ih =>
        intro i h
        rw [List.flatMap_cons]
        cases i with
        | zero =>
          rw [Nat.zero_mul, Nat.zero_add, List.getElem?_append_left (by simpa using hj)]
          rfl
        | succ i =>
          rw [List.getElem?_append_right (by simp; omega)]
          have e : (i + 1) * 13 + j - (rqcl q).length = i * 13 + j := by simp; omega
          rw [e, ih i (by simpa using h)]
          rfl
    have := hfl qs i h
    simpa using this
  · right; exact hj

set_option maxRecDepth 100000 in
set_option maxHeartbeats 4000000 in
theorem opened8 (kd x y blk : Int) (w : World) (hso : soundM kd x y) (hx : 0 ≤ x ∧ x ≤ 18446744073709551615) (hy : 0 ≤ y ∧ y ≤ 18446744073709551615) (hblk : 0 ≤ blk ∧ blk ≤ 18446744073709551615) (hgl : w.cell? ⟨0, 0, none⟩ = some (.iface 236 (.agg #[.pointer (some ⟨5, 97, none⟩)]))) :
    Calls Tryz.prog 11 #[.agg #[.int .u8 kd, .int .u64 x, .int .u64 y], .int .u64 blk] w fun e w' => ∃ hb db nb sb mb F cv cb, e = .returned (.pointer (some ⟨hb, 0, none⟩)) ∧ HostAt w' hb db nb sb mb blk ⟨0, 0, [(kK, ⟨kd, x, y, 0, 0⟩)]⟩ F w.heap.size cv 3 cb (fun _ => ⟨[], false⟩) ∧ Below w.heap.size w w' := by
  obtain ⟨W0, hW0⟩ : ∃ W0, W0 = w.alloc (.cells #[.int .u8 kd, .int .u64 x, .int .u64 y] 30) := ⟨_, rfl⟩
  have hbx : W0.heap[w.heap.size]? = some (.cells #[.int .u8 kd, .int .u64 x, .int .u64 y] 30) := hW0 ▸ heapNew _ _
  have hB0 : Below w.heap.size w W0 := hW0 ▸ (Below.refl _ w).alloc (Nat.le_refl _) _
  have hs0 : W0.heap.size = w.heap.size + 1 := by rw [hW0]; simp
  have HOKS : Hid (∀ q ∈ [qDef kd x y, qQk, qQj], q.ok) := hide (fun q hq => by
    have z : (0 : Int) ≤ 0 ∧ (0 : Int) ≤ 18446744073709551615 := by omega
    simp only [List.mem_cons, List.not_mem_nil, or_false] at hq
    rcases hq with rfl | rfl | rfl
    · exact ⟨⟨by simp [qDef, Rq.key], by simp [qDef, Rq.key], by simp [qDef, Rq.key], by simp [qDef, Rq.key], by simp [qDef, Rq.key], by simp [qDef, Rq.key], by simp [qDef, Rq.key], by simp [qDef, Rq.key]⟩, hx, hy, z⟩
    · exact ⟨⟨by simp [qQk, Rq.key], by simp [qQk, Rq.key], by simp [qQk, Rq.key], by simp [qQk, Rq.key], by simp [qQk, Rq.key], by simp [qQk, Rq.key], by simp [qQk, Rq.key], by simp [qQk, Rq.key]⟩, z, z, z⟩
    · exact ⟨⟨by simp [qQj, Rq.key], by simp [qQj, Rq.key], by simp [qQj, Rq.key], by simp [qQj, Rq.key], by simp [qQj, Rq.key], by simp [qQj, Rq.key], by simp [qQj, Rq.key], by simp [qQj, Rq.key]⟩, z, z, z⟩)
  have HBYS : Hid (∀ q ∈ [qDef kd x y, qQk, qQj], q.byt) := hide (fun q hq => by
    simp only [List.mem_cons, List.not_mem_nil, or_false] at hq
    rcases hq with rfl | rfl | rfl
    · exact ⟨by simp [qDef], by rcases hso with h | h <;> simp [qDef, h.1]⟩
    · exact ⟨by simp [qQk], by simp [qQk]⟩
    · exact ⟨by simp [qQj], by simp [qQj]⟩)
  have hlt0 : 0 < w.heap.size := by
    rcases Nat.eq_zero_or_pos w.heap.size with h0 | h
    · simp [World.cell?, h0] at hgl
    · exact h
  have HGL := hide hgl
  have HS0 := hide hs0
  clear hgl hs0
  go_enter Tryz.func11, Tryz.ntmps11
  go_wp2_with fail
  rw [← hW0]
  clear hW0
  refine (newhost15 blk _).mono ?_
  rintro e w1 ⟨nb, rfl, h1, h2, h3, h4, h5, h6⟩
  obtain ⟨hb, ehb⟩ : ∃ hb, hb = W0.heap.size + 2 := ⟨_, rfl⟩
  obtain ⟨db, edb⟩ : ∃ db, db = W0.heap.size + 1 := ⟨_, rfl⟩
  obtain ⟨mb, emb⟩ : ∃ mb, mb = W0.heap.size := ⟨_, rfl⟩
  have hbx1 := (h6.block _ (ltB hbx)).trans hbx
  rw [← edb, ← emb] at h2
  rw [← ehb, ← edb] at h1
  rw [← emb] at h3
  have HB1 := hide (hB0.trans (h6.mono (Nat.le_of_lt (ltB hbx))))
  have HSZ : Hid (w.heap.size < mb ∧ mb < db ∧ db < hb ∧ hb < nb ∧ nb < w1.heap.size) := hide ⟨by have := HS0.out; omega, by omega, by omega, by omega, ltB h4⟩
  rw [← ehb]
  clear ehb edb emb h5 h6 hB0 hbx HS0
  go_wp2_with fail
  refine (hostopen16 hb db nb mb _ _ blk _ _ w1 hblk h1 h2 h3 h4 (by have := HSZ.out; omega)).mono ?_
  rintro e w2 ⟨sb, F0, rfl, i1, i2, i4, i6, i7, i5⟩
  have hz := HSZ.out
  have hbx2 := (i5.block w.heap.size (ltB hbx1) (by omega)).trans hbx1
  have HB2 : Hid (Below w.heap.size w w2) := hide (HB1.out.trans (i5.below (Nat.le_of_lt (ltB hbx1)) (fun k hk => by omega)))
  have H2 : HostAt w2 hb db nb sb (some mb) blk ⟨0, 0, []⟩ F0 w.heap.size (.slice none 0 0) 0 (fun _ => 0) (fun _ => ⟨[], false⟩) := by
    refine ⟨i2, i4.dskF, i4, fun i hi => absurd hi (Nat.not_lt_zero _), fun i j hi => absurd hi (Nat.not_lt_zero _), World.ownsRow_nil _ _ _ _, fun g hg hF => ?_, fun b hb' => ?_, fun _ _ => rfl⟩
    · rcases hg with h | h | h
      · exact i7 (h ▸ hF)
      · exact h
      · simp [Value.ownBlock] at h
    · rcases hb' with h | h | h | h | ⟨i, hi, h⟩
      · omega
      · omega
      · rcases i6 b h with h | h | h | h <;> omega
      · simp [Value.ownBlock] at h
      · omega
  have hsz2 := i5.size
  have HH2 := hide H2
  have a1 := cellB hbx2
  clear h1 h2 h3 h4 hbx1 HB1 i1 i2 i4 i5 i6 i7 H2 hz
  go_wp2_with fail
  obtain ⟨W, hW⟩ : ∃ W, W = w2.alloc (.cells (([qDef kd x y, qQk, qQj] : List Rq).flatMap rqcl).toArray 65) := ⟨_, rfl⟩
  have hWA : W.heap[w2.heap.size]? = some (.cells (([qDef kd x y, qQk, qQj] : List Rq).flatMap rqcl).toArray 65) := hW ▸ heapNew _ _
  have hWB : Below w2.heap.size w2 W := hW ▸ (Below.refl _ w2).alloc (Nat.le_refl _) _
  have h9 := bytes9' w2.heap.size 3 [qDef kd x y, qQk, qQj] W 65 (0, 0) (by simp) (by simp) HOKS.out hWA
  rw [hW] at h9
  refine h9.mono ?_
  rw [← hW]
  rintro e w3 ⟨rfl, hb3⟩
  have hk3 : ∀ k, k < w2.heap.size → w3.heap[k]? = w2.heap[k]? := fun k hk => (hb3.block k (Nat.lt_of_lt_of_le hk hWB.size)).trans (hWB.block k hk)
  have hs3 : w2.heap.size ≤ w3.heap.size := Nat.le_trans hWB.size hb3.size
  have H3 := HH2.out.kept hs3 hk3
  have hB3 : Below w.heap.size w w3 := HB2.out.trans ⟨hb3.os.trans hWB.os, hb3.tape.trans hWB.tape, hb3.output.trans hWB.output, hs3, fun k hk => hk3 k (Nat.lt_of_lt_of_le hk HB2.out.size)⟩
  obtain ⟨st, hst⟩ : ∃ st, st = strOfNums (encQs [qDef kd x y, qQk, qQj]) := ⟨_, rfl⟩
  have hnum : numsOf st = encQs [qDef kd x y, qQk, qQj] := by rw [hst]; exact numsOf_str _ (encQs_bytes _ (fun q hq => ⟨HOKS.out q hq, HBYS.out q hq⟩))
  have hfm : feedM ⟨0, 0, []⟩ ⟨[], false⟩ 0 (numsOf st) = (⟨0, 0, [(kK, ⟨kd, x, y, 0, 0⟩)]⟩, ⟨[], false⟩, [⟨1, 0, 0⟩, ⟨1, 0, 0⟩, ⟨4, 0, 0⟩]) := by rw [hnum]; exact opened_reckon kd x y hso hx hy
  have h11 := feed11 hb db nb sb (some mb) blk ⟨0, 0, []⟩ F0 w.heap.size (.slice none 0 0) 0 (fun _ => 0) (fun _ => ⟨[], false⟩) 0 0 st w3 H3 (by decide) hB3.size (fun _ _ => rfl) 0 (by decide) (by decide) (by decide) ⟨by simp, by simp, by simp, by simp, by simp, by simp⟩ (by decide) (by decide) (by intro b hb; simp at hb) (by rw [hnum]; have := encQs_len [qDef kd x y, qQk, qQj]; simp at this ⊢; omega)
  simp only [hfm] at h11
  have H11 := hide h11
  have HBW3 := hide hB3
  have HLO3 : Hid (∀ b, HG hb db F0 (.slice none 0 0) 0 (fun _ => 0) b → w.heap.size ≤ b) := hide H3.lo
  rw [← hst]
  clear hst hnum hfm h11 hB3 H3 hk3 hs3 h9 hW hWA hWB hb3
  go_wp2_with fail
  refine H11.out.mono ?_
  rintro e w4 ⟨F4, cv4, cb4, rfl, H4, hK4, hG4⟩
  have hB4 : Below w.heap.size w w4 := HBW3.out.trans (hK4.below HBW3.out.size HLO3.out)
  obtain ⟨st2, hst2⟩ : ∃ st2, st2 = strOfNums (encs [⟨1, 0, 0⟩, ⟨1, 0, 0⟩, ⟨4, 0, 0⟩]) := ⟨_, rfl⟩
  have htd : ∀ r ∈ ([⟨1, 0, 0⟩, ⟨1, 0, 0⟩, ⟨4, 0, 0⟩] : List Rp), r.told := fun r hr => by
    simp only [List.mem_cons, List.not_mem_nil, or_false] at hr
    rcases hr with rfl | rfl | rfl <;> exact ⟨by decide, by decide, by decide, by decide⟩
  have h23 := replies23 st2 [⟨1, 0, 0⟩, ⟨1, 0, 0⟩, ⟨4, 0, 0⟩] w4 (by rw [hst2]; exact numsOf_str _ (encs_bytes _ htd)) htd (by simp) ((hB4.cell (p := ⟨0, 0, none⟩) hlt0).trans HGL.out)
  have H23 := hide h23
  rw [← hst2]
  have HB4 := hide hB4
  have HH4 := hide H4
  have HG4 := hide hG4
  clear hst2 h23 hB4 H4 hK4 hG4 H11 HLO3 htd
  go_wp2_with fail
  refine H23.out.mono ?_
  rintro e w5 ⟨lv, rfl, hown5, hb5⟩
  obtain ⟨g, gc, rfl, _, hg5⟩ := hown5.form (by decide)
  have k0 := hown5.cellAt 0 (by simp)
  have k1 := hown5.cellAt 1 (by simp)
  have k2 := hown5.cellAt 2 (by simp)
  have k3 := hown5.cellAt 3 (by simp)
  have k4 := hown5.cellAt 4 (by simp)
  have k5 := hown5.cellAt 5 (by simp)
  have k6 := hown5.cellAt 6 (by simp)
  simp [rpcs, rpc] at k0 k1 k2 k3 k4 k5 k6
  clear hown5 H23
  go_wp2_with fail
  go_ret
  have hce : (fun j : Nat => if j = 0 then (⟨[], false⟩ : Cn) else ⟨[], false⟩) = fun _ => ⟨[], false⟩ := by
    funext j
    split <;> rfl
  have H4 := HH4.out
  rw [hce] at H4
  exact ⟨hb, db, nb, sb, some mb, F4, cv4, cb4, rfl, H4.kept hb5.size (fun k hk => hb5.block k hk), HB4.out.trans (hb5.mono HB4.out.size)⟩
end Go.Proofs.YtnlgndpcddngoaaGreatDoor

namespace Go.Proofs.YtnlgndpcddngoaaGreatDoor
open Go.RowKit Go.Maps
variable [dK] [iK]

/-- A host with one key, which stands so; its blocks are those of G. -/
def PlyAt (w : World) (hb : Nat) (blk T : Int) (z : Qt) (B : Nat) (G : Nat → Prop) : Prop := ∃ db nb sb mb A F cv m cb, m ≤ 3 ∧ HostAt w hb db nb sb mb blk ⟨T, A, [(kK, z)]⟩ F B cv m cb (fun _ => ⟨[], false⟩) ∧ 0 ≤ A ∧ A ≤ 18446744073709551615 ∧ G = HG hb db F cv m cb
theorem PlyAt.quiet {w w' : World} {hb : Nat} {blk T : Int} {z : Qt} {B : Nat} {G : Nat → Prop} (h : PlyAt w hb blk T z B G) (hs : w.heap.size ≤ w'.heap.size) (hk : ∀ k, G k → w'.heap[k]? = w.heap[k]?) : PlyAt w' hb blk T z B G := by
  obtain ⟨db, nb, sb, mb, A, F, cv, m, cb, hm, H, h1, h2, rfl⟩ := h
  exact ⟨db, nb, sb, mb, A, F, cv, m, cb, hm, H.quiet (fun _ => rfl) hs hk, h1, h2, rfl⟩
theorem PlyAt.lt {w : World} {hb : Nat} {blk T : Int} {z : Qt} {B : Nat} {G : Nat → Prop} (h : PlyAt w hb blk T z B G) (b : Nat) (hb' : G b) : b < w.heap.size := by
  obtain ⟨db, nb, sb, mb, A, F, cv, m, cb, hm, H, h1, h2, rfl⟩ := h
  exact H.lt b hb'
theorem PlyAt.lo {w : World} {hb : Nat} {blk T : Int} {z : Qt} {B : Nat} {G : Nat → Prop} (h : PlyAt w hb blk T z B G) (b : Nat) (hb' : G b) : B ≤ b := by
  obtain ⟨db, nb, sb, mb, A, F, cv, m, cb, hm, H, h1, h2, rfl⟩ := h
  exact H.lo b hb'
theorem qAdm_ok (n : Int) (hn : 0 ≤ n ∧ n ≤ 18446744073709551615) : (qAdm n).ok ∧ (qAdm n).byt := ⟨⟨⟨by simp [qAdm, Rq.key], by simp [qAdm, Rq.key], by simp [qAdm, Rq.key], by simp [qAdm, Rq.key], by simp [qAdm, Rq.key], by simp [qAdm, Rq.key], by simp [qAdm, Rq.key], by simp [qAdm, Rq.key]⟩, by simp [qAdm], by simp [qAdm], hn⟩, ⟨by simp [qAdm], by simp [qAdm]⟩⟩
theorem qClk_ok : qClk.ok ∧ qClk.byt := ⟨⟨⟨by simp [qClk, Rq.key], by simp [qClk, Rq.key], by simp [qClk, Rq.key], by simp [qClk, Rq.key], by simp [qClk, Rq.key], by simp [qClk, Rq.key], by simp [qClk, Rq.key], by simp [qClk, Rq.key]⟩, by simp [qClk], by simp [qClk], by simp [qClk]⟩, ⟨by simp [qClk], by simp [qClk]⟩⟩
theorem qPair_ok (n : Int) (hn : 0 ≤ n ∧ n ≤ 18446744073709551615) : ∀ q ∈ [qAdm n, qClk], q.ok ∧ q.byt := fun q hq => by
  rcases List.mem_cons.1 hq with h | h
  · rw [h]; exact qAdm_ok n hn
  · rw [List.mem_singleton.1 h]; exact qClk_ok
theorem kK_ok' : kK.ok := ⟨by simp [kK], by simp [kK], by simp [kK], by simp [kK], by simp [kK], by simp [kK], by simp [kK], by simp [kK]⟩
theorem ply_feed (hb : Nat) (blk T : Int) (z : Qt) (B : Nat) (G : Nat → Prop) (n at_ : Int) (w : World) (H : PlyAt w hb blk T z B G) (hB : B ≤ w.heap.size) (hz : z.ok) (hT : 0 ≤ T ∧ T ≤ 18446744073709551615) (hn : 0 ≤ n ∧ n ≤ 18446744073709551615) (ha : 0 ≤ at_ ∧ at_ ≤ 18446744073709551615)
    (T' : Int) (z' : Qt) (r : Rp) (hT' : T' = if T < at_ then at_ else T) (hr : admM z T' n = (z', r)) (st st2 : ByteArray) (hst : st = strOfNums (encQs [qAdm n, qClk])) (hst2 : st2 = strOfNums (encs [r, ⟨1, T', 0⟩])) :
    Calls Tryz.prog 14 #[.pointer (some ⟨hb, 0, none⟩), .int .i64 0, .int .u64 at_, .string st, .int .i64 (-1), .int .i64 (-1), .int .i64 0, .int .i64 0] w fun e w' => ∃ G', e = .returned (.tuple #[.string st2, .bool false]) ∧ PlyAt w' hb blk T' z' B G' ∧ Keep G w w' ∧ ∀ b, G' b → G b ∨ w.heap.size ≤ b := by
  obtain ⟨db, nb, sb, mb, A, F, cv, m, cb, hm, H, h1, h2, rfl⟩ := H
  have hnum : numsOf st = encQs [qAdm n, qClk] := by rw [hst]; exact numsOf_str _ (encQs_bytes _ (qPair_ok n hn))
  have hfm : feedM ⟨T, A, [(kK, z)]⟩ ⟨[], false⟩ at_ (numsOf st) = (⟨T', if r.c = 2 then (A + n) % 18446744073709551616 else A, [(kK, z')]⟩, ⟨[], false⟩, [r, ⟨1, T', 0⟩]) := by rw [hnum, play_reckon T A at_ n z hn, ← hT', hr]
  have h11 := feed11 hb db nb sb mb blk ⟨T, A, [(kK, z)]⟩ F B cv m cb (fun _ => ⟨[], false⟩) 0 at_ st w H hm hB (fun _ _ => rfl) 0 (by decide) (by decide) (by decide) ⟨hT, ⟨h1, h2⟩, fun p hp => by simp at hp; rw [hp]; exact kK_ok', fun p hp => by simp at hp; rw [hp]; exact hz, by simp, by simp⟩ ha.1 ha.2 (by intro b hb; simp at hb) (by rw [hnum]; have := encQs_len [qAdm n, qClk]; simp at this ⊢; omega)
  simp only [hfm] at h11
  rw [← hst2] at h11
  refine h11.mono ?_
  rintro e w' ⟨F', cv', cb', rfl, H', hk, hg⟩
  have hce : (fun j : Nat => if j = 0 then (⟨[], false⟩ : Cn) else ⟨[], false⟩) = fun _ => ⟨[], false⟩ := by
    funext j
    split <;> rfl
  rw [hce] at H'
  refine ⟨_, rfl, ⟨db, nb, sb, mb, _, F', cv', 3, cb', Nat.le_refl _, H', ?_, ?_, rfl⟩, hk, hg⟩ <;> (split <;> omega)

/-- The host lost its ledger: w0 is the memory ahead of it. -/
def LostAt (w0 w : World) (hb : Nat) (blk T : Int) (z : Qt) (B : Nat) (G : Nat → Prop) : Prop := ∃ db nb0 sb mb0 A F cv m cb, HostAt w0 hb db nb0 sb mb0 blk ⟨T, A, [(kK, z)]⟩ F B cv m cb (fun _ => ⟨[], false⟩) ∧ G = HG hb db F cv m cb ∧ ∃ (c0 : Led) (mb nb : Nat), c0.ok ∧ c0.ld = ⟨T, A, [(kK, z)]⟩ ∧ c0.blk = blk ∧ w.heap[hb]? = some (.cells #[.pointer (some ⟨db, 0, none⟩), .pointer none, cv, .int .u64 blk] 82) ∧ w.heap[db]? = some (.cells #[.map (some mb), .map (some nb), .slice none 0 0, .int .i64 (-1), .int .i64 (-1), .bool false] 88) ∧ DirAt w mb c0.fsD ∧ DirAt w nb c0.fsD ∧ mb ≠ nb ∧ F mb ∧ w0.heap.size ≤ nb ∧ (∀ p ∈ c0.fsD, F p.2.1) ∧ Keep (fun b => b = hb ∨ b = db) w0 w
theorem ply_lose (hb : Nat) (blk T : Int) (z : Qt) (B : Nat) (G : Nat → Prop) (kept part : Int) (w : World) (H : PlyAt w hb blk T z B G) (p0 : -9223372036854775808 ≤ part) (p1 : part ≤ 9223372036854775807) :
    Calls Tryz.prog 25 #[.pointer (some ⟨hb, 0, none⟩), .int .i64 kept, .int .i64 part] w fun e w' => e = .returned (.tuple #[]) ∧ LostAt w w' hb blk T z B G := by
  obtain ⟨db, nb, sb, mb, A, F, cv, m, cb, hm, H, h1, h2, rfl⟩ := H
  refine (lose25 hb db nb sb mb blk _ F B cv m cb _ kept part w H p0 p1).mono ?_
  rintro e w' ⟨rfl, h⟩
  exact ⟨rfl, db, nb, sb, mb, A, F, cv, m, cb, H, rfl, h⟩
theorem LostAt.drew {w0 w : World} {hb : Nat} {blk T : Int} {z : Qt} {B : Nat} {G : Nat → Prop} (h : LostAt w0 w hb blk T z B G) : LostAt w0 w.drew hb blk T z B G := by
  obtain ⟨db, nb0, sb, mb0, A, F, cv, m, cb, H, hG, c0, mb, nb, h1, h2, h3, h4, h5, h6, h7, h8, h9, h10, h11, h12⟩ := h
  exact ⟨db, nb0, sb, mb0, A, F, cv, m, cb, H, hG, c0, mb, nb, h1, h2, h3, h4, h5, h6.kept rfl (fun _ _ => rfl), h7.kept rfl (fun _ _ => rfl), h8, h9, h10, h11, h12.drew⟩
theorem ply_open (hb : Nat) (blk T : Int) (z : Qt) (B : Nat) (G : Nat → Prop) (kd x y : Int) (l : Lt) (w0 w : World) (H : LostAt w0 w hb blk T z B G) (hB : B ≤ w0.heap.size) (hbd : Bnd kd x y l T z) (hblk : 0 ≤ blk) :
    Calls Tryz.prog 20 #[.pointer (some ⟨hb, 0, none⟩), .int .i64 (-1), .int .i64 (-1), .int .i64 0, .int .i64 0] w fun e w' => ∃ T' z' G', e = .returned (.int .i64 0) ∧ PlyAt w' hb blk T' z' B G' ∧ 0 ≤ T' ∧ T' ≤ T ∧ Bnd kd x y l T' z' ∧ Keep G w0 w' ∧ ∀ b, G' b → G b ∨ w0.heap.size ≤ b := by
  obtain ⟨db, nb0, sb, mb0, A, F, cv, m, cb, H, rfl, c0, mb, nb, h1, h2, h3, h4, h5, h6, h7, h8, h9, h10, h11, h12⟩ := H
  refine (hostopen16f hb db nb mb _ _ blk _ _ c0 w h1 h3 h4 h5 h6 h7 h8).mono ?_
  rintro e w' ⟨sb', L', F', rfl, hsb, hh', hS, hRec, hF', hFh, hK⟩
  obtain ⟨H', hk', hg'⟩ := H.again hB h9 h10 h11 h12 hh' hS hF' hFh hK
  have hlok := hS.lok
  rw [h2] at hRec
  obtain ⟨h, e1, e2, e3⟩ := hRec.some_ kK z (by simp [fnd])
  have hks := one_key hlok e1 (fun k hk => hRec.none_ k (by simp [fnd]; exact fun e => hk e.symm))
  have eL : L' = ⟨L'.time, 0, [(kK, h)]⟩ := by
    have ha := hRec.adm
    cases L'
    simp only at hks ha
    rw [hks, ha]
  have ht := hlok.time
  have ht2 := hRec.time
  have e3' := hbd.lose e2 e3 hblk
  rw [eL] at H'
  exact ⟨L'.time, h, _, rfl, ⟨db, nb0, sb', mb0, 0, F', _, 0, _, by omega, H', by decide, by decide, rfl⟩, ht.1, ht2, e3', hk', hg'⟩

def ltc (p : Int × Int) : List Value := [.int .u64 p.1, .int .u64 p.2]
def ltcs (l : Lt) : List Value := l.flatMap ltc
theorem ltcs_get : ∀ (l : Lt) (i : Nat) (h : i < l.length), (ltcs l)[i * 2]? = some (.int .u64 l[i].1) ∧ (ltcs l)[i * 2 + 1]? = some (.int .u64 l[i].2)
  | p :: r, 0, _ => ⟨rfl, rfl⟩
  | p :: r, i + 1, h => by
    have := ltcs_get r i (by simpa using h)
    have e : (i + 1) * 2 = i * 2 + 1 + 1 := by omega
    rw [e]
    exact this
/-- How memory stands between the demands. -/
structure Pl (w wr : World) (hb : Nat) (blk : Int) (B : Nat) (v : Value) (l : Lt) (T : Int) (z : Qt) (G : Nat → Prop) : Prop where
  own : wr.ownsRow B 49 2 v l.length (ltcs l)
  ply : PlyAt wr hb blk T z B G
  bs : B ≤ wr.heap.size
  wB : w.heap.size ≤ B
  be : Below w.heap.size w wr
  dis : ∀ g, v.ownBlock = some g → ¬ G g
theorem Pl.kept {w wr w' : World} {hb : Nat} {blk : Int} {B : Nat} {v : Value} {l : Lt} {T : Int} {z : Qt} {G : Nat → Prop} (h : Pl w wr hb blk B v l T z G) (hb' : Below wr.heap.size wr w') : Pl w w' hb blk B v l T z G :=
  ⟨own_keptE h.own (fun g hg => hb'.block g (own_ltE h.own hg).2), h.ply.quiet hb'.size (fun k hk => hb'.block k (h.ply.lt k hk)), Nat.le_trans h.bs hb'.size, h.wB, h.be.trans (hb'.mono (Nat.le_trans h.wB h.bs)), h.dis⟩
theorem Pl.fed {w wr w' : World} {hb : Nat} {blk : Int} {B : Nat} {v : Value} {l : Lt} {T T' : Int} {z z' : Qt} {G G' : Nat → Prop} (h : Pl w wr hb blk B v l T z G) (hp : PlyAt w' hb blk T' z' B G') (hk : Keep G wr w') (hg : ∀ b, G' b → G b ∨ wr.heap.size ≤ b) : Pl w w' hb blk B v l T' z' G' := by
  refine ⟨own_keptE h.own (fun g hg => hk.block g (own_ltE h.own hg).2 (h.dis g hg)), hp, Nat.le_trans h.bs hk.size, h.wB, h.be.trans (hk.below (Nat.le_trans h.wB h.bs) (fun k hk => Nat.le_trans h.wB (h.ply.lo k hk))), fun g e e' => ?_⟩
  rcases hg g e' with h' | h'
  · exact h.dis g e h'
  · have := (own_ltE h.own e).2
    omega
theorem Pl.app {w wr w' : World} {hb : Nat} {blk : Int} {B : Nat} {v v' : Value} {l : Lt} {T a n : Int} {z : Qt} {G : Nat → Prop} (h : Pl w wr hb blk B v l T z G) (ho : w'.ownsRow B 49 2 v' (l.length + 1) (ltcs l ++ ltc (a, n))) (hg : wr.grownBy w' v.ownBlock) (hl : v'.ownBlock = v.ownBlock ∨ v'.ownBlock = some wr.heap.size) : Pl w w' hb blk B v' (l ++ [(a, n)]) T z G := by
  have e : ltcs (l ++ [(a, n)]) = ltcs l ++ ltc (a, n) := by unfold ltcs; rw [List.flatMap_append]; simp
  have hwB := h.wB
  have hbs := h.bs
  refine ⟨by rw [e, List.length_append]; exact ho, h.ply.quiet hg.size (fun k hk => hg.block k (h.ply.lt k hk) (fun e => h.dis k e.symm hk)), Nat.le_trans h.bs hg.size, h.wB, ⟨hg.os.trans h.be.os, hg.tape.trans h.be.tape, hg.output.trans h.be.output, Nat.le_trans h.be.size hg.size, fun k hk => (hg.block k (by omega) (fun e => by have := (own_ltE h.own e.symm).1; omega)).trans (h.be.block k hk)⟩, fun g e' hG => ?_⟩
  rcases hl with h' | h'
  · exact h.dis g (h' ▸ e') hG
  · rw [h'] at e'
    cases e'
    have := h.ply.lt _ hG
    omega
end Go.Proofs.YtnlgndpcddngoaaGreatDoor
