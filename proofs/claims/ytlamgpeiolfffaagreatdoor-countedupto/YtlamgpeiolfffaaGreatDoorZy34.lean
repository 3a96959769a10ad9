import Derived.Test.YtlamgpeiolfffaaGreatDoorZy26
import Derived.Test.YtlamgpeiolfffaaGreatDoorZy32
import Derived.Test.YtlamgpeiolfffaaGreatDoorZy02
import Derived.Lib.SmallJoins
import Derived.Deep.Slices
set_option linter.unusedSectionVars false
namespace Go.Proofs.YtlamgpeiolfffaaGreatDoor
open Go.RowKit
variable [dK] [iK]

theorem Tryz.info40 : (Tryz.prog.info? 40).map (fun i => (i.zero, i.size, i.bytes)) = some (some (.agg #[.int .u8 0, .int .u64 0, .int .u64 0]), 3, 24) := by kernel_rfl
def rpc (r : Rp) : List Value := [.int .u8 r.c, .int .u64 r.a, .int .u64 r.b]
def rpcs (rs : List Rp) : List Value := rs.flatMap rpc
structure Rp.told (r : Rp) : Prop where
  c1 : 1 ≤ r.c
  c9 : r.c ≤ 9
  a : 0 ≤ r.a ∧ r.a ≤ 18446744073709551615
  b : 0 ≤ r.b ∧ r.b ≤ 18446744073709551615
theorem encs_bytes (rs : List Rp) (h : ∀ r ∈ rs, r.told) : Bytes (encs rs) := by
  intro x hx
  unfold encs at hx
  obtain ⟨r, hr, hx⟩ := List.mem_flatMap.1 hx
  have ht := h r hr
  have hb : ∀ (v : Int) x, x ∈ be8 v → 0 ≤ x ∧ x ≤ 255 := by
    intro v x hx
    simp only [be8, List.mem_cons, List.not_mem_nil, or_false] at hx
    rcases hx with rfl | rfl | rfl | rfl | rfl | rfl | rfl | rfl <;> exact nb_range v _
  simp only [encRep, List.mem_append, List.mem_cons, List.not_mem_nil, or_false] at hx
  have := ht.c1
  have := ht.c9
  rcases hx with (hx | hx) | hx
  · omega
  · exact hb _ _ hx
  · exact hb _ _ hx

set_option maxRecDepth 100000 in
set_option maxHeartbeats 4000000 in
theorem replies23 (s : ByteArray) (rs : List Rp) (w : World) (hs : numsOf s = encs rs) (hok : ∀ r ∈ rs, r.told) (hlen : rs.length ≤ 1000) (hgl : w.cell? ⟨0, 0, none⟩ = some (.iface 201 (.agg #[.pointer (some ⟨1, 88, none⟩)]))) :
    Calls Tryz.prog 23 #[.string s] w fun e w' => ∃ v, e = .returned (.tuple #[v, .bool true]) ∧ w'.ownsRow w.heap.size 40 3 v rs.length (rpcs rs) ∧ Below w.heap.size w w' := by
  have hbs := fun (w : World) (s : ByteArray) => run_bytes_of_string (P := Tryz.prog) w 9 69 5 s Tryz.underlying9 Tryz.underlying69 Tryz.underlying5
  obtain ⟨i0, hi, hz0, hz1, hz2⟩ := info_parts Tryz.info40
  have hlt0 : 0 < w.heap.size := by
    rcases Nat.eq_zero_or_pos w.heap.size with h0 | h
    · simp [World.cell?, h0] at hgl
    · exact h
  have HG := hide hgl
  have HS := hide hs
  have HOK := hide hok
  clear hgl hs hok
  go_enter Tryz.func23, Tryz.ntmps23
  go_wp2
  have hcap := grownCap_ge w s.size 0 5
  go_loopw [4, 5, 6, 7, 8] (fun s4 s5 _ _ _ wr => ∃ i : Nat, i ≤ rs.length ∧ Sl wr s5 (encs (rs.drop i)) ∧ wr.ownsRow w.heap.size 40 3 s4 i (rpcs (rs.take i)) ∧ Below w.heap.size w wr ∧ (∀ g o n c, s5 = .slice (some ⟨g, o, none⟩) n c → g < wr.heap.size ∧ s4.ownBlock ≠ some g)) (fun _ s5 _ _ _ _ => sliceLen s5)
  case atStart =>
    refine ⟨0, Nat.zero_le _, ?_, World.ownsRow_nil _ _ _ _, ((Below.refl _ w).alloc (Nat.le_refl _) _).drew, fun g o n c h => ⟨?_, by simp [Value.ownBlock]⟩⟩
    · rw [List.drop_zero, ← HS.out]
      exact Sl.of_bytes w s _ (by simpa using hcap)
    · injection h with h1 _ _; injection h1 with h1; injection h1 with h1 _; subst h1; simp
  case round =>
    obtain ⟨i, hi', hsl, hown, hb, hg4⟩ := hrel
    have hwr := hb.size
    by_cases hlt : i < rs.length
    · obtain ⟨r, hr⟩ : ∃ r, r = rs[i] := ⟨_, rfl⟩
      have htold : r.told := hr ▸ HOK.out _ (List.getElem_mem hlt)
      have hdr : encs (rs.drop i) = encRep r.c r.a r.b ++ encs (rs.drop (i + 1)) := by
        rw [List.drop_eq_getElem_cons hlt, ← hr]; rfl
      obtain ⟨bk1, bk2, bk3⟩ := rp_back r htold.c1 htold.c9 htold.a htold.b (encs (rs.drop (i + 1)))
      rw [← hdr] at bk1 bk2 bk3
      have hle : (encs (rs.drop i)).length = 18 + (encs (rs.drop (i + 1))).length := by rw [hdr, List.length_append]; rfl
      have hle2 : (encs (rs.drop i)).length ≤ 18000 := by rw [encs_length, List.length_drop]; omega
      have hbt : Bytes (encs (rs.drop i)) := encs_bytes _ (fun x hx => HOK.out x (List.mem_of_mem_drop hx))
      rcases hsl with ⟨hnil, _⟩ | ⟨hp, g, o, c, hv, hc, hg, hcell⟩
      · rw [hnil] at hle; simp at hle; omega
      subst hv
      have hg4' := hg4 g o _ c rfl
      have hsrc : Src wr (.slice (some ⟨g, o, none⟩) (encs (rs.drop i)).length c) (encs (rs.drop i)) := Sl.src (Or.inr ⟨hp, g, o, c, rfl, hc, hg, hcell⟩)
      have h39 := read17 _ (encs (rs.drop i)) wr hsrc (by omega) hbt.getD r bk3.symm 18 0 bk2.symm bk1.symm ((hb.cell (p := ⟨0, 0, none⟩) hlt0).trans HG.out)
      obtain ⟨n, hn⟩ : ∃ n, n = (encs (rs.drop i)).length := ⟨_, rfl⟩
      rw [← hn] at h39 hle hle2 hp hc ⊢
      have HN := hide hn
      have HD := hide hdr
      have HR := hide hr
      have HCE := hide hcell
      have hn18 : 18 ≤ n := by omega
      have hn18' : (18 : Int) ≤ (n : Int) := by omega
      have hnpos : 0 < n := by omega
      have hnposI : (0 : Int) < (n : Int) := by omega
      have H39 := hide h39
      have HLE := hide hle
      have hn2 : (n : Int) ≤ 18000 := by omega
      clear hle hle2
      have HO := hide hown
      have HSR := hide hsrc
      clear hn hdr hr bk1 bk2 bk3 hbt h39 hown hsrc hg4 hcell
      go_wp2_with fail
      refine H39.out.mono ?_
      rintro e w2 ⟨rfl, hb2⟩
      have hs2 := hb2.size
      clear hbs
      obtain ⟨W, hW⟩ : ∃ W, W = (w2.alloc (.cells #[.int .u8 r.c, .int .u64 r.a, .int .u64 r.b] 40)).alloc (.cells #[.int .u8 r.c, .int .u64 r.a, .int .u64 r.b] 40) := ⟨_, rfl⟩
      have hWk : ∀ z, z < w2.heap.size → W.heap[z]? = w2.heap[z]? := fun z hz => by rw [hW, heapOld _ _ (by simp; omega), heapOld _ _ hz]
      have hWs : W.heap.size = w2.heap.size + 2 := by rw [hW]; simp
      have HOW : Hid (W.ownsRow w.heap.size 40 3 u4 i (rpcs (rs.take i))) := hide (own_keptE HO.out (fun z hz => (hWk z (Nat.lt_of_lt_of_le (own_ltE HO.out hz).2 hs2)).trans (hb2.block z (own_ltE HO.out hz).2)))
      have HCL : Hid (∀ j u, (rpc r)[j]? = some u → W.cell? ((⟨w2.heap.size + 1, 0, none⟩ : Addr).add j) = some u) := hide (fun j u hj => by
        rw [Addr.add_lit, Nat.zero_add, hW, cellB (heapN (by simp)) j, ← hj]
        simp [rpc])
      have HBW : Hid (Below w.heap.size w W) := hide (by rw [hW]; exact ((hb.trans (hb2.mono hwr)).alloc (by omega) _).alloc (by simp; omega) _)
      have HWK := hide hWk
      have HWS := hide hWs
      clear hWk hWs
      go_wp2_with (at_builtin; (rw [← hW]; refine wpList_append_own_at _ rfl _ _ 66 rfl w.heap.size 40 i0 (.agg #[.int .u8 0, .int .u64 0, .int .u64 0]) 3 24 Tryz.underlying66 hi hz0 hz1 hz2 rfl (by decide) u4 i (rpcs (rs.take i)) rfl HOW.out ⟨w2.heap.size + 1, 0, none⟩ 1 1 (rpc r) rfl rfl HCL.out (by simp [rpc, Value.oneCell']) (by unfold maxLen; omega) (by omega) HBW.out.size ?_; intro v5 w4 hown4 hgr4 hnil4 hloc4; clear hW))
      have hgl4 : g < w2.heap.size := Nat.lt_of_lt_of_le hg4'.1 hs2
      have hk4 : w4.heap[g]? = wr.heap[g]? := (hgr4.block g (by rw [HWS.out]; omega) (fun e => hg4'.2 e.symm)).trans ((HWK.out g hgl4).trans (hb2.block g hg4'.1))
      have hwl := HBW.out.size
      have hwl4 := hgr4.size
      have hB4 : Below w.heap.size w w4 := ⟨hgr4.os.trans HBW.out.os, hgr4.tape.trans HBW.out.tape, hgr4.output.trans HBW.out.output, Nat.le_trans hwl hwl4, fun k hk => (hgr4.block k (by omega) (fun e => by have := (own_ltE HO.out e.symm).1; omega)).trans (HBW.out.block k hk)⟩
      have hnl : n - 18 = (encs (rs.drop (i + 1))).length := by have := HLE.out; omega
      go_roundw
      case rel =>
        refine ⟨i + 1, hlt, ?_, ?_, hB4, fun g' o' n' c' h => ?_⟩
        · by_cases h0 : n - 18 = 0
          · refine Or.inl ⟨List.length_eq_zero_iff.1 (hnl.symm.trans h0), Or.inr ?_⟩
            rw [h0]
            split
            · exact ⟨_, _, _, rfl⟩
            · exact ⟨_, _, _, rfl⟩
          · rw [if_neg (by omega)]
            refine Or.inr ⟨by omega, g, o + 18, c - 18, by rw [hnl], by omega, by rw [HWS.out] at hwl4; omega, fun j hj => ?_⟩
            have hj2 : 18 + j < (encs (rs.drop i)).length := by have := HN.out; omega
            rw [World.cell?_of_block (w := wr) hk4, Nat.add_assoc, HCE.out (18 + j) hj2, HD.out]
            congr 2
            simp only [List.getD]
            rw [List.getElem?_append_right (by simp [encRep, be8])]
            simp [encRep, be8]
        · have ht : rpcs (rs.take (i + 1)) = rpcs (rs.take i) ++ rpc r := by
            have htk : rs.take (i + 1) = rs.take i ++ [rs[i]] := by rw [List.take_add_one, List.getElem?_eq_getElem hlt]; rfl
            rw [htk, HR.out]
            unfold rpcs
            rw [List.flatMap_append]
            simp only [List.flatMap_cons, List.flatMap_nil, List.append_nil]
          rw [ht]
          exact hown4
        · have e : g' = g := by
            split at h <;> (injection h with h1 _ _; injection h1 with h1; injection h1 with h1 _; exact h1.symm)
          subst e
          refine ⟨by rw [HWS.out] at hwl4; omega, fun e => ?_⟩
          rcases hloc4 with h4 | h4
          · exact hg4'.2 (h4 ▸ e)
          · rw [h4, HWS.out] at e
            injection e with e
            omega
      case measure =>
        simp only [sliceLen]
        omega
    · obtain rfl : i = rs.length := by omega
      rw [List.drop_of_length_le (Nat.le_refl _)] at hsl
      rw [List.take_of_length_le (Nat.le_refl _)] at hown
      have HO := hide hown
      obtain ⟨ya, yc, hyw⟩ := own_sliceE hown
      subst hyw
      clear hbs hown hg4
      rcases hsl with ⟨_, rfl | ⟨g, o, c, rfl⟩⟩ | ⟨hp, _⟩
      · go_wp2
        go_ret2
        exact ⟨_, rfl, HO.out, hb⟩
      · go_wp2
        go_ret2
        exact ⟨_, rfl, HO.out, hb⟩
      · simp [encs] at hp
end Go.Proofs.YtlamgpeiolfffaaGreatDoor

namespace Go.Proofs.YtlamgpeiolfffaaGreatDoor
open Go.RowKit
variable [dK] [iK]

theorem be8_bytes (v : Int) : Bytes (be8 v) := by
  intro x hx
  simp only [be8, List.mem_cons, List.not_mem_nil, or_false] at hx
  rcases hx with rfl | rfl | rfl | rfl | rfl | rfl | rfl | rfl <;> exact nb_range v _
structure Rq.byt (q : Rq) : Prop where
  op : 0 ≤ q.op ∧ q.op ≤ 255
  kd : 0 ≤ q.kd ∧ q.kd ≤ 255
theorem enc_bytes (q : Rq) (h : q.ok) (hb : q.byt) : Bytes q.enc := by
  have hk := h.key
  have h0 := hk.h0; have h1 := hk.h1; have h2 := hk.h2; have h3 := hk.h3; have h4 := hk.h4; have h5 := hk.h5; have h6 := hk.h6; have h7 := hk.h7
  have hkd := hb.kd
  have hop := hb.op
  simp only [Rq.key] at h0 h1 h2 h3 h4 h5 h6 h7
  unfold Rq.enc encReq
  split
  · refine (Bytes.app ?_ (be8_bytes _)).app (be8_bytes _)
    intro x hx
    simp only [List.mem_cons, List.not_mem_nil, or_false] at hx
    omega
  · split
    · refine Bytes.app ?_ (be8_bytes _)
      intro x hx
      simp only [List.mem_cons, List.not_mem_nil, or_false] at hx
      omega
    · split
      · intro x hx
        simp only [List.mem_cons, List.not_mem_nil, or_false] at hx
        omega
      · split
        · intro x hx
          simp only [List.mem_cons, List.not_mem_nil, or_false] at hx
          omega
        · intro x hx
          simp at hx
theorem encQs_bytes (qs : List Rq) (h : ∀ q ∈ qs, q.ok ∧ q.byt) : Bytes (encQs qs) := by
  intro x hx
  obtain ⟨q, hq, hx⟩ := List.mem_flatMap.1 hx
  exact enc_bytes q (h q hq).1 (h q hq).2 x hx
abbrev rqcl (q : Rq) : List Value := [.int .u8 q.op, .int .u8 q.k0, .int .u8 q.k1, .int .u8 q.k2, .int .u8 q.k3, .int .u8 q.k4, .int .u8 q.k5, .int .u8 q.k6, .int .u8 q.k7, .int .u8 q.kd, .int .u64 q.x, .int .u64 q.y, .int .u64 q.n]
/-- keep's bytes over requests that lie one behind the other in a block. -/
theorem bytes9' (A cap : Nat) (qs : List Rq) (w : World) (t : TypeId) (fr : Nat × Nat) (hnc : qs.length ≤ cap) (hn1 : qs.length ≤ 1000) (hok : ∀ q ∈ qs, q.ok) (hA : w.heap[A]? = some (.cells (qs.flatMap rqcl).toArray t fr)) :
    Calls Tryz.prog 9 #[.slice (some ⟨A, 0, none⟩) qs.length cap] w fun e w' => e = .returned (.string (strOfNums (encQs qs))) ∧ Below w.heap.size w w' := by
  refine bytes9 A 0 qs.length cap qs w rfl hnc hn1 hok (ltB hA) (fun i h j => ?_)
  rcases Nat.lt_or_ge j 13 with hj | hj
  · left
    rw [cellB hA, Nat.zero_add]
    have hfl : ∀ (l : List Rq) (i : Nat) (h : i < l.length), (l.flatMap rqcl)[i * 13 + j]? = (rqcl l[i])[j]? := by
      intro l
      induction l with
      | nil => intro i h; simp at h
      | cons q r ih =>
        intro i h
        rw [List.flatMap_cons]
        cases i with
        | zero =>
          rw [Nat.zero_mul, Nat.zero_add, List.getElem?_append_left (by simpa using hj)]
          rfl
        | succ i =>
          rw [List.getElem?_append_right (by simp; omega)]
          have e : (i + 1) * 13 + j - (rqcl q).length = i * 13 + j := by simp; omega
          rw [e, ih i (by simpa using h)]
          rfl
    have := hfl qs i h
    simpa using this
  · right; exact hj

set_option maxRecDepth 100000 in
set_option maxHeartbeats 4000000 in
theorem opened8 (kd x y blk : Int) (w : World) (hso : soundM kd x y) (hx : 0 ≤ x ∧ x ≤ 18446744073709551615) (hy : 0 ≤ y ∧ y ≤ 18446744073709551615) (hgl : w.cell? ⟨0, 0, none⟩ = some (.iface 201 (.agg #[.pointer (some ⟨1, 88, none⟩)]))) :
    Calls Tryz.prog 8 #[.agg #[.int .u8 kd, .int .u64 x, .int .u64 y], .int .u64 blk] w fun e w' => ∃ hb db nb sb mb F cv cb, e = .returned (.pointer (some ⟨hb, 0, none⟩)) ∧ HostAt w' hb db nb sb mb blk ⟨0, 0, [(kK, ⟨kd, x, y, 0, 0⟩)]⟩ F w.heap.size cv 3 cb (fun _ => ⟨[], false⟩) ∧ Below w.heap.size w w' := by
  obtain ⟨W0, hW0⟩ : ∃ W0, W0 = w.alloc (.cells #[.int .u8 kd, .int .u64 x, .int .u64 y] 30) := ⟨_, rfl⟩
  have hbx : W0.heap[w.heap.size]? = some (.cells #[.int .u8 kd, .int .u64 x, .int .u64 y] 30) := hW0 ▸ heapNew _ _
  have hB0 : Below w.heap.size w W0 := hW0 ▸ (Below.refl _ w).alloc (Nat.le_refl _) _
  have hs0 : W0.heap.size = w.heap.size + 1 := by rw [hW0]; simp
  have HOKS : Hid (∀ q ∈ [qDef kd x y, qQk, qQj], q.ok) := hide (fun q hq => by
    have z : (0 : Int) ≤ 0 ∧ (0 : Int) ≤ 18446744073709551615 := by omega
    simp only [List.mem_cons, List.not_mem_nil, or_false] at hq
    rcases hq with rfl | rfl | rfl
    · exact ⟨⟨by simp [qDef, Rq.key], by simp [qDef, Rq.key], by simp [qDef, Rq.key], by simp [qDef, Rq.key], by simp [qDef, Rq.key], by simp [qDef, Rq.key], by simp [qDef, Rq.key], by simp [qDef, Rq.key]⟩, hx, hy, z⟩
    · exact ⟨⟨by simp [qQk, Rq.key], by simp [qQk, Rq.key], by simp [qQk, Rq.key], by simp [qQk, Rq.key], by simp [qQk, Rq.key], by simp [qQk, Rq.key], by simp [qQk, Rq.key], by simp [qQk, Rq.key]⟩, z, z, z⟩
    · exact ⟨⟨by simp [qQj, Rq.key], by simp [qQj, Rq.key], by simp [qQj, Rq.key], by simp [qQj, Rq.key], by simp [qQj, Rq.key], by simp [qQj, Rq.key], by simp [qQj, Rq.key], by simp [qQj, Rq.key]⟩, z, z, z⟩)
  have HBYS : Hid (∀ q ∈ [qDef kd x y, qQk, qQj], q.byt) := hide (fun q hq => by
    simp only [List.mem_cons, List.not_mem_nil, or_false] at hq
    rcases hq with rfl | rfl | rfl
    · exact ⟨by simp [qDef], by rcases hso with h | h <;> simp [qDef, h.1]⟩
    · exact ⟨by simp [qQk], by simp [qQk]⟩
    · exact ⟨by simp [qQj], by simp [qQj]⟩)
  have hlt0 : 0 < w.heap.size := by
    rcases Nat.eq_zero_or_pos w.heap.size with h0 | h
    · simp [World.cell?, h0] at hgl
    · exact h
  have HGL := hide hgl
  have HS0 := hide hs0
  clear hgl hs0
  go_enter Tryz.func8, Tryz.ntmps8
  go_wp2_with fail
  rw [← hW0]
  clear hW0
  refine (newhost15 blk _).mono ?_
  rintro e w1 ⟨nb, rfl, h1, h2, h3, h4, h5, h6⟩
  obtain ⟨hb, ehb⟩ : ∃ hb, hb = W0.heap.size + 2 := ⟨_, rfl⟩
  obtain ⟨db, edb⟩ : ∃ db, db = W0.heap.size + 1 := ⟨_, rfl⟩
  obtain ⟨mb, emb⟩ : ∃ mb, mb = W0.heap.size := ⟨_, rfl⟩
  have hbx1 := (h6.block _ (ltB hbx)).trans hbx
  rw [← edb, ← emb] at h2
  rw [← ehb, ← edb] at h1
  rw [← emb] at h3
  have HB1 := hide (hB0.trans (h6.mono (Nat.le_of_lt (ltB hbx))))
  have HSZ : Hid (w.heap.size < mb ∧ mb < db ∧ db < hb ∧ hb < nb ∧ nb < w1.heap.size) := hide ⟨by have := HS0.out; omega, by omega, by omega, by omega, ltB h4⟩
  rw [← ehb]
  clear ehb edb emb h5 h6 hB0 hbx HS0
  go_wp2_with fail
  refine (hostopen16 hb db nb (.map (some mb)) _ _ blk _ _ w1 h1 h2 ⟨_, rfl⟩ h4).mono ?_
  rintro e w2 ⟨sb, rfl, i1, i2, i3, i4, i5⟩
  have hz := HSZ.out
  have hbx2 := (i5.block w.heap.size (ltB hbx1) (by omega)).trans hbx1
  have HB2 : Hid (Below w.heap.size w w2) := hide (HB1.out.trans (i5.below (Nat.le_of_lt (ltB hbx1)) (fun k hk => by omega)))
  have H2 : HostAt w2 hb db nb sb (some mb) blk ⟨0, 0, []⟩ (fun b => b = sb) w.heap.size (.slice none 0 0) 0 (fun _ => 0) (fun _ => ⟨[], false⟩) := by
    refine ⟨i2, i3, i4, fun i hi => absurd hi (Nat.not_lt_zero _), fun i j hi => absurd hi (Nat.not_lt_zero _), World.ownsRow_nil _ _ _ _, fun g hg hF => ?_, fun b hb' => ?_, fun _ _ => rfl⟩
    · rcases hg with h | h | h
      · omega
      · omega
      · simp [Value.ownBlock] at h
    · rcases hb' with h | h | h | h | ⟨i, hi, h⟩
      · omega
      · omega
      · omega
      · simp [Value.ownBlock] at h
      · omega
  have hsz2 := i5.size
  have HH2 := hide H2
  have a1 := cellB hbx2
  clear h1 h2 h3 h4 hbx1 HB1 i1 i2 i3 i4 i5 H2 hz
  go_wp2_with fail
  obtain ⟨W, hW⟩ : ∃ W, W = w2.alloc (.cells (([qDef kd x y, qQk, qQj] : List Rq).flatMap rqcl).toArray 58) := ⟨_, rfl⟩
  have hWA : W.heap[w2.heap.size]? = some (.cells (([qDef kd x y, qQk, qQj] : List Rq).flatMap rqcl).toArray 58) := hW ▸ heapNew _ _
  have hWB : Below w2.heap.size w2 W := hW ▸ (Below.refl _ w2).alloc (Nat.le_refl _) _
  have h9 := bytes9' w2.heap.size 3 [qDef kd x y, qQk, qQj] W 58 (0, 0) (by simp) (by simp) HOKS.out hWA
  rw [hW] at h9
  refine h9.mono ?_
  rw [← hW]
  rintro e w3 ⟨rfl, hb3⟩
  have hk3 : ∀ k, k < w2.heap.size → w3.heap[k]? = w2.heap[k]? := fun k hk => (hb3.block k (Nat.lt_of_lt_of_le hk hWB.size)).trans (hWB.block k hk)
  have hs3 : w2.heap.size ≤ w3.heap.size := Nat.le_trans hWB.size hb3.size
  have H3 := HH2.out.kept hs3 hk3
  have hB3 : Below w.heap.size w w3 := HB2.out.trans ⟨hb3.os.trans hWB.os, hb3.tape.trans hWB.tape, hb3.output.trans hWB.output, hs3, fun k hk => hk3 k (Nat.lt_of_lt_of_le hk HB2.out.size)⟩
  obtain ⟨st, hst⟩ : ∃ st, st = strOfNums (encQs [qDef kd x y, qQk, qQj]) := ⟨_, rfl⟩
  have hnum : numsOf st = encQs [qDef kd x y, qQk, qQj] := by rw [hst]; exact numsOf_str _ (encQs_bytes _ (fun q hq => ⟨HOKS.out q hq, HBYS.out q hq⟩))
  have hfm : feedM ⟨0, 0, []⟩ ⟨[], false⟩ 0 (numsOf st) = (⟨0, 0, [(kK, ⟨kd, x, y, 0, 0⟩)]⟩, ⟨[], false⟩, [⟨1, 0, 0⟩, ⟨1, 0, 0⟩, ⟨4, 0, 0⟩]) := by rw [hnum]; exact opened_reckon kd x y hso hx hy
  have h11 := feed11 hb db nb sb (some mb) blk ⟨0, 0, []⟩ (fun b => b = sb) w.heap.size (.slice none 0 0) 0 (fun _ => 0) (fun _ => ⟨[], false⟩) 0 0 st w3 H3 (by decide) hB3.size (fun _ _ => rfl) 0 (by decide) (by decide) (by decide) ⟨by simp, by simp, by simp, by simp, by simp, by simp⟩ (by decide) (by decide) (by intro b hb; simp at hb) (by rw [hnum]; have := encQs_len [qDef kd x y, qQk, qQj]; simp at this ⊢; omega)
  simp only [hfm] at h11
  have H11 := hide h11
  have HBW3 := hide hB3
  have HLO3 : Hid (∀ b, HG hb db (fun b => b = sb) (.slice none 0 0) 0 (fun _ => 0) b → w.heap.size ≤ b) := hide H3.lo
  rw [← hst]
  clear hst hnum hfm h11 hB3 H3 hk3 hs3 h9 hW hWA hWB hb3
  go_wp2_with fail
  refine H11.out.mono ?_
  rintro e w4 ⟨F4, cv4, cb4, rfl, H4, hK4, hG4⟩
  have hB4 : Below w.heap.size w w4 := HBW3.out.trans (hK4.below HBW3.out.size HLO3.out)
  obtain ⟨st2, hst2⟩ : ∃ st2, st2 = strOfNums (encs [⟨1, 0, 0⟩, ⟨1, 0, 0⟩, ⟨4, 0, 0⟩]) := ⟨_, rfl⟩
  have htd : ∀ r ∈ ([⟨1, 0, 0⟩, ⟨1, 0, 0⟩, ⟨4, 0, 0⟩] : List Rp), r.told := fun r hr => by
    simp only [List.mem_cons, List.not_mem_nil, or_false] at hr
    rcases hr with rfl | rfl | rfl <;> exact ⟨by decide, by decide, by decide, by decide⟩
  have h23 := replies23 st2 [⟨1, 0, 0⟩, ⟨1, 0, 0⟩, ⟨4, 0, 0⟩] w4 (by rw [hst2]; exact numsOf_str _ (encs_bytes _ htd)) htd (by simp) ((hB4.cell (p := ⟨0, 0, none⟩) hlt0).trans HGL.out)
  have H23 := hide h23
  rw [← hst2]
  have HB4 := hide hB4
  have HH4 := hide H4
  have HG4 := hide hG4
  clear hst2 h23 hB4 H4 hK4 hG4 H11 HLO3 htd
  go_wp2_with fail
  refine H23.out.mono ?_
  rintro e w5 ⟨lv, rfl, hown5, hb5⟩
  obtain ⟨g, gc, rfl, _, hg5⟩ := hown5.form (by decide)
  have k0 := hown5.cellAt 0 (by simp)
  have k1 := hown5.cellAt 1 (by simp)
  have k2 := hown5.cellAt 2 (by simp)
  have k3 := hown5.cellAt 3 (by simp)
  have k4 := hown5.cellAt 4 (by simp)
  have k5 := hown5.cellAt 5 (by simp)
  have k6 := hown5.cellAt 6 (by simp)
  simp [rpcs, rpc] at k0 k1 k2 k3 k4 k5 k6
  clear hown5 H23
  go_wp2_with fail
  go_ret
  have hce : (fun j : Nat => if j = 0 then (⟨[], false⟩ : Cn) else ⟨[], false⟩) = fun _ => ⟨[], false⟩ := by
    funext j
    split <;> rfl
  have H4 := HH4.out
  rw [hce] at H4
  exact ⟨hb, db, nb, sb, some mb, F4, cv4, cb4, rfl, H4.kept hb5.size (fun k hk => hb5.block k hk), HB4.out.trans (hb5.mono HB4.out.size)⟩
end Go.Proofs.YtlamgpeiolfffaaGreatDoor

namespace Go.Proofs.YtlamgpeiolfffaaGreatDoor
open Go.RowKit
variable [dK] [iK]

/-- Requests in memory, as a slice. -/
def RqsAt (w : World) (v : Value) (qs : List Rq) : Prop :=
  (qs = [] ∧ ∃ a c, v = .slice a 0 c) ∨
  (0 < qs.length ∧ ∃ A o cap, v = .slice (some ⟨A, o, none⟩) qs.length cap ∧ qs.length ≤ cap ∧ A < w.heap.size ∧
    ∀ i (h : i < qs.length) j, w.cell? ⟨A, o + i * 13 + j, none⟩ = (#[.int .u8 qs[i].op, .int .u8 qs[i].k0, .int .u8 qs[i].k1, .int .u8 qs[i].k2, .int .u8 qs[i].k3, .int .u8 qs[i].k4, .int .u8 qs[i].k5, .int .u8 qs[i].k6, .int .u8 qs[i].k7, .int .u8 qs[i].kd, .int .u64 qs[i].x, .int .u64 qs[i].y, .int .u64 qs[i].n] : Array Value)[j]? ∨ 13 ≤ j)
set_option maxRecDepth 100000 in
theorem bytes9_nil (a : Option Addr) (c : Nat) (w : World) :
    Calls Tryz.prog 9 #[.slice a 0 c] w fun e w' => e = .returned (.string (strOfNums (encQs []))) ∧ Below w.heap.size w w' := by
  go_enter Tryz.func9, Tryz.ntmps9
  go_wp2
  refine wp_loop_rounds 1 ?_
  rw [rounds_succ]
  go_wp2
  go_ret
  exact ⟨rfl, Below.refl _ _⟩
theorem bytes9_any (v : Value) (qs : List Rq) (w : World) (h : RqsAt w v qs) (hn1 : qs.length ≤ 1000) (hok : ∀ q ∈ qs, q.ok) :
    Calls Tryz.prog 9 #[v] w fun e w' => e = .returned (.string (strOfNums (encQs qs))) ∧ Below w.heap.size w w' := by
  rcases h with ⟨rfl, a, c, rfl⟩ | ⟨hp, A, o, cap, rfl, h1, h2, h3⟩
  · exact bytes9_nil a c w
  · exact bytes9 A o qs.length cap qs w rfl h1 hn1 hok h2 h3
theorem RqsAt.below {w w' : World} {v : Value} {qs : List Rq} (h : RqsAt w v qs) {B : Nat} (hb : Below B w w') (hB : w.heap.size ≤ B) : RqsAt w' v qs := by
  rcases h with h | ⟨hp, A, o, cap, rfl, h1, h2, h3⟩
  · exact Or.inl h
  · refine Or.inr ⟨hp, A, o, cap, rfl, h1, Nat.lt_of_lt_of_le h2 hb.size, fun i hi j => ?_⟩
    rw [hb.cell (p := ⟨A, o + i * 13 + j, none⟩) (Nat.lt_of_lt_of_le h2 hB)]
    exact h3 i hi j
theorem RqsAt.shape {w : World} {v : Value} {qs : List Rq} (h : RqsAt w v qs) : ∃ a c, v = .slice a qs.length c := by
  rcases h with ⟨rfl, a, c, rfl⟩ | ⟨hp, A, o, cap, rfl, _⟩
  · exact ⟨a, c, rfl⟩
  · exact ⟨_, _, rfl⟩

set_option maxRecDepth 100000 in
set_option maxHeartbeats 4000000 in
theorem split4 (v : Value) (qs : List Rq) (raw : ByteArray) (cut now : Int) (w : World) (hv : RqsAt w v qs) (hok : ∀ q ∈ qs, q.ok ∧ q.byt) (hr : raw.size ≤ maxLen) (hql : qs.length ≤ maxLen) (c0 : -9223372036854775808 ≤ cut) (c1 : cut ≤ 9223372036854775807) (n0 : -9223372036854775808 ≤ now) (n1 : now ≤ 9223372036854775807)
    (hgl : w.cell? ⟨0, 0, none⟩ = some (.iface 201 (.agg #[.pointer (some ⟨1, 88, none⟩)]))) :
    Calls Tryz.prog 4 #[v, .string raw, .int .i64 cut, .int .i64 now] w fun e w' => e = .returned (.bool true) ∧ Below w.heap.size w w' := by
  obtain ⟨a, vc, rfl⟩ := hv.shape
  have hr' : (raw.size : Int) ≤ 9223372036854775807 := by simp only [maxLen] at hr; omega
  have hq' : (qs.length : Int) ≤ 9223372036854775807 := by simp only [maxLen] at hql; omega
  have hlt0 : 0 < w.heap.size := by
    rcases Nat.eq_zero_or_pos w.heap.size with h0 | h
    · simp [World.cell?, h0] at hgl
    · exact h
  by_cases hbig : 100 < (qs.length : Int) ∨ 1000 < (raw.size : Int)
  · have HV := hide hv
    clear hv hgl
    go_enter Tryz.func4, Tryz.ntmps4
    go_wp2
    all_goals go_ret
    all_goals exact ⟨rfl, Below.refl _ _⟩
  · have hl1 : ¬ 100 < (qs.length : Int) := fun h => hbig (Or.inl h)
    have hl2 : ¬ 1000 < (raw.size : Int) := fun h => hbig (Or.inr h)
    have HV := hide hv
    have HGL := hide hgl
    have HOK := hide hok
    clear hv hgl hok hbig
    go_enter Tryz.func4, Tryz.ntmps4
    go_wp2_with fail
    obtain ⟨W0, hW0⟩ : ∃ W0, W0 = w.alloc (.cells #[.int .u8 2, .int .u64 5, .int .u64 10] 30) := ⟨_, rfl⟩
    have hbx : W0.heap[w.heap.size]? = some (.cells #[.int .u8 2, .int .u64 5, .int .u64 10] 30) := hW0 ▸ heapNew _ _
    have hB0 : Below w.heap.size w W0 := hW0 ▸ (Below.refl _ w).alloc (Nat.le_refl _) _
    rw [← hW0]
    clear hW0
    refine (opened8 2 5 10 3 W0 (Or.inr ⟨rfl, by decide⟩) (by decide) (by decide) ((hB0.cell (p := ⟨0, 0, none⟩) hlt0).trans HGL.out)).mono ?_
    rintro e w1 ⟨ha, da, na, sa, ma, Fa, va, ca, rfl, Ha, hB1⟩
    have hs0 := hB0.size
    have hs1 := hB1.size
    have hw1 : Below w.heap.size w w1 := hB0.trans (hB1.mono hs0)
    have hbx1 := (hB1.block _ (ltB hbx)).trans hbx
    have a1 := cellB hbx1
    have HHa := hide Ha
    have HW1 := hide hw1
    have HS1 := hide hs1
    have HS00 := hide hs0
    clear Ha hw1 hbx hB0 hB1 hs0 hs1 hbx1
    go_wp2_with fail
    refine (opened8 2 5 10 3 w1 (Or.inr ⟨rfl, by decide⟩) (by decide) (by decide) ((HW1.out.cell (p := ⟨0, 0, none⟩) hlt0).trans HGL.out)).mono ?_
    rintro e w2 ⟨hh, dh, nh, sh, mh, Fh, vh, ch, rfl, Hh, hB2⟩
    have hw2 : Below w.heap.size w w2 := HW1.out.trans (hB2.mono HW1.out.size)
    have Ha2 := HHa.out.kept hB2.size (fun k hk => hB2.block k hk)
    have hlo : ∀ b, HG ha da Fa va 3 ca b → b < w1.heap.size := HHa.out.lt
    have HHa2 := hide Ha2
    have HHh := hide Hh
    have HW2 := hide hw2
    have HLO := hide hlo
    have HB2 := hide hB2
    clear Hh hw2 Ha2 hlo hB2 a1
    go_wp2_with fail
    refine (bytes9_any _ qs w2 (HV.out.below HW2.out (Nat.le_refl _)) (by omega) (fun q hq => (HOK.out q hq).1)).mono ?_
    rintro e w3 ⟨rfl, hb3⟩
    have hw3 : Below w.heap.size w w3 := HW2.out.trans (hb3.mono HW2.out.size)
    have Ha3 := HHa2.out.kept hb3.size (fun k hk => hb3.block k hk)
    have Hh3 := HHh.out.kept hb3.size (fun k hk => hb3.block k hk)
    have hsz3 : w1.heap.size ≤ w3.heap.size := Nat.le_trans HB2.out.size hb3.size
    obtain ⟨st, hst⟩ : ∃ st, st = strOfNums (encQs qs) := ⟨_, rfl⟩
    have hstz : st.size ≤ 2700 := by rw [hst, strOfNums_size]; have := encQs_len qs; omega
    have hnst : numsOf st = encQs qs := by rw [hst]; exact numsOf_str _ (encQs_bytes qs HOK.out)
    rw [← hst]
    have HN := hide hnst
    have HHa3 := hide Ha3
    have HHh3 := hide Hh3
    have HW3 := hide hw3
    have HSZ3 := hide hsz3
    clear hst hnst Ha3 Hh3 hw3 hsz3 hb3 HHa HHa2 HHh HW2 HW1 HB2
    go_wp2_with fail
    obtain ⟨sr, hsr⟩ : ∃ sr, sr = st ++ raw := ⟨_, rfl⟩
    have hszr : (st.size : Int) + (raw.size : Int) = (sr.size : Int) := by rw [hsr]; simp
    have hszn : sr.size ≤ 3700 := by omega
    have hnsr : Bytes (numsOf sr) := numsOf_bytes sr
    have hnl := numsOf_length sr
    rw [← hsr, hszr]
    obtain ⟨n, hn, hnle⟩ : ∃ n : Nat, pickM cut ((sr.size : Int) + 1) = (n : Int) ∧ n ≤ sr.size := by
      have h := pickM_ok cut ((sr.size : Int) + 1) (by omega)
      exact ⟨(pickM cut ((sr.size : Int) + 1)).toNat, by omega, by omega⟩
    have hp1 := pick10 cut ((sr.size : Int) + 1) w3 (by omega) (by omega) c0 c1
    rw [hn] at hp1
    have hp2 := fun w => pick10 now 1000 w (by omega) (by omega) n0 n1
    obtain ⟨t, ht⟩ : ∃ t, t = pickM now 1000 := ⟨_, rfl⟩
    have htr := pickM_ok now 1000 (by omega)
    rw [← ht] at hp2 htr
    have HP1 := hide hp1
    have HP2 := hide hp2
    have utw : IntKind.u64.wrap t = t := by rw [IntKind.wrap_u64]; omega
    clear hp1 hp2 hsr hszr ht hn hnsr
    refine HP1.out.mono ?_
    rintro e w9 ⟨rfl, rfl⟩
    go_wp2_with fail
    refine (HP2.out _).mono ?_
    rintro e w10 ⟨rfl, rfl⟩
    go_wp2_with fail
    have hLok : Ld.ok ⟨0, 0, [(kK, ⟨2, 5, 10, 0, 0⟩)]⟩ := ⟨by decide, by decide, fun p hp => by simp at hp; rw [hp]; exact ⟨by simp [kK], by simp [kK], by simp [kK], by simp [kK], by simp [kK], by simp [kK], by simp [kK], by simp [kK]⟩, fun p hp => by simp at hp; rw [hp]; exact ⟨Or.inr ⟨rfl, by decide⟩, by simp, by simp, by simp, by simp⟩, by simp, by simp⟩
    have hA := feed11 ha da na sa ma 3 ⟨0, 0, [(kK, ⟨2, 5, 10, 0, 0⟩)]⟩ Fa W0.heap.size va 3 ca (fun _ => ⟨[], false⟩) 1 t sr w10 HHa3.out (by decide) (Nat.le_trans HS1.out HSZ3.out) (fun h => absurd h (by decide)) 1 (by decide) (by decide) (by decide) hLok (by omega) (by omega) (by intro b hb; simp at hb) (by rw [hnl]; simp; omega)
    have HA := hide hA
    have HLOK := hide hLok
    clear hA hLok
    refine HA.out.mono ?_
    rintro e w4 ⟨F4, v4, c4, rfl, _, hK4, _⟩
    have Hh4 := HHh3.out.quiet (fun _ => rfl) hK4.size (fun k hk => hK4.block k (HHh3.out.lt k hk) (fun h => by have := HLO.out k h; have := HHh3.out.lo k hk; omega))
    have hB4 : Below w.heap.size w w4 := HW3.out.trans (hK4.below HW3.out.size (fun k hk => Nat.le_trans HS00.out (HHa3.out.lo k hk)))
    obtain ⟨oa, hoa⟩ : ∃ oa, oa = strOfNums (encs (feedM ⟨0, 0, [(kK, ⟨2, 5, 10, 0, 0⟩)]⟩ ⟨[], false⟩ t (numsOf sr)).2.2) := ⟨_, rfl⟩
    have HOA := hide hoa
    have HHh4 := hide Hh4
    have HB4 := hide hB4
    have HZ4 : Hid (w1.heap.size ≤ w4.heap.size) := hide (Nat.le_trans HSZ3.out hK4.size)
    dsimp only
    rw [← hoa]
    clear hoa Hh4 hB4 hK4 HA HHa3 HHh3 HLO HSZ3
    go_wp2_with fail
    have hns1 := numsOf_take sr n
    obtain ⟨A, hA⟩ : ∃ A, A = feedM ⟨0, 0, [(kK, ⟨2, 5, 10, 0, 0⟩)]⟩ ⟨[], false⟩ t (numsOf (sr.extract 0 n)) := ⟨_, rfl⟩
    have hAok := feedM_ok ⟨0, 0, [(kK, ⟨2, 5, 10, 0, 0⟩)]⟩ ⟨[], false⟩ t (numsOf (sr.extract 0 n)) HLOK.out (by omega) (by omega) (by intro b hb; simp at hb) (numsOf_bytes _)
    have hF1 := feed11 hh dh nh sh mh 3 ⟨0, 0, [(kK, ⟨2, 5, 10, 0, 0⟩)]⟩ Fh w1.heap.size vh 3 ch (fun _ => ⟨[], false⟩) 1 t (sr.extract 0 n) w4 HHh4.out (by decide) HZ4.out (fun h => absurd h (by decide)) 1 (by decide) (by decide) (by decide) HLOK.out (by omega) (by omega) (by intro b hb; simp at hb) (by rw [hns1, List.length_take]; simp; omega)
    rw [← hA] at hF1 hAok
    rw [hns1, List.length_take] at hAok
    obtain ⟨hA1, hA2, hA3⟩ := hAok
    have hA3' : A.2.1.waits.length ≤ 3700 := by simp at hA3; omega
    have HF1 := hide hF1
    have HAe := hide hA
    have HA1 := hide hA1
    have HA2 := hide hA2
    clear hF1 hA hA1 hA2 hA3 hns1
    refine HF1.out.mono ?_
    rintro e w5 ⟨F5, v5, c5, rfl, H5, hK5, _⟩
    have hw1w : w.heap.size ≤ w1.heap.size := Nat.le_trans HS00.out HS1.out
    have hB5 : Below w.heap.size w w5 := HB4.out.trans (hK5.below HB4.out.size (fun k hk => Nat.le_trans hw1w (HHh4.out.lo k hk)))
    obtain ⟨ob, hob⟩ : ∃ ob, ob = strOfNums (encs A.2.2) := ⟨_, rfl⟩
    obtain ⟨cc, hcc⟩ : ∃ cc : Nat → Cn, cc = fun j => if j = 1 then A.2.1 else ⟨[], false⟩ := ⟨_, rfl⟩
    have hcc1 : cc 1 = A.2.1 := by rw [hcc]; rfl
    have hcc2 : cc 2 = ⟨[], false⟩ := by rw [hcc]; rfl
    rw [← hcc] at H5
    have HOB := hide hob
    have HH5 := hide H5
    have HB5 := hide hB5
    have HZ5 : Hid (w1.heap.size ≤ w5.heap.size) := hide (Nat.le_trans HZ4.out hK5.size)
    have HC1 := hide hcc1
    have HC2 := hide hcc2
    dsimp only
    rw [← hob]
    clear hob H5 hB5 hK5 HF1 HHh4 HZ4 hcc hcc1 hcc2
    go_wp2_with fail
    have hn1 : numsOf { data := #[1] } = [1] := by simp [numsOf]
    obtain ⟨X, hX⟩ : ∃ X, X = feedM A.1 ⟨[], false⟩ t [1] := ⟨_, rfl⟩
    have hXok := feedM_ok A.1 ⟨[], false⟩ t [1] HA1.out (by omega) (by omega) (by intro b hb; simp at hb) (by intro b hb; simp at hb; omega)
    have hF2 := feed11 hh dh nh sh mh 3 A.1 F5 w1.heap.size v5 3 c5 cc 2 t { data := #[1] } w5 HH5.out (by decide) HZ5.out (fun h => absurd h (by decide)) 2 (by decide) (by decide) (by decide) HA1.out (by omega) (by omega) (by rw [HC2.out]; intro b hb; simp at hb) (by rw [HC2.out, hn1]; simp)
    rw [HC2.out, hn1, ← hX] at hF2
    rw [← hX] at hXok
    have HF2 := hide hF2
    have HXe := hide hX
    have HX1 := hide hXok.1
    clear hF2 hX hXok hn1
    refine HF2.out.mono ?_
    rintro e w6 ⟨F6, v6, c6, rfl, H6, hK6, _⟩
    have hB6 : Below w.heap.size w w6 := HB5.out.trans (hK6.below HB5.out.size (fun k hk => Nat.le_trans hw1w (HH5.out.lo k hk)))
    obtain ⟨cd, hcd⟩ : ∃ cd : Nat → Cn, cd = fun j => if j = 2 then X.2.1 else cc j := ⟨_, rfl⟩
    have hcd1 : cd 1 = A.2.1 := by rw [hcd]; exact HC1.out
    rw [← hcd] at H6
    have HH6 := hide H6
    have HB6 := hide hB6
    have HZ6 : Hid (w1.heap.size ≤ w6.heap.size) := hide (Nat.le_trans HZ5.out hK6.size)
    have HD1 := hide hcd1
    dsimp only
    clear H6 hB6 hK6 HF2 HH5 HZ5 hcd hcd1 HC1 HC2
    go_wp2_with fail
    have hns2 := numsOf_drop sr n
    have hF3 := feed11 hh dh nh sh mh 3 X.1 F6 w1.heap.size v6 3 c6 cd 1 t (sr.extract n sr.size) w6 HH6.out (by decide) HZ6.out (fun h => absurd h (by decide)) 1 (by decide) (by decide) (by decide) HX1.out (by omega) (by omega) (by rw [HD1.out]; exact HA2.out) (by rw [HD1.out, hns2, List.length_drop]; omega)
    rw [HD1.out] at hF3
    have hsp := split_reckon ⟨0, 0, [(kK, ⟨2, 5, 10, 0, 0⟩)]⟩ t ((numsOf sr).take n) ((numsOf sr).drop n) ⟨[], false⟩ rfl ⟨[], false⟩ rfl A (by rw [HAe.out, numsOf_take]) X HXe.out
    rw [List.take_append_drop, ← hns2] at hsp
    have HF3 := hide hF3
    have HSP := hide hsp
    clear hF3 hsp hns2
    refine HF3.out.mono ?_
    rintro e w7 ⟨F7, v7, c7, rfl, _, hK7, _⟩
    have hB7 : Below w.heap.size w w7 := HB6.out.trans (hK7.below HB6.out.size (fun k hk => Nat.le_trans hw1w (HH6.out.lo k hk)))
    obtain ⟨oc, hoc⟩ : ∃ oc, oc = strOfNums (encs (feedM X.1 A.2.1 t (numsOf (sr.extract n sr.size))).2.2) := ⟨_, rfl⟩
    have heq : oa = ob ++ oc := by rw [HOA.out, HOB.out, hoc, HSP.out, strOf_app]
    have hobz : ob.size ≤ 100000 := by
      have h1 := feedM_len ⟨0, 0, [(kK, ⟨2, 5, 10, 0, 0⟩)]⟩ ⟨[], false⟩ t (numsOf (sr.extract 0 n))
      rw [← HAe.out, numsOf_take, List.length_take] at h1
      rw [HOB.out, strOfNums_size, encs_length]
      simp at h1
      omega
    have hocz : oc.size ≤ 200000 := by
      have h1 := feedM_len X.1 A.2.1 t (numsOf (sr.extract n sr.size))
      rw [numsOf_drop, List.length_drop] at h1
      rw [hoc, strOfNums_size, encs_length, numsOf_drop]
      omega
    dsimp only
    rw [← hoc]
    have HB7 := hide hB7
    clear hoc hB7 hK7 HF3 HH6 HZ6 HD1 HSP HOA HOB
    go_wp2_with fail
    go_ret
    exact ⟨rfl, HB7.out⟩
end Go.Proofs.YtlamgpeiolfffaaGreatDoor

namespace Go.Proofs.YtlamgpeiolfffaaGreatDoor
open Go.ChangeShapes Go.WideShapes Go.ChangeAt Go.RowKit Go.Joins
variable [dK] [iK]

theorem Tryz.cells28 : Tryz.prog.cellsOf 58 = 13 := by kernel_rfl
theorem Tryz.cells23 : Tryz.prog.cellsOf 56 = 8 := by kernel_rfl
theorem Tryz.cells26 : Tryz.prog.cellsOf 30 = 3 := by kernel_rfl
theorem Tryz.cells5 : Tryz.prog.cellsOf 5 = 1 := by kernel_rfl
theorem Tryz.cells24 : Tryz.prog.cellsOf 23 = 1 := by kernel_rfl
theorem list13 {cs : List Value} (h : cs.length = 13) : ∃ c0 c1 c2 c3 c4 c5 c6 c7 c8 c9 c10 c11 c12, cs = [c0, c1, c2, c3, c4, c5, c6, c7, c8, c9, c10, c11, c12] := by
  match cs, h with
  | [c0, c1, c2, c3, c4, c5, c6, c7, c8, c9, c10, c11, c12], _ => exact ⟨c0, c1, c2, c3, c4, c5, c6, c7, c8, c9, c10, c11, c12, rfl⟩
theorem u8_of {H : Type} {enc : TypeId × Value → H} {W : World} {base n : Nat} {spare : Nat → Bool} {held : Bool} {c : Value} {x : DataW H × List MemPlace} (h : DataW.trod enc Tryz.prog W base spare held n 5 [c] = some x) : ∃ a, c = .int .u8 a ∧ 0 ≤ a ∧ a ≤ 255 := by
  obtain ⟨a, e, _, wa⟩ := DataW.trod_int Tryz.underlying5 h
  have hb := bounds_u8 wa
  simp at e
  exact ⟨a, e, hb.1, by omega⟩
theorem u64_of {H : Type} {enc : TypeId × Value → H} {W : World} {base n : Nat} {spare : Nat → Bool} {held : Bool} {c : Value} {x : DataW H × List MemPlace} (h : DataW.trod enc Tryz.prog W base spare held n 23 [c] = some x) : ∃ a, c = .int .u64 a ∧ 0 ≤ a ∧ a ≤ 18446744073709551615 := by
  obtain ⟨a, e, _, wa⟩ := DataW.trod_int Tryz.underlying23 h
  have hb := bounds_u64 wa
  simp at e
  exact ⟨a, e, hb.1, by omega⟩

set_option maxRecDepth 100000 in
/-- The cells of a request: its numbers. -/
theorem req_of {H : Type} {enc : TypeId × Value → H} {W : World} {base fuel : Nat} {spare : Nat → Bool} {held : Bool} {cs : List Value} {x : DataW H × List MemPlace}
    (hl : cs.length = 13) (hf : DataW.trod enc Tryz.prog W base spare held fuel 58 cs = some x) : ∃ q : Rq, (q.ok ∧ q.byt) ∧ cs = rqcl q := by
  obtain ⟨c0, c1, c2, c3, c4, c5, c6, c7, c8, c9, c10, c11, c12, rfl⟩ := list13 hl
  obtain ⟨y0, y1, y2, y3, n, _, _, t0, t1, t2, t3⟩ := trod_struct4 Tryz.underlying58 hf
  simp only [Tryz.cells5, Tryz.cells23, Tryz.cells26, Tryz.cells24] at t0 t1 t2 t3
  obtain ⟨op, rfl, o1, o2⟩ := u8_of (c := c0) t0
  obtain ⟨nn, rfl, n1, n2⟩ := u64_of (c := c12) t3
  obtain ⟨xs, m, _, _, _, hxl, hk⟩ := DataW.trod_array Tryz.underlying56 t1
  obtain ⟨z0, z1, z2, n', _, _, s0, s1, s2⟩ := Deep.trod_struct3 Tryz.underlying30 t2
  simp only [Tryz.cells5, Tryz.cells24] at s0 s1 s2
  obtain ⟨kd, rfl, d1, d2⟩ := u8_of (c := c9) s0
  obtain ⟨x, rfl, x1, x2⟩ := u64_of (c := c10) s1
  obtain ⟨y, rfl, g1, g2⟩ := u64_of (c := c11) s2
  have hkk : ∀ i, i < 8 → ∃ z, DataW.trod enc Tryz.prog W base spare held m 5 ((List.drop i [c1, c2, c3, c4, c5, c6, c7, c8]).take 1) = some z := by
    intro i hi
    have := hk i hi
    rw [Tryz.cells5, Nat.mul_one, List.getElem?_eq_getElem (by omega)] at this
    exact ⟨_, this⟩
  obtain ⟨_, e0⟩ := hkk 0 (by omega)
  obtain ⟨_, e1⟩ := hkk 1 (by omega)
  obtain ⟨_, e2⟩ := hkk 2 (by omega)
  obtain ⟨_, e3⟩ := hkk 3 (by omega)
  obtain ⟨_, e4⟩ := hkk 4 (by omega)
  obtain ⟨_, e5⟩ := hkk 5 (by omega)
  obtain ⟨_, e6⟩ := hkk 6 (by omega)
  obtain ⟨_, e7⟩ := hkk 7 (by omega)
  obtain ⟨k0, rfl, a0, b0'⟩ := u8_of (c := c1) e0
  obtain ⟨k1, rfl, a1, b1⟩ := u8_of (c := c2) e1
  obtain ⟨k2, rfl, a2, b2⟩ := u8_of (c := c3) e2
  obtain ⟨k3, rfl, a3, b3⟩ := u8_of (c := c4) e3
  obtain ⟨k4, rfl, a4, b4⟩ := u8_of (c := c5) e4
  obtain ⟨k5, rfl, a5, b5⟩ := u8_of (c := c6) e5
  obtain ⟨k6, rfl, a6, b6⟩ := u8_of (c := c7) e6
  obtain ⟨k7, rfl, a7, b7⟩ := u8_of (c := c8) e7
  exact ⟨⟨op, k0, k1, k2, k3, k4, k5, k6, k7, kd, x, y, nn⟩, ⟨⟨⟨⟨a0, b0'⟩, ⟨a1, b1⟩, ⟨a2, b2⟩, ⟨a3, b3⟩, ⟨a4, b4⟩, ⟨a5, b5⟩, ⟨a6, b6⟩, ⟨a7, b7⟩⟩, ⟨x1, x2⟩, ⟨g1, g2⟩, ⟨n1, n2⟩⟩, ⟨⟨o1, o2⟩, ⟨d1, d2⟩⟩⟩, rfl⟩

set_option maxRecDepth 100000 in
/-- A list of requests that comes in. -/
theorem open_reqs {H : Type} {enc : TypeId × Value → H} {W : World} {r : Reach} {b0 base : Nat} {spare : Nat → Bool} {held : Bool} {v : Value} {d : DataW H} {p : List MemPlace}
    (hv : Value.okWide Tryz.prog W r b0 28 v) (h : DataW.Trod enc Tryz.prog W base spare held 28 v d p) : ∃ qs : List Rq, RqsAt W v qs ∧ (∀ q ∈ qs, q.ok ∧ q.byt) ∧ qs.length ≤ maxLen := by
  obtain ⟨a, len, cap, rfl⟩ := okWide_slice Tryz.underlying28 hv
  obtain ⟨fuel, hf⟩ := h
  have hf' : DataW.trod enc Tryz.prog W base spare held fuel 28 [.slice a len cap] = some (d, p) := by simpa [Value.cells] using hf
  rcases Deep.open_slice Tryz.underlying28 hf' with ⟨e, _⟩ | ⟨a', len', cap', m, n, D, Pl, e, hb, hlc, hcm, hm, _, hel⟩
  · simp at e
    obtain ⟨rfl, rfl, rfl⟩ := e
    exact ⟨[], Or.inl ⟨rfl, none, 0, rfl⟩, fun q hq => by simp at hq, by simp⟩
  · simp at e
    obtain ⟨rfl, rfl, rfl⟩ := e
    have hlm : len ≤ m := by rw [hm]; split <;> omega
    rw [Tryz.cells28] at hel
    have each : ∀ i, i < len → ∃ q : Rq, (q.ok ∧ q.byt) ∧ W.cells? base (a'.add (i * 13)) 13 = some (rqcl q) := by
      intro i hi
      obtain ⟨cs, h1, h2⟩ := hel i (by omega)
      obtain ⟨q, h3, rfl⟩ := req_of (World.cells?_some h1).2.1 h2
      exact ⟨q, h3, h1⟩
    rcases Nat.eq_zero_or_pos len with h0 | hp
    · subst h0
      exact ⟨[], Or.inl ⟨rfl, some a', cap, rfl⟩, fun q hq => by simp at hq, by simp⟩
    · have hchoose : ∃ Q : Nat → Rq, ∀ i, i < len → ((Q i).ok ∧ (Q i).byt) ∧ W.cells? base (a'.add (i * 13)) 13 = some (rqcl (Q i)) := by
        refine ⟨fun i => if h : i < len then (each i h).choose else Rq.zero, fun i hi => ?_⟩
        dsimp only
        rw [dif_pos hi]
        exact (each i hi).choose_spec
      obtain ⟨Q, hQ⟩ := hchoose
      have hc : ∀ i, i < len → ∀ j, j < 13 → W.cell? ((a'.add (i * 13)).add j) = (rqcl (Q i))[j]? := fun i hi j hj => (World.cells?_some (hQ i hi).2).2.2 j hj
      have hsp : a'.spot = none := by
        have := hc 0 hp 0 (by omega)
        exact World.cell?_spot (v := .int .u8 (Q 0).op) (by simpa [Addr.add] using this)
      obtain ⟨A, o, sp⟩ := a'
      simp at hsp
      subst hsp
      refine ⟨(List.range len).map Q, Or.inr ⟨by simpa using hp, A, o, cap, by simp, by simpa using hlc, ?_, fun i hi j => ?_⟩, fun q hq => ?_, by simp; omega⟩
      · exact World.cells?_block (hQ 0 hp).2 (by omega)
      · rcases Nat.lt_or_ge j 13 with hj | hj
        · left
          have hi' : i < len := by simpa using hi
          have := hc i hi' j hj
          rw [Deep.add_add, Addr.add_lit] at this
          rw [Nat.add_assoc, this]
          simp
        · right; exact hj
      · obtain ⟨i, hi, rfl⟩ := List.mem_map.1 hq
        exact (hQ i (List.mem_range.1 hi)).1
end Go.Proofs.YtlamgpeiolfffaaGreatDoor
