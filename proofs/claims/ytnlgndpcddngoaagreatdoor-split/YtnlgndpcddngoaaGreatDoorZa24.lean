import Derived.Test.YtnlgndpcddngoaaGreatDoorZa22
import Derived.Test.YtnlgndpcddngoaaGreatDoorZa21
import Derived.Maps.AppendAt
import Derived.Test.YtnlgndpcddngoaaGreatDoorZa23
import Derived.Test.YtnlgndpcddngoaaGreatDoorZa00
set_option linter.unusedSectionVars false
namespace Go.Proofs.YtnlgndpcddngoaaGreatDoor
open Go.RowKit
variable [dK] [iK]

/-- A reply with more behind it, read. -/
theorem rp_back (r : Rp) (h1 : 1 ≤ r.c) (h9 : r.c ≤ 9) (ha : 0 ≤ r.a ∧ r.a ≤ 18446744073709551615) (hb : 0 ≤ r.b ∧ r.b ≤ 18446744073709551615) (t : List Int) :
    rpErr (encRep r.c r.a r.b ++ t) = 0 ∧ rpN (encRep r.c r.a r.b ++ t) = 18 ∧ rpQ (encRep r.c r.a r.b ++ t) = r := by
  have e0 : encRep r.c r.a r.b ++ t = 17 :: r.c :: (be8 r.a ++ (be8 r.b ++ t)) := by simp [encRep]
  have hl : (encRep r.c r.a r.b ++ t).length = 18 + t.length := by rw [List.length_append]; rfl
  have hE : rpErr (encRep r.c r.a r.b ++ t) = 0 := by
    rw [e0]
    simp only [rpErr]
    rw [if_neg (by omega), if_pos (by unfold repLen; rw [if_neg (by omega)]), if_neg]
    rw [← e0, hl]; omega
  refine ⟨hE, by unfold rpN; rw [if_pos hE], ?_⟩
  unfold rpQ
  rw [if_pos hE]
  have hc : (encRep r.c r.a r.b ++ t).getD 1 0 = r.c := by rw [e0]; rfl
  have hA : num8 (encRep r.c r.a r.b ++ t) 2 = r.a := by
    rw [e0]
    refine Eq.trans ?_ (rd_be8 r.a ha.1 ha.2)
    unfold num8
    simp [rdTo, be8, List.getD]
  have hB : num8 (encRep r.c r.a r.b ++ t) 10 = r.b := by
    rw [e0]
    refine Eq.trans ?_ (rd_be8 r.b hb.1 hb.2)
    unfold num8
    simp [rdTo, be8, List.getD]
  rw [hc, hA, hB]
end Go.Proofs.YtnlgndpcddngoaaGreatDoor

namespace Go.Proofs.YtnlgndpcddngoaaGreatDoor
open Go.RowKit
variable [dK] [iK]

theorem Tryz.info40 : (Tryz.prog.info? 40).map (fun i => (i.zero, i.size, i.bytes)) = some (some (.agg #[.int .u8 0, .int .u64 0, .int .u64 0]), 3, 24) := by kernel_rfl
def rpc (r : Rp) : List Value := [.int .u8 r.c, .int .u64 r.a, .int .u64 r.b]
def rpcs (rs : List Rp) : List Value := rs.flatMap rpc
structure Rp.told (r : Rp) : Prop where
  c1 : 1 ≤ r.c
  c9 : r.c ≤ 9
  a : 0 ≤ r.a ∧ r.a ≤ 18446744073709551615
  b : 0 ≤ r.b ∧ r.b ≤ 18446744073709551615
theorem encs_bytes (rs : List Rp) (h : ∀ r ∈ rs, r.told) : Bytes (encs rs) := by
  intro x hx
  unfold encs at hx
  obtain ⟨r, hr, hx⟩ := List.mem_flatMap.1 hx
  have ht := h r hr
  have hb : ∀ (v : Int) x, x ∈ be8 v → 0 ≤ x ∧ x ≤ 255 := by
    intro v x hx
    simp only [be8, List.mem_cons, List.not_mem_nil, or_false] at hx
    rcases hx with rfl | rfl | rfl | rfl | rfl | rfl | rfl | rfl <;> exact nb_range v _
  simp only [encRep, List.mem_append, List.mem_cons, List.not_mem_nil, or_false] at hx
  have := ht.c1
  have := ht.c9
  rcases hx with (hx | hx) | hx
  · omega
  · exact hb _ _ hx
  · exact hb _ _ hx

set_option maxRecDepth 100000 in
set_option maxHeartbeats 4000000 in
theorem replies23 (s : ByteArray) (rs : List Rp) (w : World) (hs : numsOf s = encs rs) (hok : ∀ r ∈ rs, r.told) (hlen : rs.length ≤ 1000) (hgl : w.cell? ⟨0, 0, none⟩ = some (.iface 236 (.agg #[.pointer (some ⟨5, 97, none⟩)]))) :
    Calls Tryz.prog 27 #[.string s] w fun e w' => ∃ v, e = .returned (.tuple #[v, .bool true]) ∧ w'.ownsRow w.heap.size 40 3 v rs.length (rpcs rs) ∧ Below w.heap.size w w' := by
  have hbs := fun (w : World) (s : ByteArray) => run_bytes_of_string (P := Tryz.prog) w 9 76 5 s Tryz.underlying9 Tryz.underlying76 Tryz.underlying5
  obtain ⟨i0, hi, hz0, hz1, hz2⟩ := info_parts Tryz.info40
  have hlt0 : 0 < w.heap.size := by
    rcases Nat.eq_zero_or_pos w.heap.size with h0 | h
    · simp [World.cell?, h0] at hgl
    · exact h
  have HG := hide hgl
  have HS := hide hs
  have HOK := hide hok
  clear hgl hs hok
  go_enter Tryz.func27, Tryz.ntmps27
  go_wp2
  have hcap := grownCap_ge w s.size 0 5
  go_loopw [4, 5, 6, 7, 8] (fun s4 s5 _ _ _ wr => ∃ i : Nat, i ≤ rs.length ∧ Sl wr s5 (encs (rs.drop i)) ∧ wr.ownsRow w.heap.size 40 3 s4 i (rpcs (rs.take i)) ∧ Below w.heap.size w wr ∧ (∀ g o n c, s5 = .slice (some ⟨g, o, none⟩) n c → g < wr.heap.size ∧ s4.ownBlock ≠ some g)) (fun _ s5 _ _ _ _ => sliceLen s5)
  case atStart =>
    refine ⟨0, Nat.zero_le _, ?_, World.ownsRow_nil _ _ _ _, ((Below.refl _ w).alloc (Nat.le_refl _) _).drew, fun g o n c h => ⟨?_, by simp [Value.ownBlock]⟩⟩
    · rw [List.drop_zero, ← HS.out]
      exact Sl.of_bytes w s _ (by simpa using hcap)
    · injection h with h1 _ _; injection h1 with h1; injection h1 with h1 _; subst h1; simp
  case round =>
    obtain ⟨i, hi', hsl, hown, hb, hg4⟩ := hrel
    have hwr := hb.size
    by_cases hlt : i < rs.length
    · obtain ⟨r, hr⟩ : ∃ r, r = rs[i] := ⟨_, rfl⟩
      have htold : r.told := hr ▸ HOK.out _ (List.getElem_mem hlt)
      have hdr : encs (rs.drop i) = encRep r.c r.a r.b ++ encs (rs.drop (i + 1)) := by
        rw [List.drop_eq_getElem_cons hlt, ← hr]; rfl
      obtain ⟨bk1, bk2, bk3⟩ := rp_back r htold.c1 htold.c9 htold.a htold.b (encs (rs.drop (i + 1)))
      rw [← hdr] at bk1 bk2 bk3
      have hle : (encs (rs.drop i)).length = 18 + (encs (rs.drop (i + 1))).length := by rw [hdr, List.length_append]; rfl
      have hle2 : (encs (rs.drop i)).length ≤ 18000 := by rw [encs_length, List.length_drop]; omega
      have hbt : Bytes (encs (rs.drop i)) := encs_bytes _ (fun x hx => HOK.out x (List.mem_of_mem_drop hx))
      rcases hsl with ⟨hnil, _⟩ | ⟨hp, g, o, c, hv, hc, hg, hcell⟩
      · rw [hnil] at hle; simp at hle; omega
      subst hv
      have hg4' := hg4 g o _ c rfl
      have hsrc : Src wr (.slice (some ⟨g, o, none⟩) (encs (rs.drop i)).length c) (encs (rs.drop i)) := Sl.src (Or.inr ⟨hp, g, o, c, rfl, hc, hg, hcell⟩)
      have h39 := read17 _ (encs (rs.drop i)) wr hsrc (by omega) hbt.getD r bk3.symm 18 0 bk2.symm bk1.symm ((hb.cell (p := ⟨0, 0, none⟩) hlt0).trans HG.out)
      obtain ⟨n, hn⟩ : ∃ n, n = (encs (rs.drop i)).length := ⟨_, rfl⟩
      rw [← hn] at h39 hle hle2 hp hc ⊢
      have HN := hide hn
      have HD := hide hdr
      have HR := hide hr
      have HCE := hide hcell
      have hn18 : 18 ≤ n := by omega
      have hn18' : (18 : Int) ≤ (n : Int) := by omega
      have hnpos : 0 < n := by omega
      have hnposI : (0 : Int) < (n : Int) := by omega
      have H39 := hide h39
      have HLE := hide hle
      have hn2 : (n : Int) ≤ 18000 := by omega
      clear hle hle2
      have HO := hide hown
      have HSR := hide hsrc
      clear hn hdr hr bk1 bk2 bk3 hbt h39 hown hsrc hg4 hcell
      go_wp2_with fail
      refine H39.out.mono ?_
      rintro e w2 ⟨rfl, hb2⟩
      have hs2 := hb2.size
      clear hbs
      obtain ⟨W, hW⟩ : ∃ W, W = (w2.alloc (.cells #[.int .u8 r.c, .int .u64 r.a, .int .u64 r.b] 40)).alloc (.cells #[.int .u8 r.c, .int .u64 r.a, .int .u64 r.b] 40) := ⟨_, rfl⟩
      have hWk : ∀ z, z < w2.heap.size → W.heap[z]? = w2.heap[z]? := fun z hz => by rw [hW, heapOld _ _ (by simp; omega), heapOld _ _ hz]
      have hWs : W.heap.size = w2.heap.size + 2 := by rw [hW]; simp
      have HOW : Hid (W.ownsRow w.heap.size 40 3 u4 i (rpcs (rs.take i))) := hide (own_keptE HO.out (fun z hz => (hWk z (Nat.lt_of_lt_of_le (own_ltE HO.out hz).2 hs2)).trans (hb2.block z (own_ltE HO.out hz).2)))
      have HCL : Hid (∀ j u, (rpc r)[j]? = some u → W.cell? ((⟨w2.heap.size + 1, 0, none⟩ : Addr).add j) = some u) := hide (fun j u hj => by
        rw [Addr.add_lit, Nat.zero_add, hW, cellB (heapN (by simp)) j, ← hj]
        simp [rpc])
      have HBW : Hid (Below w.heap.size w W) := hide (by rw [hW]; exact ((hb.trans (hb2.mono hwr)).alloc (by omega) _).alloc (by simp; omega) _)
      have HWK := hide hWk
      have HWS := hide hWs
      clear hWk hWs
      go_wp2_with (at_builtin; (rw [← hW]; refine wpList_append_own_at _ rfl _ _ 73 rfl w.heap.size 40 i0 (.agg #[.int .u8 0, .int .u64 0, .int .u64 0]) 3 24 Tryz.underlying73 hi hz0 hz1 hz2 rfl (by decide) u4 i (rpcs (rs.take i)) rfl HOW.out ⟨w2.heap.size + 1, 0, none⟩ 1 1 (rpc r) rfl rfl HCL.out (by simp [rpc, Value.oneCell']) (by unfold maxLen; omega) (by omega) HBW.out.size ?_; intro v5 w4 hown4 hgr4 hnil4 hloc4; clear hW))
      have hgl4 : g < w2.heap.size := Nat.lt_of_lt_of_le hg4'.1 hs2
      have hk4 : w4.heap[g]? = wr.heap[g]? := (hgr4.block g (by rw [HWS.out]; omega) (fun e => hg4'.2 e.symm)).trans ((HWK.out g hgl4).trans (hb2.block g hg4'.1))
      have hwl := HBW.out.size
      have hwl4 := hgr4.size
      have hB4 : Below w.heap.size w w4 := ⟨hgr4.os.trans HBW.out.os, hgr4.tape.trans HBW.out.tape, hgr4.output.trans HBW.out.output, Nat.le_trans hwl hwl4, fun k hk => (hgr4.block k (by omega) (fun e => by have := (own_ltE HO.out e.symm).1; omega)).trans (HBW.out.block k hk)⟩
      have hnl : n - 18 = (encs (rs.drop (i + 1))).length := by have := HLE.out; omega
      go_roundw
      case rel =>
        refine ⟨i + 1, hlt, ?_, ?_, hB4, fun g' o' n' c' h => ?_⟩
        · by_cases h0 : n - 18 = 0
          · refine Or.inl ⟨List.length_eq_zero_iff.1 (hnl.symm.trans h0), Or.inr ?_⟩
            rw [h0]
            split
            · exact ⟨_, _, _, rfl⟩
            · exact ⟨_, _, _, rfl⟩
          · rw [if_neg (by omega)]
            refine Or.inr ⟨by omega, g, o + 18, c - 18, by rw [hnl], by omega, by rw [HWS.out] at hwl4; omega, fun j hj => ?_⟩
            have hj2 : 18 + j < (encs (rs.drop i)).length := by have := HN.out; omega
            rw [World.cell?_of_block (w := wr) hk4, Nat.add_assoc, HCE.out (18 + j) hj2, HD.out]
            congr 2
            simp only [List.getD]
            rw [List.getElem?_append_right (by simp [encRep, be8])]
            simp [encRep, be8]
        · have ht : rpcs (rs.take (i + 1)) = rpcs (rs.take i) ++ rpc r := by
            have htk : rs.take (i + 1) = rs.take i ++ [rs[i]] := by rw [List.take_add_one, List.getElem?_eq_getElem hlt]; rfl
            rw [htk, HR.out]
            unfold rpcs
            rw [List.flatMap_append]
            simp only [List.flatMap_cons, List.flatMap_nil, List.append_nil]
          rw [ht]
          exact hown4
        · have e : g' = g := by
            split at h <;> (injection h with h1 _ _; injection h1 with h1; injection h1 with h1 _; exact h1.symm)
          subst e
          refine ⟨by rw [HWS.out] at hwl4; omega, fun e => ?_⟩
          rcases hloc4 with h4 | h4
          · exact hg4'.2 (h4 ▸ e)
          · rw [h4, HWS.out] at e
            injection e with e
            omega
      case measure =>
        simp only [sliceLen]
        omega
    · obtain rfl : i = rs.length := by omega
      rw [List.drop_of_length_le (Nat.le_refl _)] at hsl
      rw [List.take_of_length_le (Nat.le_refl _)] at hown
      have HO := hide hown
      obtain ⟨ya, yc, hyw⟩ := own_sliceE hown
      subst hyw
      clear hbs hown hg4
      rcases hsl with ⟨_, rfl | ⟨g, o, c, rfl⟩⟩ | ⟨hp, _⟩
      · go_wp2
        go_ret2
        exact ⟨_, rfl, HO.out, hb⟩
      · go_wp2
        go_ret2
        exact ⟨_, rfl, HO.out, hb⟩
      · simp [encs] at hp
end Go.Proofs.YtnlgndpcddngoaaGreatDoor

namespace Go.Proofs.YtnlgndpcddngoaaGreatDoor
open Go.RowKit Go.Maps
variable [dK] [iK]

theorem wpList_len_run {P : Program} (w : World) {ops : Array Oper} {rest : List Oper} {o : Oper} {a : Act} {Q : Exit → Act → World → Prop} (hg : o.guard = none) (m : Operand) (t : TypeId) (hop : o.op = Op.call { callee := Callee.builtin Builtin.len, args := #[m], argTypes := #[t] })
    (vm : Value) (hm : a.eval m = vm) (r : Value) (hrun : (Builtin.len_ #[t] o.type #[vm]).run P w = .ok r w) (hK : wpList P ops Q rest (a.put o.dst r) w) :
    wpList P ops Q (o :: rest) a w := by
  refine wpList_plain hg fun K' hK' => ?_
  unfold Oper.wp
  simp [execOp, hop, resolve, invoke, builtin, hm, hrun, Result.andThen]
  exact hK' _ _ hK

set_option maxRecDepth 100000 in
set_option maxHeartbeats 4000000 in
theorem bdef_bad0 (sb mp : Nat) (s0 s1 sp adm : Value) (time blk : Int) (es : Es) (k : Ky) (w : World) (hs : w.heap[sb]? = some (.cells #[s0, s1, .int .u64 time, .int .u64 blk, .map (some mp), sp, adm] 130)) (hm : MapE w mp es) (hk : k.ok) (kd x y : Int) (hso : ¬ ((kd = 1 ∧ 1 ≤ x) ∨ (kd = 2 ∧ 1 ≤ y))) (hf : fndG k es = none) :
    Calls Tryz.prog 109 #[.pointer (some ⟨sb, 2, none⟩), .agg #[.int .u8 k.k0, .int .u8 k.k1, .int .u8 k.k2, .int .u8 k.k3, .int .u8 k.k4, .int .u8 k.k5, .int .u8 k.k6, .int .u8 k.k7], .agg #[.int .u8 kd, .int .u64 x, .int .u64 y]] w fun e w' => e = .returned (.agg #[.int .u8 8, .int .u64 0, .int .u64 0]) ∧ Below w.heap.size w w' := by
  have hmlt := MapG.lt hm
  have hsb := ltB hs
  go_enter Tryz.func109, Tryz.ntmps109
  go_wp2_with fail
  refine (qnew_bad kd x y _ hso).mono ?_
  rintro e w1 ⟨rfl, hb1⟩
  have hb1' : Below w.heap.size w w1 := ((((Below.refl _ w).alloc (Nat.le_refl _) _).alloc (by simp) _).alloc (by simp <;> omega) _).trans (hb1.mono (by simp <;> omega))
  have hk9 : w1.heap[w.heap.size]? = some (.cells #[.int .u8 k.k0, .int .u8 k.k1, .int .u8 k.k2, .int .u8 k.k3, .int .u8 k.k4, .int .u8 k.k5, .int .u8 k.k6, .int .u8 k.k7] 63) := (hb1.block _ (by simp <;> omega)).trans (upB (upB (heapNew _ _) _) _)
  have hr9 : w1.heap[w.heap.size + 2]? = some (.cells #[.int .u8 0, .int .u64 0, .int .u64 0] 40) := (hb1.block _ (by simp <;> omega)).trans (heapN (by simp))
  have hs9 : w1.heap[sb]? = some (.cells #[s0, s1, .int .u64 time, .int .u64 blk, .map (some mp), sp, adm] 130) := (hb1.block _ (by simp <;> omega)).trans (upB (upB (upB hs _) _) _)
  have hm9 : MapE w1 mp es := MapG.kept hm (hb1'.block mp hmlt)
  clear hb1 hs hm
  go_upto_region 2 with fail
  obtain ⟨W, hW⟩ : ∃ W, W = w1.alloc (.cells #[.int .u8 0, .int .u64 0, .int .u64 0, .int .u64 0, .int .u64 0] 173) := ⟨_, rfl⟩
  rw [← hW]
  have hB : Below w.heap.size w W := hW ▸ hb1'.alloc hb1'.size _
  have hk0 : W.heap[w.heap.size]? = some (.cells #[.int .u8 k.k0, .int .u8 k.k1, .int .u8 k.k2, .int .u8 k.k3, .int .u8 k.k4, .int .u8 k.k5, .int .u8 k.k6, .int .u8 k.k7] 63) := hW ▸ upB hk9 _
  have hr0 : W.heap[w.heap.size + 2]? = some (.cells #[.int .u8 0, .int .u64 0, .int .u64 0] 40) := hW ▸ upB hr9 _
  have hs0 : W.heap[sb]? = some (.cells #[s0, s1, .int .u64 time, .int .u64 blk, .map (some mp), sp, adm] 130) := hW ▸ upB hs9 _
  have hq0 : W.heap[w1.heap.size]? = some (.cells #[.int .u8 0, .int .u64 0, .int .u64 0, .int .u64 0, .int .u64 0] 173) := hW ▸ heapNew _ _
  have hm0 : MapE W mp es := hW ▸ MapG.kept hm9 (heapOld _ _ (MapG.lt hm9))
  have lr9 := ltB hr9
  clear hW hb1' hk9 hr9 hs9 hm9
  have a1 := cellB hk0
  have a2 := upC hk0 (.cells #[.int .u8 0, .int .u64 0, .int .u64 0, .int .u64 0, .int .u64 0, .int .u8 0, .int .u64 0, .int .u64 0, .int .u64 0, .int .u64 0] 177)
  have a3 := cellB hs0
  have a4 := upC hs0 (.cells #[.int .u8 0, .int .u64 0, .int .u64 0, .int .u64 0, .int .u64 0, .int .u8 0, .int .u64 0, .int .u64 0, .int .u64 0, .int .u64 0] 177)
  have a5 := lookE0 (w := W.drew) (MapG.kept hm0 rfl) hk hf
  have a6 := lookE0 (w := (W.alloc (.cells #[.int .u8 0, .int .u64 0, .int .u64 0, .int .u64 0, .int .u64 0, .int .u8 0, .int .u64 0, .int .u64 0, .int .u64 0, .int .u64 0] 177)).drew) (MapG.kept hm0 (heapOld _ _ (MapG.lt hm0))) hk hf
  go_cut [9, 10] (fun s5 s6 wx => s5 = .pointer (some ⟨W.heap.size, 0, none⟩) ∧ s6 = .bool false ∧ wx = (W.alloc (.cells #[.int .u8 0, .int .u64 0, .int .u64 0, .int .u64 0, .int .u64 0, .int .u8 0, .int .u64 0, .int .u64 0, .int .u64 0, .int .u64 0] 177)).drew)
  case first =>
    go_region
    all_goals (go_wp2_with fail; go_meet)
    all_goals exact ⟨rfl, rfl, rfl⟩
  case rest =>
    obtain ⟨rfl, rfl, rfl⟩ := hcut
    have hk1 := upB hk0 (.cells #[.int .u8 0, .int .u64 0, .int .u64 0, .int .u64 0, .int .u64 0, .int .u8 0, .int .u64 0, .int .u64 0, .int .u64 0, .int .u64 0] 177)
    have hr1 := upB hr0 (.cells #[.int .u8 0, .int .u64 0, .int .u64 0, .int .u64 0, .int .u64 0, .int .u8 0, .int .u64 0, .int .u64 0, .int .u64 0, .int .u64 0] 177)
    have hs1 := upB hs0 (.cells #[.int .u8 0, .int .u64 0, .int .u64 0, .int .u64 0, .int .u64 0, .int .u8 0, .int .u64 0, .int .u64 0, .int .u64 0, .int .u64 0] 177)
    have hq1 := upB hq0 (.cells #[.int .u8 0, .int .u64 0, .int .u64 0, .int .u64 0, .int .u64 0, .int .u8 0, .int .u64 0, .int .u64 0, .int .u64 0, .int .u64 0] 177)
    have hm1 : MapE (W.alloc (.cells #[.int .u8 0, .int .u64 0, .int .u64 0, .int .u64 0, .int .u64 0, .int .u8 0, .int .u64 0, .int .u64 0, .int .u64 0, .int .u64 0] 177)) mp es := MapG.kept hm0 (heapOld _ _ (MapG.lt hm0))
    have hB1 := hB.alloc hB.size (.cells #[.int .u8 0, .int .u64 0, .int .u64 0, .int .u64 0, .int .u64 0, .int .u8 0, .int .u64 0, .int .u64 0, .int .u64 0, .int .u64 0] 177)
    have hB0 := hB.size
    clear a1 a2 a3 a4 a5 a6 hk0 hr0 hs0 hm0 hq0
    have b1 := cellB hr1
    have b2 := frozenB hr1
    go_wp2
    refine bodyPost_ret (v := .agg #[.int .u8 8, .int .u64 0, .int .u64 0]) (by simp [results, Tryz.results109, go_sem, b1]) rfl ⟨rfl, Below.drew ?_⟩
    repeat (refine Below.setCell ?_ (by simp <;> omega) _)
    exact hB1

set_option maxRecDepth 100000 in
set_option maxHeartbeats 4000000 in
theorem bdef_bad1 (sb mp : Nat) (s0 s1 sp adm : Value) (time blk : Int) (es : Es) (k : Ky) (w : World) (hs : w.heap[sb]? = some (.cells #[s0, s1, .int .u64 time, .int .u64 blk, .map (some mp), sp, adm] 130)) (hm : MapE w mp es) (hk : k.ok) (kd x y : Int) (hso : ¬ ((kd = 1 ∧ 1 ≤ x) ∨ (kd = 2 ∧ 1 ≤ y))) (p1 p2 : Qt) (hf : fndG k es = some (p1, p2)) :
    Calls Tryz.prog 109 #[.pointer (some ⟨sb, 2, none⟩), .agg #[.int .u8 k.k0, .int .u8 k.k1, .int .u8 k.k2, .int .u8 k.k3, .int .u8 k.k4, .int .u8 k.k5, .int .u8 k.k6, .int .u8 k.k7], .agg #[.int .u8 kd, .int .u64 x, .int .u64 y]] w fun e w' => e = .returned (.agg #[.int .u8 8, .int .u64 0, .int .u64 0]) ∧ Below w.heap.size w w' := by
  have hmlt := MapG.lt hm
  have hsb := ltB hs
  go_enter Tryz.func109, Tryz.ntmps109
  go_wp2_with fail
  refine (qnew_bad kd x y _ hso).mono ?_
  rintro e w1 ⟨rfl, hb1⟩
  have hb1' : Below w.heap.size w w1 := ((((Below.refl _ w).alloc (Nat.le_refl _) _).alloc (by simp) _).alloc (by simp <;> omega) _).trans (hb1.mono (by simp <;> omega))
  have hk9 : w1.heap[w.heap.size]? = some (.cells #[.int .u8 k.k0, .int .u8 k.k1, .int .u8 k.k2, .int .u8 k.k3, .int .u8 k.k4, .int .u8 k.k5, .int .u8 k.k6, .int .u8 k.k7] 63) := (hb1.block _ (by simp <;> omega)).trans (upB (upB (heapNew _ _) _) _)
  have hr9 : w1.heap[w.heap.size + 2]? = some (.cells #[.int .u8 0, .int .u64 0, .int .u64 0] 40) := (hb1.block _ (by simp <;> omega)).trans (heapN (by simp))
  have hs9 : w1.heap[sb]? = some (.cells #[s0, s1, .int .u64 time, .int .u64 blk, .map (some mp), sp, adm] 130) := (hb1.block _ (by simp <;> omega)).trans (upB (upB (upB hs _) _) _)
  have hm9 : MapE w1 mp es := MapG.kept hm (hb1'.block mp hmlt)
  clear hb1 hs hm
  go_upto_region 2 with fail
  obtain ⟨W, hW⟩ : ∃ W, W = w1.alloc (.cells #[.int .u8 0, .int .u64 0, .int .u64 0, .int .u64 0, .int .u64 0] 173) := ⟨_, rfl⟩
  rw [← hW]
  have hB : Below w.heap.size w W := hW ▸ hb1'.alloc hb1'.size _
  have hk0 : W.heap[w.heap.size]? = some (.cells #[.int .u8 k.k0, .int .u8 k.k1, .int .u8 k.k2, .int .u8 k.k3, .int .u8 k.k4, .int .u8 k.k5, .int .u8 k.k6, .int .u8 k.k7] 63) := hW ▸ upB hk9 _
  have hr0 : W.heap[w.heap.size + 2]? = some (.cells #[.int .u8 0, .int .u64 0, .int .u64 0] 40) := hW ▸ upB hr9 _
  have hs0 : W.heap[sb]? = some (.cells #[s0, s1, .int .u64 time, .int .u64 blk, .map (some mp), sp, adm] 130) := hW ▸ upB hs9 _
  have hq0 : W.heap[w1.heap.size]? = some (.cells #[.int .u8 0, .int .u64 0, .int .u64 0, .int .u64 0, .int .u64 0] 173) := hW ▸ heapNew _ _
  have hm0 : MapE W mp es := hW ▸ MapG.kept hm9 (heapOld _ _ (MapG.lt hm9))
  have lr9 := ltB hr9
  clear hW hb1' hk9 hr9 hs9 hm9
  have a1 := cellB hk0
  have a2 := upC hk0 (.cells #[.int .u8 0, .int .u64 0, .int .u64 0, .int .u64 0, .int .u64 0, .int .u8 0, .int .u64 0, .int .u64 0, .int .u64 0, .int .u64 0] 177)
  have a3 := cellB hs0
  have a4 := upC hs0 (.cells #[.int .u8 0, .int .u64 0, .int .u64 0, .int .u64 0, .int .u64 0, .int .u8 0, .int .u64 0, .int .u64 0, .int .u64 0, .int .u64 0] 177)
  have a5 := lookE1 (w := W.drew) (MapG.kept hm0 rfl) hk hf
  have a6 := lookE1 (w := (W.alloc (.cells #[.int .u8 0, .int .u64 0, .int .u64 0, .int .u64 0, .int .u64 0, .int .u8 0, .int .u64 0, .int .u64 0, .int .u64 0, .int .u64 0] 177)).drew) (MapG.kept hm0 (heapOld _ _ (MapG.lt hm0))) hk hf
  go_cut [9, 10] (fun s5 s6 wx => s5 = .pointer (some ⟨W.heap.size, 0, none⟩) ∧ s6 = .bool true ∧ wx = (W.alloc (.cells #[.int .u8 p1.kd, .int .u64 p1.x, .int .u64 p1.y, .int .u64 p1.lv, .int .u64 p1.wn, .int .u8 p2.kd, .int .u64 p2.x, .int .u64 p2.y, .int .u64 p2.lv, .int .u64 p2.wn] 177)).drew)
  case first =>
    go_region
    all_goals (go_wp2_with fail; go_meet)
    all_goals exact ⟨rfl, rfl, rfl⟩
  case rest =>
    obtain ⟨rfl, rfl, rfl⟩ := hcut
    have hk1 := upB hk0 (.cells #[.int .u8 p1.kd, .int .u64 p1.x, .int .u64 p1.y, .int .u64 p1.lv, .int .u64 p1.wn, .int .u8 p2.kd, .int .u64 p2.x, .int .u64 p2.y, .int .u64 p2.lv, .int .u64 p2.wn] 177)
    have hr1 := upB hr0 (.cells #[.int .u8 p1.kd, .int .u64 p1.x, .int .u64 p1.y, .int .u64 p1.lv, .int .u64 p1.wn, .int .u8 p2.kd, .int .u64 p2.x, .int .u64 p2.y, .int .u64 p2.lv, .int .u64 p2.wn] 177)
    have hs1 := upB hs0 (.cells #[.int .u8 p1.kd, .int .u64 p1.x, .int .u64 p1.y, .int .u64 p1.lv, .int .u64 p1.wn, .int .u8 p2.kd, .int .u64 p2.x, .int .u64 p2.y, .int .u64 p2.lv, .int .u64 p2.wn] 177)
    have hq1 := upB hq0 (.cells #[.int .u8 p1.kd, .int .u64 p1.x, .int .u64 p1.y, .int .u64 p1.lv, .int .u64 p1.wn, .int .u8 p2.kd, .int .u64 p2.x, .int .u64 p2.y, .int .u64 p2.lv, .int .u64 p2.wn] 177)
    have hm1 : MapE (W.alloc (.cells #[.int .u8 p1.kd, .int .u64 p1.x, .int .u64 p1.y, .int .u64 p1.lv, .int .u64 p1.wn, .int .u8 p2.kd, .int .u64 p2.x, .int .u64 p2.y, .int .u64 p2.lv, .int .u64 p2.wn] 177)) mp es := MapG.kept hm0 (heapOld _ _ (MapG.lt hm0))
    have hB1 := hB.alloc hB.size (.cells #[.int .u8 p1.kd, .int .u64 p1.x, .int .u64 p1.y, .int .u64 p1.lv, .int .u64 p1.wn, .int .u8 p2.kd, .int .u64 p2.x, .int .u64 p2.y, .int .u64 p2.lv, .int .u64 p2.wn] 177)
    have hB0 := hB.size
    clear a1 a2 a3 a4 a5 a6 hk0 hr0 hs0 hm0 hq0
    have b1 := cellB hr1
    have b2 := frozenB hr1
    go_wp2
    refine bodyPost_ret (v := .agg #[.int .u8 8, .int .u64 0, .int .u64 0]) (by simp [results, Tryz.results109, go_sem, b1]) rfl ⟨rfl, Below.drew ?_⟩
    repeat (refine Below.setCell ?_ (by simp <;> omega) _)
    exact hB1

set_option maxRecDepth 100000 in
set_option maxHeartbeats 4000000 in
theorem bdef_exists (sb mp : Nat) (s0 s1 sp adm : Value) (time blk : Int) (es : Es) (k : Ky) (w : World) (hs : w.heap[sb]? = some (.cells #[s0, s1, .int .u64 time, .int .u64 blk, .map (some mp), sp, adm] 130)) (hm : MapE w mp es) (hk : k.ok) (kd x y : Int) (hso : ((kd = 1 ∧ 1 ≤ x) ∨ (kd = 2 ∧ 1 ≤ y))) (p1 p2 : Qt) (hf : fndG k es = some (p1, p2)) :
    Calls Tryz.prog 109 #[.pointer (some ⟨sb, 2, none⟩), .agg #[.int .u8 k.k0, .int .u8 k.k1, .int .u8 k.k2, .int .u8 k.k3, .int .u8 k.k4, .int .u8 k.k5, .int .u8 k.k6, .int .u8 k.k7], .agg #[.int .u8 kd, .int .u64 x, .int .u64 y]] w fun e w' => e = .returned (.agg #[.int .u8 9, .int .u64 0, .int .u64 0]) ∧ Below w.heap.size w w' := by
  have hmlt := MapG.lt hm
  have hsb := ltB hs
  go_enter Tryz.func109, Tryz.ntmps109
  go_wp2_with fail
  refine (qnew_ok kd x y _ hso).mono ?_
  rintro e w1 ⟨rfl, hb1⟩
  have hb1' : Below w.heap.size w w1 := ((((Below.refl _ w).alloc (Nat.le_refl _) _).alloc (by simp) _).alloc (by simp <;> omega) _).trans (hb1.mono (by simp <;> omega))
  have hk9 : w1.heap[w.heap.size]? = some (.cells #[.int .u8 k.k0, .int .u8 k.k1, .int .u8 k.k2, .int .u8 k.k3, .int .u8 k.k4, .int .u8 k.k5, .int .u8 k.k6, .int .u8 k.k7] 63) := (hb1.block _ (by simp <;> omega)).trans (upB (upB (heapNew _ _) _) _)
  have hr9 : w1.heap[w.heap.size + 2]? = some (.cells #[.int .u8 0, .int .u64 0, .int .u64 0] 40) := (hb1.block _ (by simp <;> omega)).trans (heapN (by simp))
  have hs9 : w1.heap[sb]? = some (.cells #[s0, s1, .int .u64 time, .int .u64 blk, .map (some mp), sp, adm] 130) := (hb1.block _ (by simp <;> omega)).trans (upB (upB (upB hs _) _) _)
  have hm9 : MapE w1 mp es := MapG.kept hm (hb1'.block mp hmlt)
  clear hb1 hs hm
  go_upto_region 2 with fail
  obtain ⟨W, hW⟩ : ∃ W, W = w1.alloc (.cells #[.int .u8 kd, .int .u64 x, .int .u64 y, .int .u64 0, .int .u64 0] 173) := ⟨_, rfl⟩
  rw [← hW]
  have hB : Below w.heap.size w W := hW ▸ hb1'.alloc hb1'.size _
  have hk0 : W.heap[w.heap.size]? = some (.cells #[.int .u8 k.k0, .int .u8 k.k1, .int .u8 k.k2, .int .u8 k.k3, .int .u8 k.k4, .int .u8 k.k5, .int .u8 k.k6, .int .u8 k.k7] 63) := hW ▸ upB hk9 _
  have hr0 : W.heap[w.heap.size + 2]? = some (.cells #[.int .u8 0, .int .u64 0, .int .u64 0] 40) := hW ▸ upB hr9 _
  have hs0 : W.heap[sb]? = some (.cells #[s0, s1, .int .u64 time, .int .u64 blk, .map (some mp), sp, adm] 130) := hW ▸ upB hs9 _
  have hq0 : W.heap[w1.heap.size]? = some (.cells #[.int .u8 kd, .int .u64 x, .int .u64 y, .int .u64 0, .int .u64 0] 173) := hW ▸ heapNew _ _
  have hm0 : MapE W mp es := hW ▸ MapG.kept hm9 (heapOld _ _ (MapG.lt hm9))
  have lr9 := ltB hr9
  clear hW hb1' hk9 hr9 hs9 hm9
  have a1 := cellB hk0
  have a2 := upC hk0 (.cells #[.int .u8 0, .int .u64 0, .int .u64 0, .int .u64 0, .int .u64 0, .int .u8 0, .int .u64 0, .int .u64 0, .int .u64 0, .int .u64 0] 177)
  have a3 := cellB hs0
  have a4 := upC hs0 (.cells #[.int .u8 0, .int .u64 0, .int .u64 0, .int .u64 0, .int .u64 0, .int .u8 0, .int .u64 0, .int .u64 0, .int .u64 0, .int .u64 0] 177)
  have a5 := lookE1 (w := W.drew) (MapG.kept hm0 rfl) hk hf
  have a6 := lookE1 (w := (W.alloc (.cells #[.int .u8 0, .int .u64 0, .int .u64 0, .int .u64 0, .int .u64 0, .int .u8 0, .int .u64 0, .int .u64 0, .int .u64 0, .int .u64 0] 177)).drew) (MapG.kept hm0 (heapOld _ _ (MapG.lt hm0))) hk hf
  go_cut [9, 10] (fun s5 s6 wx => s5 = .pointer (some ⟨W.heap.size, 0, none⟩) ∧ s6 = .bool true ∧ wx = (W.alloc (.cells #[.int .u8 p1.kd, .int .u64 p1.x, .int .u64 p1.y, .int .u64 p1.lv, .int .u64 p1.wn, .int .u8 p2.kd, .int .u64 p2.x, .int .u64 p2.y, .int .u64 p2.lv, .int .u64 p2.wn] 177)).drew)
  case first =>
    go_region
    all_goals (go_wp2_with fail; go_meet)
    all_goals exact ⟨rfl, rfl, rfl⟩
  case rest =>
    obtain ⟨rfl, rfl, rfl⟩ := hcut
    have hk1 := upB hk0 (.cells #[.int .u8 p1.kd, .int .u64 p1.x, .int .u64 p1.y, .int .u64 p1.lv, .int .u64 p1.wn, .int .u8 p2.kd, .int .u64 p2.x, .int .u64 p2.y, .int .u64 p2.lv, .int .u64 p2.wn] 177)
    have hr1 := upB hr0 (.cells #[.int .u8 p1.kd, .int .u64 p1.x, .int .u64 p1.y, .int .u64 p1.lv, .int .u64 p1.wn, .int .u8 p2.kd, .int .u64 p2.x, .int .u64 p2.y, .int .u64 p2.lv, .int .u64 p2.wn] 177)
    have hs1 := upB hs0 (.cells #[.int .u8 p1.kd, .int .u64 p1.x, .int .u64 p1.y, .int .u64 p1.lv, .int .u64 p1.wn, .int .u8 p2.kd, .int .u64 p2.x, .int .u64 p2.y, .int .u64 p2.lv, .int .u64 p2.wn] 177)
    have hq1 := upB hq0 (.cells #[.int .u8 p1.kd, .int .u64 p1.x, .int .u64 p1.y, .int .u64 p1.lv, .int .u64 p1.wn, .int .u8 p2.kd, .int .u64 p2.x, .int .u64 p2.y, .int .u64 p2.lv, .int .u64 p2.wn] 177)
    have hm1 : MapE (W.alloc (.cells #[.int .u8 p1.kd, .int .u64 p1.x, .int .u64 p1.y, .int .u64 p1.lv, .int .u64 p1.wn, .int .u8 p2.kd, .int .u64 p2.x, .int .u64 p2.y, .int .u64 p2.lv, .int .u64 p2.wn] 177)) mp es := MapG.kept hm0 (heapOld _ _ (MapG.lt hm0))
    have hB1 := hB.alloc hB.size (.cells #[.int .u8 p1.kd, .int .u64 p1.x, .int .u64 p1.y, .int .u64 p1.lv, .int .u64 p1.wn, .int .u8 p2.kd, .int .u64 p2.x, .int .u64 p2.y, .int .u64 p2.lv, .int .u64 p2.wn] 177)
    have hB0 := hB.size
    clear a1 a2 a3 a4 a5 a6 hk0 hr0 hs0 hm0 hq0
    have b1 := cellB hr1
    have b2 := frozenB hr1
    go_wp2
    refine bodyPost_ret (v := .agg #[.int .u8 9, .int .u64 0, .int .u64 0]) (by simp [results, Tryz.results109, go_sem, b1]) rfl ⟨rfl, Below.drew ?_⟩
    repeat (refine Below.setCell ?_ (by simp <;> omega) _)
    exact hB1

set_option maxRecDepth 100000 in
set_option maxHeartbeats 4000000 in
theorem bdef_full (sb mp : Nat) (s0 s1 sp adm : Value) (time blk : Int) (es : Es) (k : Ky) (w : World) (hs : w.heap[sb]? = some (.cells #[s0, s1, .int .u64 time, .int .u64 blk, .map (some mp), sp, adm] 130)) (hm : MapE w mp es) (hk : k.ok) (kd x y : Int) (hso : ((kd = 1 ∧ 1 ≤ x) ∨ (kd = 2 ∧ 1 ≤ y))) (hf : fndG k es = none) (hl : 12 ≤ es.length) :
    Calls Tryz.prog 109 #[.pointer (some ⟨sb, 2, none⟩), .agg #[.int .u8 k.k0, .int .u8 k.k1, .int .u8 k.k2, .int .u8 k.k3, .int .u8 k.k4, .int .u8 k.k5, .int .u8 k.k6, .int .u8 k.k7], .agg #[.int .u8 kd, .int .u64 x, .int .u64 y]] w fun e w' => e = .returned (.agg #[.int .u8 5, .int .u64 0, .int .u64 0]) ∧ Below w.heap.size w w' := by
  have hmlt := MapG.lt hm
  have hsb := ltB hs
  go_enter Tryz.func109, Tryz.ntmps109
  go_wp2_with fail
  refine (qnew_ok kd x y _ hso).mono ?_
  rintro e w1 ⟨rfl, hb1⟩
  have hb1' : Below w.heap.size w w1 := ((((Below.refl _ w).alloc (Nat.le_refl _) _).alloc (by simp) _).alloc (by simp <;> omega) _).trans (hb1.mono (by simp <;> omega))
  have hk9 : w1.heap[w.heap.size]? = some (.cells #[.int .u8 k.k0, .int .u8 k.k1, .int .u8 k.k2, .int .u8 k.k3, .int .u8 k.k4, .int .u8 k.k5, .int .u8 k.k6, .int .u8 k.k7] 63) := (hb1.block _ (by simp <;> omega)).trans (upB (upB (heapNew _ _) _) _)
  have hr9 : w1.heap[w.heap.size + 2]? = some (.cells #[.int .u8 0, .int .u64 0, .int .u64 0] 40) := (hb1.block _ (by simp <;> omega)).trans (heapN (by simp))
  have hs9 : w1.heap[sb]? = some (.cells #[s0, s1, .int .u64 time, .int .u64 blk, .map (some mp), sp, adm] 130) := (hb1.block _ (by simp <;> omega)).trans (upB (upB (upB hs _) _) _)
  have hm9 : MapE w1 mp es := MapG.kept hm (hb1'.block mp hmlt)
  clear hb1 hs hm
  go_upto_region 2 with fail
  obtain ⟨W, hW⟩ : ∃ W, W = w1.alloc (.cells #[.int .u8 kd, .int .u64 x, .int .u64 y, .int .u64 0, .int .u64 0] 173) := ⟨_, rfl⟩
  rw [← hW]
  have hB : Below w.heap.size w W := hW ▸ hb1'.alloc hb1'.size _
  have hk0 : W.heap[w.heap.size]? = some (.cells #[.int .u8 k.k0, .int .u8 k.k1, .int .u8 k.k2, .int .u8 k.k3, .int .u8 k.k4, .int .u8 k.k5, .int .u8 k.k6, .int .u8 k.k7] 63) := hW ▸ upB hk9 _
  have hr0 : W.heap[w.heap.size + 2]? = some (.cells #[.int .u8 0, .int .u64 0, .int .u64 0] 40) := hW ▸ upB hr9 _
  have hs0 : W.heap[sb]? = some (.cells #[s0, s1, .int .u64 time, .int .u64 blk, .map (some mp), sp, adm] 130) := hW ▸ upB hs9 _
  have hq0 : W.heap[w1.heap.size]? = some (.cells #[.int .u8 kd, .int .u64 x, .int .u64 y, .int .u64 0, .int .u64 0] 173) := hW ▸ heapNew _ _
  have hm0 : MapE W mp es := hW ▸ MapG.kept hm9 (heapOld _ _ (MapG.lt hm9))
  have lr9 := ltB hr9
  clear hW hb1' hk9 hr9 hs9 hm9
  have a1 := cellB hk0
  have a2 := upC hk0 (.cells #[.int .u8 0, .int .u64 0, .int .u64 0, .int .u64 0, .int .u64 0, .int .u8 0, .int .u64 0, .int .u64 0, .int .u64 0, .int .u64 0] 177)
  have a3 := cellB hs0
  have a4 := upC hs0 (.cells #[.int .u8 0, .int .u64 0, .int .u64 0, .int .u64 0, .int .u64 0, .int .u8 0, .int .u64 0, .int .u64 0, .int .u64 0, .int .u64 0] 177)
  have a5 := lookE0 (w := W.drew) (MapG.kept hm0 rfl) hk hf
  have a6 := lookE0 (w := (W.alloc (.cells #[.int .u8 0, .int .u64 0, .int .u64 0, .int .u64 0, .int .u64 0, .int .u8 0, .int .u64 0, .int .u64 0, .int .u64 0, .int .u64 0] 177)).drew) (MapG.kept hm0 (heapOld _ _ (MapG.lt hm0))) hk hf
  go_cut [9, 10] (fun s5 s6 wx => s5 = .pointer (some ⟨W.heap.size, 0, none⟩) ∧ s6 = .bool false ∧ wx = (W.alloc (.cells #[.int .u8 0, .int .u64 0, .int .u64 0, .int .u64 0, .int .u64 0, .int .u8 0, .int .u64 0, .int .u64 0, .int .u64 0, .int .u64 0] 177)).drew)
  case first =>
    go_region
    all_goals (go_wp2_with fail; go_meet)
    all_goals exact ⟨rfl, rfl, rfl⟩
  case rest =>
    obtain ⟨rfl, rfl, rfl⟩ := hcut
    have hk1 := upB hk0 (.cells #[.int .u8 0, .int .u64 0, .int .u64 0, .int .u64 0, .int .u64 0, .int .u8 0, .int .u64 0, .int .u64 0, .int .u64 0, .int .u64 0] 177)
    have hr1 := upB hr0 (.cells #[.int .u8 0, .int .u64 0, .int .u64 0, .int .u64 0, .int .u64 0, .int .u8 0, .int .u64 0, .int .u64 0, .int .u64 0, .int .u64 0] 177)
    have hs1 := upB hs0 (.cells #[.int .u8 0, .int .u64 0, .int .u64 0, .int .u64 0, .int .u64 0, .int .u8 0, .int .u64 0, .int .u64 0, .int .u64 0, .int .u64 0] 177)
    have hq1 := upB hq0 (.cells #[.int .u8 0, .int .u64 0, .int .u64 0, .int .u64 0, .int .u64 0, .int .u8 0, .int .u64 0, .int .u64 0, .int .u64 0, .int .u64 0] 177)
    have hm1 : MapE (W.alloc (.cells #[.int .u8 0, .int .u64 0, .int .u64 0, .int .u64 0, .int .u64 0, .int .u8 0, .int .u64 0, .int .u64 0, .int .u64 0, .int .u64 0] 177)) mp es := MapG.kept hm0 (heapOld _ _ (MapG.lt hm0))
    have hB1 := hB.alloc hB.size (.cells #[.int .u8 0, .int .u64 0, .int .u64 0, .int .u64 0, .int .u64 0, .int .u8 0, .int .u64 0, .int .u64 0, .int .u64 0, .int .u64 0] 177)
    have hB0 := hB.size
    clear a1 a2 a3 a4 a5 a6 hk0 hr0 hs0 hm0 hq0
    have b1 := cellB hr1
    have b2 := frozenB hr1
    have b3 := cellB hs1
    have hlen : Hid ((Builtin.len_ #[121] 3 #[.map (some mp)]).run Tryz.prog (W.alloc (.cells #[.int .u8 0, .int .u64 0, .int .u64 0, .int .u64 0, .int .u64 0, .int .u8 0, .int .u64 0, .int .u64 0, .int .u64 0, .int .u64 0] 177)).drew = .ok (.int .i64 es.length) (W.alloc (.cells #[.int .u8 0, .int .u64 0, .int .u64 0, .int .u64 0, .int .u64 0, .int .u8 0, .int .u64 0, .int .u64 0, .int .u64 0, .int .u64 0] 177)).drew) := hide (MapG.len (w := (W.alloc (.cells #[.int .u8 0, .int .u64 0, .int .u64 0, .int .u64 0, .int .u64 0, .int .u8 0, .int .u64 0, .int .u64 0, .int .u64 0, .int .u64 0] 177)).drew) (MapG.kept hm1 rfl) undE 3)
    have h12 : decide ((12 : Int) ≤ es.length) = true := by simp; omega
    go_upto_region 7 with fail
    go_wp2_with (at_len; refine wpList_len_run _ (by rfl) _ _ (by rfl) _ (by rfl) _ hlen.out ?_)
    refine bodyPost_ret (v := .agg #[.int .u8 5, .int .u64 0, .int .u64 0]) (by simp [results, Tryz.results109, go_sem, b1]) rfl ⟨rfl, Below.drew ?_⟩
    repeat (refine Below.setCell ?_ (by simp <;> omega) _)
    exact hB1
end Go.Proofs.YtnlgndpcddngoaaGreatDoor
