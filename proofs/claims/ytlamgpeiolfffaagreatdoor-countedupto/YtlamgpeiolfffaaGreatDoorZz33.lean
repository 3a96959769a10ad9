import Derived.Test.YtlamgpeiolfffaaGreatDoorZz11
import Derived.Test.YtlamgpeiolfffaaGreatDoorZz16
import Derived.Maps.AppendAt
import Derived.Test.YtlamgpeiolfffaaGreatDoorZz31
import Derived.Test.YtlamgpeiolfffaaGreatDoorZz32
namespace Go.Proofs.YtlamgpeiolfffaaGreatDoor
open Go.RowKit

/-- A reply with more behind it, read. -/
theorem rp_back (r : Rp) (h1 : 1 ≤ r.c) (h9 : r.c ≤ 9) (ha : 0 ≤ r.a ∧ r.a ≤ 18446744073709551615) (hb : 0 ≤ r.b ∧ r.b ≤ 18446744073709551615) (t : List Int) :
    rpErr (encRep r.c r.a r.b ++ t) = 0 ∧ rpN (encRep r.c r.a r.b ++ t) = 18 ∧ rpQ (encRep r.c r.a r.b ++ t) = r := by
  have e0 : encRep r.c r.a r.b ++ t = 17 :: r.c :: (be8 r.a ++ (be8 r.b ++ t)) := by simp [encRep]
  have hl : (encRep r.c r.a r.b ++ t).length = 18 + t.length := by rw [List.length_append]; rfl
  have hE : rpErr (encRep r.c r.a r.b ++ t) = 0 := by
    rw [e0]
    simp only [rpErr]
    rw [if_neg (by omega), if_pos (by unfold repLen; rw [if_neg (by omega)]), if_neg]
    rw [← e0, hl]; omega
  refine ⟨hE, by unfold rpN; rw [if_pos hE], ?_⟩
  unfold rpQ
  rw [if_pos hE]
  have hc : (encRep r.c r.a r.b ++ t).getD 1 0 = r.c := by rw [e0]; rfl
  have hA : num8 (encRep r.c r.a r.b ++ t) 2 = r.a := by
    rw [e0]
    refine Eq.trans ?_ (rd_be8 r.a ha.1 ha.2)
    unfold num8
    simp [rdTo, be8, List.getD]
  have hB : num8 (encRep r.c r.a r.b ++ t) 10 = r.b := by
    rw [e0]
    refine Eq.trans ?_ (rd_be8 r.b hb.1 hb.2)
    unfold num8
    simp [rdTo, be8, List.getD]
  rw [hc, hA, hB]
end Go.Proofs.YtlamgpeiolfffaaGreatDoor

namespace Go.Proofs.YtlamgpeiolfffaaGreatDoor
open Go.RowKit

theorem Tryz.info40 : (Tryz.prog.info? 40).map (fun i => (i.zero, i.size, i.bytes)) = some (some (.agg #[.int .u8 0, .int .u64 0, .int .u64 0]), 3, 24) := by kernel_rfl
def rpc (r : Rp) : List Value := [.int .u8 r.c, .int .u64 r.a, .int .u64 r.b]
def rpcs (rs : List Rp) : List Value := rs.flatMap rpc
structure Rp.told (r : Rp) : Prop where
  c1 : 1 ≤ r.c
  c9 : r.c ≤ 9
  a : 0 ≤ r.a ∧ r.a ≤ 18446744073709551615
  b : 0 ≤ r.b ∧ r.b ≤ 18446744073709551615
theorem encs_bytes (rs : List Rp) (h : ∀ r ∈ rs, r.told) : Bytes (encs rs) := by
  intro x hx
  unfold encs at hx
  obtain ⟨r, hr, hx⟩ := List.mem_flatMap.1 hx
  have ht := h r hr
  have hb : ∀ (v : Int) x, x ∈ be8 v → 0 ≤ x ∧ x ≤ 255 := by
    intro v x hx
    simp only [be8, List.mem_cons, List.not_mem_nil, or_false] at hx
    rcases hx with rfl | rfl | rfl | rfl | rfl | rfl | rfl | rfl <;> exact nb_range v _
  simp only [encRep, List.mem_append, List.mem_cons, List.not_mem_nil, or_false] at hx
  have := ht.c1
  have := ht.c9
  rcases hx with (hx | hx) | hx
  · omega
  · exact hb _ _ hx
  · exact hb _ _ hx

set_option maxRecDepth 100000 in
set_option maxHeartbeats 4000000 in
theorem replies23 (s : ByteArray) (rs : List Rp) (w : World) (hs : numsOf s = encs rs) (hok : ∀ r ∈ rs, r.told) (hlen : rs.length ≤ 1000) (hgl : w.cell? ⟨0, 0, none⟩ = some (.iface 201 (.agg #[.pointer (some ⟨1, 88, none⟩)]))) :
    Calls Tryz.prog 23 #[.string s] w fun e w' => ∃ v, e = .returned (.tuple #[v, .bool true]) ∧ w'.ownsRow w.heap.size 40 3 v rs.length (rpcs rs) ∧ Below w.heap.size w w' := by
  have hbs := fun (w : World) (s : ByteArray) => run_bytes_of_string (P := Tryz.prog) w 9 69 5 s Tryz.underlying9 Tryz.underlying69 Tryz.underlying5
  obtain ⟨i0, hi, hz0, hz1, hz2⟩ := info_parts Tryz.info40
  have hlt0 : 0 < w.heap.size := by
    rcases Nat.eq_zero_or_pos w.heap.size with h0 | h
    · simp [World.cell?, h0] at hgl
    · exact h
  have HG := hide hgl
  have HS := hide hs
  have HOK := hide hok
  clear hgl hs hok
  go_enter Tryz.func23, Tryz.ntmps23
  go_wp2
  have hcap := grownCap_ge w s.size 0 5
  go_loopw [4, 5, 6, 7, 8] (fun s4 s5 _ _ _ wr => ∃ i : Nat, i ≤ rs.length ∧ Sl wr s5 (encs (rs.drop i)) ∧ wr.ownsRow w.heap.size 40 3 s4 i (rpcs (rs.take i)) ∧ Below w.heap.size w wr ∧ (∀ g o n c, s5 = .slice (some ⟨g, o, none⟩) n c → g < wr.heap.size ∧ s4.ownBlock ≠ some g)) (fun _ s5 _ _ _ _ => sliceLen s5)
  case atStart =>
    refine ⟨0, Nat.zero_le _, ?_, World.ownsRow_nil _ _ _ _, ((Below.refl _ w).alloc (Nat.le_refl _) _).drew, fun g o n c h => ⟨?_, by simp [Value.ownBlock]⟩⟩
    · rw [List.drop_zero, ← HS.out]
      exact Sl.of_bytes w s _ (by simpa using hcap)
    · injection h with h1 _ _; injection h1 with h1; injection h1 with h1 _; subst h1; simp
  case round =>
    obtain ⟨i, hi', hsl, hown, hb, hg4⟩ := hrel
    have hwr := hb.size
    by_cases hlt : i < rs.length
    · obtain ⟨r, hr⟩ : ∃ r, r = rs[i] := ⟨_, rfl⟩
      have htold : r.told := hr ▸ HOK.out _ (List.getElem_mem hlt)
      have hdr : encs (rs.drop i) = encRep r.c r.a r.b ++ encs (rs.drop (i + 1)) := by
        rw [List.drop_eq_getElem_cons hlt, ← hr]; rfl
      obtain ⟨bk1, bk2, bk3⟩ := rp_back r htold.c1 htold.c9 htold.a htold.b (encs (rs.drop (i + 1)))
      rw [← hdr] at bk1 bk2 bk3
      have hle : (encs (rs.drop i)).length = 18 + (encs (rs.drop (i + 1))).length := by rw [hdr, List.length_append]; rfl
      have hle2 : (encs (rs.drop i)).length ≤ 18000 := by rw [encs_length, List.length_drop]; omega
      have hbt : Bytes (encs (rs.drop i)) := encs_bytes _ (fun x hx => HOK.out x (List.mem_of_mem_drop hx))
      rcases hsl with ⟨hnil, _⟩ | ⟨hp, g, o, c, hv, hc, hg, hcell⟩
      · rw [hnil] at hle; simp at hle; omega
      subst hv
      have hg4' := hg4 g o _ c rfl
      have hsrc : Src wr (.slice (some ⟨g, o, none⟩) (encs (rs.drop i)).length c) (encs (rs.drop i)) := Sl.src (Or.inr ⟨hp, g, o, c, rfl, hc, hg, hcell⟩)
      have h39 := read17 _ (encs (rs.drop i)) wr hsrc (by omega) hbt.getD r bk3.symm 18 0 bk2.symm bk1.symm ((hb.cell (p := ⟨0, 0, none⟩) hlt0).trans HG.out)
      obtain ⟨n, hn⟩ : ∃ n, n = (encs (rs.drop i)).length := ⟨_, rfl⟩
      rw [← hn] at h39 hle hle2 hp hc ⊢
      have HN := hide hn
      have HD := hide hdr
      have HR := hide hr
      have HCE := hide hcell
      have hn18 : 18 ≤ n := by omega
      have hn18' : (18 : Int) ≤ (n : Int) := by omega
      have hnpos : 0 < n := by omega
      have hnposI : (0 : Int) < (n : Int) := by omega
      have H39 := hide h39
      have HLE := hide hle
      have hn2 : (n : Int) ≤ 18000 := by omega
      clear hle hle2
      have HO := hide hown
      have HSR := hide hsrc
      clear hn hdr hr bk1 bk2 bk3 hbt h39 hown hsrc hg4 hcell
      go_wp2_with fail
      refine H39.out.mono ?_
      rintro e w2 ⟨rfl, hb2⟩
      have hs2 := hb2.size
      clear hbs
      obtain ⟨W, hW⟩ : ∃ W, W = (w2.alloc (.cells #[.int .u8 r.c, .int .u64 r.a, .int .u64 r.b] 40)).alloc (.cells #[.int .u8 r.c, .int .u64 r.a, .int .u64 r.b] 40) := ⟨_, rfl⟩
      have hWk : ∀ z, z < w2.heap.size → W.heap[z]? = w2.heap[z]? := fun z hz => by rw [hW, heapOld _ _ (by simp; omega), heapOld _ _ hz]
      have hWs : W.heap.size = w2.heap.size + 2 := by rw [hW]; simp
      have HOW : Hid (W.ownsRow w.heap.size 40 3 u4 i (rpcs (rs.take i))) := hide (own_keptE HO.out (fun z hz => (hWk z (Nat.lt_of_lt_of_le (own_ltE HO.out hz).2 hs2)).trans (hb2.block z (own_ltE HO.out hz).2)))
      have HCL : Hid (∀ j u, (rpc r)[j]? = some u → W.cell? ((⟨w2.heap.size + 1, 0, none⟩ : Addr).add j) = some u) := hide (fun j u hj => by
        rw [Addr.add_lit, Nat.zero_add, hW, cellB (heapN (by simp)) j, ← hj]
        simp [rpc])
      have HBW : Hid (Below w.heap.size w W) := hide (by rw [hW]; exact ((hb.trans (hb2.mono hwr)).alloc (by omega) _).alloc (by simp; omega) _)
      have HWK := hide hWk
      have HWS := hide hWs
      clear hWk hWs
      go_wp2_with (at_builtin; (rw [← hW]; refine wpList_append_own_at _ rfl _ _ 66 rfl w.heap.size 40 i0 (.agg #[.int .u8 0, .int .u64 0, .int .u64 0]) 3 24 Tryz.underlying66 hi hz0 hz1 hz2 rfl (by decide) u4 i (rpcs (rs.take i)) rfl HOW.out ⟨w2.heap.size + 1, 0, none⟩ 1 1 (rpc r) rfl rfl HCL.out (by simp [rpc, Value.oneCell']) (by unfold maxLen; omega) (by omega) HBW.out.size ?_; intro v5 w4 hown4 hgr4 hnil4 hloc4; clear hW))
      have hgl4 : g < w2.heap.size := Nat.lt_of_lt_of_le hg4'.1 hs2
      have hk4 : w4.heap[g]? = wr.heap[g]? := (hgr4.block g (by rw [HWS.out]; omega) (fun e => hg4'.2 e.symm)).trans ((HWK.out g hgl4).trans (hb2.block g hg4'.1))
      have hwl := HBW.out.size
      have hwl4 := hgr4.size
      have hB4 : Below w.heap.size w w4 := ⟨hgr4.os.trans HBW.out.os, hgr4.tape.trans HBW.out.tape, hgr4.output.trans HBW.out.output, Nat.le_trans hwl hwl4, fun k hk => (hgr4.block k (by omega) (fun e => by have := (own_ltE HO.out e.symm).1; omega)).trans (HBW.out.block k hk)⟩
      have hnl : n - 18 = (encs (rs.drop (i + 1))).length := by have := HLE.out; omega
      go_roundw
      case rel =>
        refine ⟨i + 1, hlt, ?_, ?_, hB4, fun g' o' n' c' h => ?_⟩
        · by_cases h0 : n - 18 = 0
          · refine Or.inl ⟨List.length_eq_zero_iff.1 (hnl.symm.trans h0), Or.inr ?_⟩
            rw [h0]
            split
            · exact ⟨_, _, _, rfl⟩
            · exact ⟨_, _, _, rfl⟩
          · rw [if_neg (by omega)]
            refine Or.inr ⟨by omega, g, o + 18, c - 18, by rw [hnl], by omega, by rw [HWS.out] at hwl4; omega, fun j hj => ?_⟩
            have hj2 : 18 + j < (encs (rs.drop i)).length := by have := HN.out; omega
            rw [World.cell?_of_block (w := wr) hk4, Nat.add_assoc, HCE.out (18 + j) hj2, HD.out]
            congr 2
            simp only [List.getD]
            rw [List.getElem?_append_right (by simp [encRep, be8])]
            simp [encRep, be8]
        · have ht : rpcs (rs.take (i + 1)) = rpcs (rs.take i) ++ rpc r := by
            have htk : rs.take (i + 1) = rs.take i ++ [rs[i]] := by rw [List.take_add_one, List.getElem?_eq_getElem hlt]; rfl
            rw [htk, HR.out]
            unfold rpcs
            rw [List.flatMap_append]
            simp only [List.flatMap_cons, List.flatMap_nil, List.append_nil]
          rw [ht]
          exact hown4
        · have e : g' = g := by
            split at h <;> (injection h with h1 _ _; injection h1 with h1; injection h1 with h1 _; exact h1.symm)
          subst e
          refine ⟨by rw [HWS.out] at hwl4; omega, fun e => ?_⟩
          rcases hloc4 with h4 | h4
          · exact hg4'.2 (h4 ▸ e)
          · rw [h4, HWS.out] at e
            injection e with e
            omega
      case measure =>
        simp only [sliceLen]
        omega
    · obtain rfl : i = rs.length := by omega
      rw [List.drop_of_length_le (Nat.le_refl _)] at hsl
      rw [List.take_of_length_le (Nat.le_refl _)] at hown
      have HO := hide hown
      obtain ⟨ya, yc, hyw⟩ := own_sliceE hown
      subst hyw
      clear hbs hown hg4
      rcases hsl with ⟨_, rfl | ⟨g, o, c, rfl⟩⟩ | ⟨hp, _⟩
      · go_wp2
        go_ret2
        exact ⟨_, rfl, HO.out, hb⟩
      · go_wp2
        go_ret2
        exact ⟨_, rfl, HO.out, hb⟩
      · simp [encs] at hp
end Go.Proofs.YtlamgpeiolfffaaGreatDoor

namespace Go.Proofs.YtlamgpeiolfffaaGreatDoor
open Go.RowKit

theorem callFunc20 (vs : Array Value) (w : World) : Sem.run Tryz.prog (callFunc 20 vs) w = .ok (.enter 20 vs) w := by simp [go_sem]
theorem callFunc51 (vs : Array Value) (w : World) : Sem.run Tryz.prog (callFunc 51 vs) w = .ok (.enter 51 vs) w := by simp [go_sem]
theorem callFunc53 (vs : Array Value) (w : World) : Sem.run Tryz.prog (callFunc 53 vs) w = .ok (.enter 53 vs) w := by simp [go_sem]
theorem pick20' (k : Int) (i : Nat) (w : World) (h0 : -9223372036854775808 ≤ k) (h1 : k ≤ 9223372036854775807) (h : pickM k 3 = (i : Int)) :
    Calls Tryz.prog 20 #[.int .i64 k, .int .i64 3] w fun e w' => e = .returned (.int .i64 i) ∧ w' = w := by
  rw [← h]
  exact pick20 k 3 w (by omega) (by omega) h0 h1

theorem doM_told (L : Ld) (q : Rq) (hL : L.ok) (hq : q.ok) : (doM L q).2.told := by
  have h := (doM_ok L q hL hq).2
  have hc : 1 ≤ (doM L q).2.c ∧ (doM L q).2.c ≤ 9 := by
    unfold doM
    by_cases h2 : q.op = 2
    · rw [if_neg (by omega), if_pos h2]
      cases fnd q.key L.ks with
      | none => simp
      | some z =>
        have := admM_code z L.time q.n
        simp only []
        omega
    · rw [if_neg h2]
      repeat' split
      all_goals simp
  exact ⟨hc.1, hc.2, h.a, h.b⟩
theorem rqws_get (j : Nat) (hj : j < 13) : ∀ (l : List Rq) (i : Nat) (hi : i < l.length), (rqws l)[i * 13 + j]? = (rqw l[i])[j]?
  | q :: t, 0, _ => by
    show (rqw q ++ rqws t)[0 * 13 + j]? = _
    rw [Nat.zero_mul, Nat.zero_add, List.getElem?_append_left (by simpa using hj)]
    rfl
  | q :: t, i + 1, hi => by
    have h13 : (rqw q).length = 13 := rfl
    show (rqw q ++ rqws t)[(i + 1) * 13 + j]? = _
    rw [List.getElem?_append_right (by rw [h13]; omega), h13, show (i + 1) * 13 + j - 13 = i * 13 + j by omega, rqws_get j hj t i (by simpa using hi)]
    rfl


/-- What is left of the replies while the law asks for them, one by one. -/
structure FdI (X : World) (wb bb base kb kc gb : Nat) (c0 c3 : Value) (f0 f1 f2 f3 f4 f5 f6 f7 f8 f9 f10 f11 f12 was win : Value) (lv : Value) (qs : List Rq) (tail : List Int) (i : Nat) (L : Ld) (vb : Value) (wr : World) : Prop where
  book : ∃ lv' B', BookAt wr bb base lv' B' ∧ Sim L B' ∧ (∀ g, lv'.ownBlock = some g → lv.ownBlock = some g ∨ X.heap.size ≤ g)
  blk : ∃ least, wr.heap[wb]? = some (.cells #[c0, .pointer (some ⟨bb, 0, none⟩), .slice (some ⟨kb, 0, none⟩) 3 kc, c3, .bool false, .bool false, f0, f1, f2, f3, f4, f5, f6, f7, f8, f9, f10, f11, f12, was, win, least, .int .u64 L.adm] 60)
  bytes : Sl wr vb (encs (doL L (qs.drop i)).2 ++ tail)
  vbg : ∀ g o n c, vb = .slice (some ⟨g, o, none⟩) n c → g = gb
  keep : Keep (fun b => b = bb ∨ b = wb ∨ lv.ownBlock = some b) X wr

theorem doL_len : ∀ (qs : List Rq) (L : Ld), (doL L qs).2.length = qs.length
  | [], _ => rfl
  | q :: t, L => by show ((doM L q).2 :: (doL (doM L q).1 t).2).length = _; rw [List.length_cons, doL_len t]; rfl
theorem doL_told : ∀ (qs : List Rq) (L : Ld), L.ok → (∀ q ∈ qs, q.ok) → ∀ r ∈ (doL L qs).2, r.told
  | [], _, _, _, r, h => by cases h
  | q :: t, L, hL, hq, r, h => by
    rcases List.mem_cons.1 h with h | h
    · exact h ▸ doM_told L q hL (hq q List.mem_cons_self)
    · exact doL_told t _ (doM_ok L q hL (hq q List.mem_cons_self)).1 (fun q' h' => hq q' (List.mem_cons_of_mem _ h')) r h
theorem Sl.keptN {w w' : World} {v : Value} {bs : List Int} (h : Sl w v bs) (hs : w.heap.size ≤ w'.heap.size) (hk : bs ≠ [] → ∀ g o n c, v = .slice (some ⟨g, o, none⟩) n c → g < w.heap.size → w'.heap[g]? = w.heap[g]?) : Sl w' v bs := by
  rcases h with h | h
  · exact Or.inl h
  · exact Sl.kept (Or.inr h) hs (hk (fun e => by have := h.1; rw [e] at this; simp at this))
theorem Sl.lt {w : World} {v : Value} {bs : List Int} (h : Sl w v bs) (hne : bs ≠ []) {g o n c : Nat} (hv : v = .slice (some ⟨g, o, none⟩) n c) : g < w.heap.size := by
  rcases h with ⟨h, _⟩ | ⟨_, g', o', c', e, _, hg, _⟩
  · exact absurd h hne
  · rw [hv] at e
    injection e with e _ _
    injection e with e
    injection e with e _
    rw [e]; exact hg
theorem fd_sl {wr wc : World} {g o m c : Nat} {hd bsr : List Int} (hm : m = bsr.length) (hc : m + 18 ≤ c) (hg : g < wc.heap.size) (hk : wc.heap[g]? = wr.heap[g]?) (hcell : ∀ x, x < m + 18 → wr.cell? ⟨g, o + x, none⟩ = some (.int .u8 ((hd ++ bsr).getD x 0))) (hhd : hd.length = 18) : Sl wc (.slice (if c = 18 then some ⟨g, o, none⟩ else some ⟨g, o + 18, none⟩) m (c - 18)) bsr := by
  by_cases h0 : m = 0
  · left
    refine ⟨List.length_eq_zero_iff.1 (by omega), Or.inr ?_⟩
    rw [h0]
    split
    · exact ⟨_, _, _, rfl⟩
    · exact ⟨_, _, _, rfl⟩
  · right
    rw [if_neg (by omega)]
    refine ⟨by omega, g, o + 18, c - 18, by rw [hm], by omega, hg, fun j hj => ?_⟩
    rw [World.cell?_of_block (w := wr) hk, Nat.add_assoc, hcell (18 + j) (by omega), show (hd ++ bsr).getD (18 + j) 0 = bsr.getD j 0 from by simp only [List.getD_eq_getElem?_getD]; rw [List.getElem?_append_right (by omega), hhd, Nat.add_sub_cancel_left]]
/-- What the law knows when it has fed its stream. -/
def FedPost (wb bb base kb kc ti : Nat) (_rv lv c0 c3 f0 f1 f2 f3 f4 f5 f6 f7 f8 f9 f10 f11 f12 was win : Value) (L2 : Ld) (b1 : Bool) (lf : List Int) (w w' : World) : Prop :=
  ∃ lv' B' least' rv', BookAt w' bb base lv' B' ∧ Sim L2 B' ∧ w'.heap[wb]? = some (.cells #[c0, .pointer (some ⟨bb, 0, none⟩), .slice (some ⟨kb, 0, none⟩) 3 kc, c3, .bool false, .bool false, f0, f1, f2, f3, f4, f5, f6, f7, f8, f9, f10, f11, f12, was, win, least', .int .u64 L2.adm] 60) ∧ w'.heap[ti]? = some (.cells #[rv', .bool b1] 94) ∧ Sl w' rv' lf ∧ (lf ≠ [] → ∀ g o n c, rv' = .slice (some ⟨g, o, none⟩) n c → w.heap.size ≤ g ∧ lv'.ownBlock ≠ some g) ∧ (∀ g, lv'.ownBlock = some g → lv.ownBlock = some g ∨ w.heap.size ≤ g) ∧ Keep (fun b => b = bb ∨ b = wb ∨ lv.ownBlock = some b ∨ b = ti) w w'

set_option maxRecDepth 100000 in
set_option maxHeartbeats 8000000 in
theorem fed33 (wb bb base kb kc ti i : Nat) (rv lv c0 c3 f0 f1 f2 f3 f4 f5 f6 f7 f8 f9 f10 f11 f12 was win least : Value) (L : Ld) (B : Bk) (k now : Int) (hsim : Sim L B) (hn0 : 0 ≤ now) (hn1 : now ≤ 18446744073709551615) (s rp : ByteArray) (w : World) (hw : w.heap[wb]? = some (.cells #[c0, .pointer (some ⟨bb, 0, none⟩), .slice (some ⟨kb, 0, none⟩) 3 kc, c3, .bool false, .bool false, f0, f1, f2, f3, f4, f5, f6, f7, f8, f9, f10, f11, f12, was, win, least, .int .u64 L.adm] 60)) (h : BookAt w bb base lv B)
    (hi : pickM k 3 = (i : Int)) (hi3 : i < 3) (k0 : -9223372036854775808 ≤ k) (k1 : k ≤ 9223372036854775807) (hcell : w.cell? ⟨kb, i, none⟩ = some (.pointer (some ⟨ti, 0, none⟩))) (hkb : kb < w.heap.size) (hkw : kb ≠ wb) (hkt : kb ≠ bb) (b0 b1 bd : Bool)
    (hst : w.heap[ti]? = some (.cells #[rv, .bool b0] 94)) (waits : List Int) (l : List Rq) (lf : List Int) (hsl : Sl w rv waits)
    (h51 : ∀ U : World, U.heap[ti]? = some (.cells #[rv, .bool b0] 94) → Sl U rv waits → Calls Tryz.prog 51 #[.pointer (some ⟨ti, 0, none⟩), .string s] U fun e w' => ∃ ov rv', e = .returned (.tuple #[ov, .bool bd]) ∧ w'.ownsRow U.heap.size 58 13 ov l.length (rqws l) ∧ Keep (fun b => b = ti) U w' ∧ w'.heap[ti]? = some (.cells #[rv', .bool b1] 94) ∧ Sl w' rv' lf ∧ (lf ≠ [] → ∀ g o n c, rv' = .slice (some ⟨g, o, none⟩) n c → U.heap.size ≤ g))
    (hgood : ∀ q ∈ l, q.ok ∧ q.op ∈ [1, 2, 3, 4, 5, 6]) (hll : l.length ≤ 50000) (tail : List Int) (htail : tail = if bd then encRep 6 0 0 else []) (hrp : numsOf rp = encs (doL (passM L now) l).2 ++ tail) (hrv : waits ≠ [] → ∀ g o n c, rv = .slice (some ⟨g, o, none⟩) n c → g ≠ bb ∧ g ≠ wb) (hbase : base ≤ w.heap.size) :
    Calls Tryz.prog 33 #[.pointer (some ⟨wb, 0, none⟩), .int .i64 k, .int .u64 now, .string s, .string rp, .bool false] w fun e w' => e = .returned (.bool true) ∧ FedPost wb bb base kb kc ti rv lv c0 c3 f0 f1 f2 f3 f4 f5 f6 f7 f8 f9 f10 f11 f12 was win (doL (passM L now) l).1 b1 lf w w' := by
  have a1 := cellB hw
  have hlw := ltB hw
  have hlb := ltB h.hb
  have hwbb : wb ≠ bb := fun e => by have := hw.symm.trans (e ▸ h.hb); simp at this
  have htb : ti ≠ bb := fun e => by have := hst.symm.trans (e ▸ h.hb); simp at this
  have htw : ti ≠ wb := fun e => by have := hst.symm.trans (e ▸ hw); simp at this
  have hlt := ltB hst
  have HGOOD := hide hgood
  have HW := hide hw
  have HS := hide hsl
  have HRV := hide hrv
  have H51 := hide h51
  have HTL := hide htail
  clear hw hsl hrv hgood h51 htail
  go_enter Tryz.func33, Tryz.ntmps33
  go_wp2_with fail
  refine (tell50 bb base lv B now _ h).mono ?_
  rintro e w1 ⟨rfl, hb1, hk1⟩
  have hw1 := (hk1.block wb hlw hwbb).trans HW.out
  have a2 := cellB hw1
  have a3 := frozenB hw1
  have hst1 := (hk1.block ti hlt htb).trans hst
  have hc1 : w1.cell? ⟨kb, i, none⟩ = some (.pointer (some ⟨ti, 0, none⟩)) := by rw [World.cell?_of_block (w := w) (hk1.block kb hkb hkt)]; exact hcell
  go_upto_region 3 with fail
  obtain ⟨U, hU⟩ : ∃ U, U = w1.setCell ⟨wb, 4, none⟩ (.bool false) := ⟨_, rfl⟩
  rw [← hU]
  have hkU : Keep (fun b => b = bb ∨ b = wb) w U := hU ▸ Keep.set (S := fun b => b = bb ∨ b = wb) (b := wb) (hk1.mono (fun _ h _ => Or.inl h)) (Or.inl (Or.inr rfl)) _ _
  have hwU : U.heap[wb]? = some (.cells #[c0, .pointer (some ⟨bb, 0, none⟩), .slice (some ⟨kb, 0, none⟩) 3 kc, c3, .bool false, .bool false, f0, f1, f2, f3, f4, f5, f6, f7, f8, f9, f10, f11, f12, was, win, least, .int .u64 L.adm] 60) := by rw [hU]; simpa using heapSet hw1 4 (.bool false)
  have hstU : U.heap[ti]? = some (.cells #[rv, .bool b0] 94) := (hkU.block ti hlt (fun e => e.elim htb htw)).trans hst
  have hcU : U.cell? ⟨kb, i, none⟩ = some (.pointer (some ⟨ti, 0, none⟩)) := by rw [World.cell?_of_block (w := w) (hkU.block kb hkb (fun e => e.elim hkt hkw))]; exact hcell
  have hslU : Sl U rv waits := Sl.keptN HS.out hkU.size (fun hne g o n c e hg => hkU.block g hg (fun e' => e'.elim (HRV.out hne g o n c e).1 (HRV.out hne g o n c e).2))
  have hbU : BookAt U bb base lv (tellM B now) := by
    rw [hU]
    exact ⟨(heapSetO hwbb.symm _ _).trans hb1.hb, own_keptE hb1.ho (fun g hg => heapSetO (own_neE hb1.ho hg hw1 (by decide)) _ _)⟩
  have hsz := hkU.size
  have b1' := cellB hwU
  have HBU := hide hbU
  have HKU := hide hkU
  have HWU := hide hwU
  have HST : Hid (U.drew.heap[ti]? = some (.cells #[rv, .bool b0] 94)) := hide hstU
  have HSL : Hid (Sl U.drew rv waits) := hide (hslU.kept (Nat.le_refl _) (fun _ _ _ _ _ _ => rfl))
  have hi0 : (0 : Int) ≤ (i : Int) := by omega
  have hi3' : (i : Int) < 3 := by omega
  clear hU hkU hwU hstU hslU hbU hw1 hst1 hc1 hb1 hk1 hst hcell h a1 a2 a3
  go_cut [13, 14] (fun s13 s14 wx => ∃ rv', s14 = .bool bd ∧ wx.ownsRow U.heap.size 58 13 s13 l.length (rqws l) ∧ Keep (fun b => b = ti) U wx ∧
      wx.heap[ti]? = some (.cells #[rv', .bool b1] 94) ∧ Sl wx rv' lf ∧ (lf ≠ [] → ∀ g o n c, rv' = .slice (some ⟨g, o, none⟩) n c → U.heap.size ≤ g))
  case first =>
    go_region_law (first
      | (refine step_fn (by rfl) 20 callFunc20 _ _ (by rfl) #[.int .i64 k, .int .i64 3] (by simp only [List.map_toArray, List.map_cons, List.map_nil]; rfl) (pick20' k i _ k0 k1 hi) ?_; rintro e w1 ⟨rfl, rfl⟩; refine ⟨_, rfl, ?_⟩)
      | (refine step_fn (by rfl) 51 callFunc51 _ _ (by rfl) #[.pointer (some ⟨ti, 0, none⟩), .string s] (by simp only [List.map_toArray, List.map_cons, List.map_nil]; rfl) (H51.out U.drew HST.out HSL.out) ?_; rintro e w3 ⟨ov, rv', rfl, p1, p2, p3, p4, p5⟩; refine ⟨_, rfl, ?_⟩))
    all_goals (go_wp2_with fail; go_meet)
    all_goals exact ⟨rv', rfl, p1, ⟨p2.os, p2.tape, p2.output, p2.size, p2.block⟩, p3, p4, p5⟩
  case rest =>
    obtain ⟨rv', rfl, p1, p2, p3, p4, p5⟩ := hcut
    obtain ⟨ova, ovc, rfl⟩ := own_sliceE p1
    obtain ⟨V, hV⟩ : ∃ V, V = wc := ⟨_, rfl⟩
    rw [← hV] at p1 p2 p3 p4 ⊢
    clear hV b1'
    have hrun := fun (w : World) (s : ByteArray) => run_bytes_of_string (P := Tryz.prog) w 9 69 5 s Tryz.underlying9 Tryz.underlying69 Tryz.underlying5
    have P1 := hide p1
    have P2 := hide p2
    have P3 := hide p3
    have P4 := hide p4
    have P5 := hide p5
    have hVs := p2.size
    clear p1 p2 p3 p4 p5
    have hcap := grownCap_ge V rp.size 0 5
    go_wp2_with fail
    obtain ⟨D, hD⟩ : ∃ D, D = grownCap V rp.size 0 5 := ⟨_, rfl⟩
    rw [← hD] at hcap ⊢
    obtain ⟨X, hX⟩ : ∃ X, X = (V.alloc (.cells (bytesRow rp D) 5 ((bytesRow rp D).size, (bytesRow rp D).size + 1))).drew := ⟨_, rfl⟩
    rw [← hX]
    have hXs : X.heap.size = V.heap.size + 1 := by rw [hX]; simp
    have hXk : ∀ z, z < V.heap.size → X.heap[z]? = V.heap[z]? := fun z hz => by rw [hX]; exact heapOld _ _ hz
    have hXb : Sl X (.slice (some ⟨V.heap.size, 0, none⟩) rp.size D) (numsOf rp) := hX ▸ Sl.of_bytes V rp D (by simpa using hcap)
    have hXe : X.os = V.os ∧ X.tape = V.tape ∧ X.output = V.output := by rw [hX]; exact ⟨rfl, rfl, rfl⟩
    have hownU : ∀ g, lv.ownBlock = some g → g < U.heap.size := fun g hg => (own_ltE HBU.out.ho hg).2
    have hownt : ∀ g, lv.ownBlock = some g → g ≠ ti := fun g hg => own_neE HBU.out.ho hg HST.out (by decide)
    have hXwb : X.heap[wb]? = some (.cells #[c0, .pointer (some ⟨bb, 0, none⟩), .slice (some ⟨kb, 0, none⟩) 3 kc, c3, .bool false, .bool false, f0, f1, f2, f3, f4, f5, f6, f7, f8, f9, f10, f11, f12, was, win, least, .int .u64 L.adm] 60) := (hXk wb (by omega)).trans ((P2.out.block wb (by omega) (fun e => htw e.symm)).trans HWU.out)
    have hXbk : BookAt X bb base lv (tellM B now) := ⟨(hXk bb (by omega)).trans ((P2.out.block bb (by omega) (fun e => htb e.symm)).trans HBU.out.hb), own_keptE HBU.out.ho (fun g hg => (hXk g (by have := hownU g hg; omega)).trans (P2.out.block g (hownU g hg) (fun e => hownt g hg e)))⟩
    have HXK := hide hXk
    have HXB := hide hXb
    have HXW := hide hXwb
    have HXO := hide hXbk
    have HXE := hide hXe
    have HOU := hide hownU
    have HOT := hide hownt
    have HRP := hide hrp
    clear hX hXk hXb hXwb hXbk hXe hownU hownt hrp hcap hD hrun
    go_loopw [15, 16] (fun s15 s16 wr => ∃ (j : Nat) (L' : Ld), j ≤ l.length ∧ s16 = .int .i64 j ∧ FdI X wb bb base kb kc V.heap.size c0 c3 f0 f1 f2 f3 f4 f5 f6 f7 f8 f9 f10 f11 f12 was win lv l tail j L' s15 wr ∧ doL L' (l.drop j) = ((doL (passM L now) l).1, (doL (passM L now) l).2.drop j)) (fun _ s16 _ => l.length - (intOf s16).toNat)
    case atStart =>
      refine ⟨0, passM L now, Nat.zero_le _, rfl, ⟨⟨lv, tellM B now, HXO.out, hsim.pass now hn0 hn1, fun g hg => Or.inl hg⟩, ⟨least, HXW.out⟩, by rw [List.drop_zero, ← HRP.out]; exact HXB.out, fun g o n c e => by injection e with e _ _; injection e with e; injection e with e _; exact e.symm, Keep.refl _ _⟩, rfl⟩
    case round =>
      obtain ⟨j, L', hj, rfl, I, hdo⟩ := hrel
      obtain ⟨lv', B', hbk, hsm, hlv⟩ := I.book
      obtain ⟨least', hblk⟩ := I.blk
      have hkX := I.keep.size
      by_cases hlt : j < l.length
      · obtain ⟨q, hq⟩ : ∃ q, q = l[j] := ⟨_, rfl⟩
        have hgood := HGOOD.out q (hq ▸ List.getElem_mem hlt)
        have hdr : l.drop j = q :: l.drop (j + 1) := by rw [List.drop_eq_getElem_cons hlt, ← hq]
        obtain ⟨r, hr⟩ : ∃ r, r = (doM L' q).2 := ⟨_, rfl⟩
        obtain ⟨L2, hL2⟩ : ∃ L2, L2 = (doM L' q).1 := ⟨_, rfl⟩
        have htold : r.told := hr ▸ doM_told L' q hsm.lok hgood.1
        obtain ⟨hs1, hs2⟩ := hsm.step q hgood.1 hgood.2
        have hask : askM B' q = ((askM B' q).1, r) := by rw [hr, hs1]
        obtain ⟨B2, hB2⟩ : ∃ B2, B2 = (askM B' q).1 := ⟨_, rfl⟩
        rw [← hB2] at hask hs2
        rw [← hL2] at hs2
        have h7 : r.c ≠ 7 := hr ▸ doM_7 L' q
        have hadm : L2.adm = if r.c = 2 then (L'.adm + q.n) % 18446744073709551616 else L'.adm := by rw [hL2, hr]; exact doM_adm L' q
        obtain ⟨bsr, hbsr⟩ : ∃ bsr, bsr = encs (doL L2 (l.drop (j + 1))).2 ++ tail := ⟨_, rfl⟩
        have hby : encs (doL L' (l.drop j)).2 ++ tail = encRep r.c r.a r.b ++ bsr := by
          rw [hdr, hbsr, hr, hL2, ← List.append_assoc]; rfl
        have hdo2 : doL L2 (l.drop (j + 1)) = ((doL (passM L now) l).1, (doL (passM L now) l).2.drop (j + 1)) := by
          rw [hdr] at hdo
          have e1 := congrArg Prod.fst hdo
          have e2 := congrArg (fun x => x.2.drop 1) hdo
          simp only [List.drop_drop] at e2
          rw [hL2]
          exact Prod.ext e1 e2
        have htl18 : tail.length ≤ 18 := by rw [HTL.out]; split <;> decide
        have htlb : Bytes tail := by
          rw [HTL.out]
          split
          · have h6 := encs_bytes [⟨6, 0, 0⟩] (fun r hr => by rw [List.mem_singleton.1 hr]; exact ⟨by decide, by decide, by decide, by decide⟩)
            have e6 : encs [⟨6, 0, 0⟩] = encRep 6 0 0 := by unfold encs; simp
            rw [e6] at h6
            exact h6
          · exact fun x hx => by cases hx
        have hsl := I.bytes
        rw [hby] at hsl
        obtain ⟨bk1, bk2, bk3⟩ := rp_back r htold.c1 htold.c9 htold.a htold.b bsr
        obtain ⟨m, hm⟩ : ∃ m, m = bsr.length := ⟨_, rfl⟩
        have hbl : (encRep r.c r.a r.b ++ bsr).length = m + 18 := by rw [List.length_append, hm, Nat.add_comm]; rfl
        have hml : m ≤ 1000000 := by rw [hm, hbsr, List.length_append, encs_length, doL_len, List.length_drop]; omega
        have hbyt : Bytes (encRep r.c r.a r.b ++ bsr) := by
          rw [← hby]
          exact (encs_bytes _ (doL_told _ _ hsm.lok (fun q' h' => (HGOOD.out q' (List.mem_of_mem_drop h')).1))).app htlb
        have hsl2 := hsl
        rcases hsl with ⟨hnil, _⟩ | ⟨hp, g, o, c, hv, hc, hg, hcell⟩
        · rw [hnil] at hbl; simp at hbl
        rw [hbl] at hv hc hcell
        have hgV : g = V.heap.size := I.vbg g o _ c hv
        subst hv
        have h52 := read18 _ (encRep r.c r.a r.b ++ bsr) wr hsl2 (by omega) hbyt.getD r bk3.symm 18 0 bk2.symm bk1.symm
        obtain ⟨ob, oc, hov, hob, hobl⟩ := P1.out.form (by omega)
        injection hov with ho1 _ ho2
        subst ho1 ho2
        have hobk : wr.heap[ob]? = V.heap[ob]? := (I.keep.block ob (by omega) (fun e => by rcases e with e | e | e; omega; omega; have := HOU.out ob e; omega)).trans (HXK.out ob hobl)
        have hlc : ∀ x, x < 13 → wr.cell? ⟨ob, j * 13 + x, none⟩ = (rqw q)[x]? := fun x hx => by
          rw [World.cell?_of_block (w := V) hobk, P1.out.cellAt (j * 13 + x) (by omega), rqws_get x hx l j hlt, hq]
        have hobw : ob < wr.heap.size := by omega
        have hwrb := ltB hblk
        have hgw : V.heap.size < wr.heap.size := by omega
        have hadl := hsm.lok.adm
        have H52 := hide h52
        have hI := hide I
        have HLC := hide hlc
        have HBLK := hide hblk
        have HBK := hide hbk
        have HDO2 := hide hdo2
        have HM := hide hm
        have HADM := hide hadm
        have HASK := hide hask
        have HCE := hide hcell
        have HS2 := hide hs2
        have HBSR := hide hbsr
        have HLV := hide hlv
        have HBO := hide hsm.bok
        have HH7 := hide h7
        have HGD := hide hgood
        have HADL := hide hadl
        have hjl : (j : Int) < (l.length : Int) := by omega
        have hj0 : (0 : Int) ≤ (j : Int) := by omega
        clear h52 I hlc hblk hbk hdo hdo2 hm hq hr hL2 hadm hask hcell hs2 hbsr hs1 hby hdr hB2 hsm hlv bk1 bk2 bk3 hsl2 hbyt hobk h7 hgood hadl hbl hp htlb htl18 htold
        go_wp2_with fail
        subst hgV
        refine H52.out.mono ?_
        rintro e w3 ⟨rfl, hb3⟩
        have HB3 := hide hb3
        have hs3 := hb3.size
        have HV := hide hVs
        have HX := hide hXs
        have HSZ := hide hsz
        clear hb3 hVs hXs hsz hkX hcU hsim
        go_upto_region 11 with fail
        obtain ⟨Z, hZ⟩ : ∃ Z, Z = w3.alloc (.cells #[.int .u8 r.c, .int .u64 r.a, .int .u64 r.b] 40) := ⟨_, rfl⟩
        rw [← hZ]
        have hZs : Z.heap.size = w3.heap.size + 1 := by rw [hZ]; simp
        have hZk : ∀ b, b < wr.heap.size → Z.heap[b]? = wr.heap[b]? := fun b h => by rw [hZ]; exact (heapOld _ _ (by omega)).trans (HB3.out.block b h)
        have hZn : Z.heap[w3.heap.size]? = some (.cells #[.int .u8 r.c, .int .u64 r.a, .int .u64 r.b] 40) := by rw [hZ]; exact heapNew _ _
        have hzc : ∀ x, x < 13 → Z.cell? ⟨ob, j * 13 + x, none⟩ = (rqw q)[x]? := fun x hx => (World.cell?_of_block (w := wr) (hZk ob hobw)).trans (HLC.out x hx)
        have z0 := hzc 0 (by omega)
        have z1 := hzc 1 (by omega)
        have z2 := hzc 2 (by omega)
        have z3 := hzc 3 (by omega)
        have z4 := hzc 4 (by omega)
        have z5 := hzc 5 (by omega)
        have z6 := hzc 6 (by omega)
        have z7 := hzc 7 (by omega)
        have z8 := hzc 8 (by omega)
        have z9 := hzc 9 (by omega)
        have z10 := hzc 10 (by omega)
        have z11 := hzc 11 (by omega)
        have z12 := hzc 12 (by omega)
        rw [Nat.add_zero] at z0
        have y0 := cellB hZn 0
        have y1 := cellB hZn 1
        have y2 := cellB hZn 2
        have HZE : Hid (Z.os = w3.os ∧ Z.tape = w3.tape ∧ Z.output = w3.output) := hide (by rw [hZ]; exact ⟨rfl, rfl, rfl⟩)
        have hZw : Z.drew.heap[wb]? = some (.cells #[c0, .pointer (some ⟨bb, 0, none⟩), .slice (some ⟨kb, 0, none⟩) 3 kc, c3, .bool false, .bool false, f0, f1, f2, f3, f4, f5, f6, f7, f8, f9, f10, f11, f12, was, win, least', .int .u64 L'.adm] 60) := (hZk wb hwrb).trans HBLK.out
        have hZb : BookAt Z.drew bb base lv' B' := ⟨(hZk bb (ltB HBK.out.hb)).trans HBK.out.hb, own_keptE HBK.out.ho (fun g hg => hZk g (own_ltE HBK.out.ho hg).2)⟩
        have hZl : base ≤ Z.drew.heap.size := by show base ≤ Z.heap.size; have := HV.out; have := HX.out; have := HSZ.out; have := hI.out.keep.size; omega
        have H53 := hide (answered53 wb bb base lv' c0 (.slice (some ⟨kb, 0, none⟩) 3 kc) c3 (.bool false) f0 f1 f2 f3 f4 f5 f6 f7 f8 f9 f10 f11 f12 was win least' L'.adm B' B2 q r Z.drew hZw hZb HBO.out HGD.out.1 HGD.out.2 hZl HASK.out HH7.out HADL.out.1 HADL.out.2 L2.adm HADM.out)
        have HZK := hide hZk
        have HZS := hide hZs
        clear hZ hzc hZw hZb hZl hZk hZs hZn
        go_cut [20] (fun s20 wx => s20 = .bool true ∧ ∃ lv2 least2, BookAt wx bb base lv2 B2 ∧ wx.heap[wb]? = some (.cells #[c0, .pointer (some ⟨bb, 0, none⟩), .slice (some ⟨kb, 0, none⟩) 3 kc, c3, .bool false, .bool false, f0, f1, f2, f3, f4, f5, f6, f7, f8, f9, f10, f11, f12, was, win, least2, .int .u64 L2.adm] 60) ∧ Keep (fun b => b = bb ∨ b = wb ∨ lv'.ownBlock = some b) Z.drew wx ∧ (∀ g, lv2.ownBlock = some g → lv'.ownBlock = some g ∨ Z.drew.heap.size ≤ g))
        case first =>
          go_region_law (refine step_fn (by rfl) 53 callFunc53 _ _ (by rfl) #[.pointer (some ⟨wb, 0, none⟩), .agg #[.int .u8 q.op, .int .u8 q.k0, .int .u8 q.k1, .int .u8 q.k2, .int .u8 q.k3, .int .u8 q.k4, .int .u8 q.k5, .int .u8 q.k6, .int .u8 q.k7, .int .u8 q.kd, .int .u64 q.x, .int .u64 q.y, .int .u64 q.n], .agg #[.int .u8 r.c, .int .u64 r.a, .int .u64 r.b]] (by simp only [List.map_toArray, List.map_cons, List.map_nil]; rfl) H53.out ?_; rintro e w5 ⟨rfl, lv2, least2, p1, p2, p3, p4⟩; refine ⟨_, rfl, ?_⟩)
          all_goals (go_wp2_with fail; go_meet)
          all_goals exact ⟨rfl, lv2, least2, p1, p2, p3, p4⟩
        case rest =>
          obtain ⟨rfl, lv2, least2, p1, p2, p3, p4⟩ := hcut
          have HP1 := hide p1
          have HP2 := hide p2
          have HP3 := hide p3
          have HP4 := hide p4
          clear p1 p2 p3 p4 z0 z1 z2 z3 z4 z5 z6 z7 z8 z9 z10 z11 z12 y0 y1 y2
          have hmI : (18 : Int) ≤ (m : Int) + 18 := by omega
          go_wp2
          go_roundw
          case rel =>
            have hZs2 : wr.heap.size ≤ Z.drew.heap.size := by show wr.heap.size ≤ Z.heap.size; have := HZS.out; omega
            have hKs := HP3.out.size
            have hks := hI.out.keep.size
            have hX1 := HX.out
            have hV1 := HV.out
            have hS1 := HSZ.out
            have hkT : Keep (fun b => b = bb ∨ b = wb ∨ lv'.ownBlock = some b) wr wc := ⟨HP3.out.os.trans (HZE.out.1.trans HB3.out.os), HP3.out.tape.trans (HZE.out.2.1.trans HB3.out.tape), HP3.out.output.trans (HZE.out.2.2.trans HB3.out.output), by omega, fun b hb hT => (HP3.out.block b (by omega) hT).trans (HZK.out b hb)⟩
            have hVn : wc.heap[V.heap.size]? = wr.heap[V.heap.size]? := hkT.block _ hgw (fun e => by
              rcases e with e | e | e
              · omega
              · omega
              · rcases HLV.out _ e with h | h
                · have := HOU.out _ h; omega
                · omega)
            refine ⟨j + 1, L2, by omega, by go_num, ⟨⟨lv2, B2, HP1.out, HS2.out, fun g hg => ?_⟩, ⟨least2, HP2.out⟩, ?_, ?_, ?_⟩, HDO2.out⟩
            · rcases HP4.out g hg with h | h
              · exact HLV.out g h
              · exact Or.inr (by omega)
            · rw [← HBSR.out]
              exact fd_sl HM.out hc (by omega) hVn HCE.out rfl
            · intro g' o' n' c' hh
              split at hh <;> (injection hh with h1 _ _; injection h1 with h1; injection h1 with h1 _; exact h1.symm)
            · refine hI.out.keep.then hkT (fun b hb hT => ?_)
              rcases hT with h | h | h
              · exact Or.inl h
              · exact Or.inr (Or.inl h)
              · rcases HLV.out _ h with h | h
                · exact Or.inr (Or.inr h)
                · omega
          case measure => simp [intOf]; omega
      · have hje : j = l.length := by omega
        have hL' : L' = (doL (passM L now) l).1 := by
          rw [hje, List.drop_length] at hdo
          exact congrArg Prod.fst hdo
        have hslt : Sl wr u15 tail := by
          have := I.bytes
          rw [hje, List.drop_length] at this
          simpa [doL, encs] using this
        have hVk : ∀ b, b < V.heap.size → b ≠ bb → b ≠ wb → lv.ownBlock ≠ some b → wr.heap[b]? = V.heap[b]? := fun b hb h1 h2 h3 => (I.keep.block b (by omega) (fun e => by rcases e with e | e | e; exact h1 e; exact h2 e; exact h3 e)).trans (HXK.out b hb)
        have hfin : ∀ wf, Below wr.heap.size wr wf → FedPost wb bb base kb kc ti rv lv c0 c3 f0 f1 f2 f3 f4 f5 f6 f7 f8 f9 f10 f11 f12 was win (doL (passM L now) l).1 b1 lf w wf := by
          intro wf hbf
          have hwf := hbf.size
          have hlvt : lv.ownBlock ≠ some ti := fun e => HOT.out ti e rfl
          refine ⟨lv', B', least', rv', ⟨(hbf.block bb (ltB hbk.hb)).trans hbk.hb, own_keptE hbk.ho (fun g hg => hbf.block g (own_ltE hbk.ho hg).2)⟩, hL' ▸ hsm, (hbf.block wb (ltB hblk)).trans (hL' ▸ hblk), ?_, ?_, ?_, ?_, ?_⟩
          · exact (hbf.block ti (by omega)).trans ((hVk ti (by omega) htb htw hlvt).trans P3.out)
          · refine Sl.keptN P4.out (by omega) (fun hne g o n c e hg => (hbf.block g (by omega)).trans ?_)
            have h := P5.out hne g o n c e
            exact hVk g hg (by omega) (by omega) (fun e => by have := HOU.out g e; omega)
          · intro hne g o n c e
            have h := P5.out hne g o n c e
            have hl := P4.out.lt hne e
            refine ⟨by omega, fun e' => ?_⟩
            rcases hlv g e' with h' | h'
            · have := HOU.out g h'; omega
            · omega
          · intro g hg
            rcases hlv g hg with h | h
            · exact Or.inl h
            · exact Or.inr (by omega)
          · have k1 : Keep (fun b => b = bb ∨ b = wb ∨ lv.ownBlock = some b ∨ b = ti) w U := HKU.out.mono (fun b h _ => h.elim Or.inl (fun h => Or.inr (Or.inl h)))
            have k2 : Keep (fun b => b = bb ∨ b = wb ∨ lv.ownBlock = some b ∨ b = ti) U V := P2.out.mono (fun b h _ => Or.inr (Or.inr (Or.inr h)))
            have k3 : Keep (fun b => b = bb ∨ b = wb ∨ lv.ownBlock = some b ∨ b = ti) V X := ⟨HXE.out.1, HXE.out.2.1, HXE.out.2.2, by omega, fun b hb _ => HXK.out b hb⟩
            have k4 : Keep (fun b => b = bb ∨ b = wb ∨ lv.ownBlock = some b ∨ b = ti) X wr := I.keep.mono (fun b h _ => by rcases h with h | h | h; exact Or.inl h; exact Or.inr (Or.inl h); exact Or.inr (Or.inr (Or.inl h)))
            exact (((k1.trans k2).trans k3).trans k4).trans (Keep.of_below hbf)
        have HFIN := hide hfin
        have hjI : ¬ (j : Int) < (l.length : Int) := by omega
        have HTL2 := HTL.out
        have HSLT := hide hslt
        clear hfin hVk hslt hL' hdo I hbk hsm hlv hblk hVs hXs hsz hkX hcU hsim
        cases bd with
        | false =>
          rw [if_neg (by decide)] at HTL2
          have hsl3 := HSLT.out
          rw [HTL2] at hsl3
          obtain ⟨a, c, hva⟩ := hsl3.shape
          subst hva
          clear hsl3 HTL2
          go_wp2
          go_ret
          exact ⟨rfl, HFIN.out _ (Below.refl _ _)⟩
        | true =>
          rw [if_pos rfl] at HTL2
          have hsl3 := HSLT.out
          rw [HTL2] at hsl3
          obtain ⟨bk1, bk2, bk3⟩ := rp_back ⟨6, 0, 0⟩ (by decide) (by decide) ⟨by decide, by decide⟩ ⟨by decide, by decide⟩ []
          rw [List.append_nil] at bk1 bk2 bk3
          have h52 := read18 u15 (encRep 6 0 0) wr hsl3 (by decide) (fun x => Bytes.getD (fun b hb => by revert b; decide) x) ⟨6, 0, 0⟩ bk3.symm 18 0 bk2.symm bk1.symm
          rcases hsl3 with ⟨hnil, _⟩ | ⟨hp, g, o, c, hv, hc, hg, hcell⟩
          · simp [encRep] at hnil
          have h18 : (encRep 6 0 0).length = 18 := rfl
          rw [h18] at hv hc
          subst hv
          have H52 := hide h52
          clear h52 hcell hp HTL2 bk1 bk2 bk3 hg
          go_wp2_with fail
          refine H52.out.mono ?_
          rintro e w3 ⟨rfl, hb3⟩
          have HB3 := hide hb3
          have hs3 := hb3.size
          clear hb3
          go_wp2
          all_goals go_ret
          all_goals exact ⟨rfl, HFIN.out _ (HB3.out.alloc (by omega) _)⟩
end Go.Proofs.YtlamgpeiolfffaaGreatDoor
