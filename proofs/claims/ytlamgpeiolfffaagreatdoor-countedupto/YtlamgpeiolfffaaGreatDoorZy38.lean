import Derived.Test.YtlamgpeiolfffaaGreatDoorZy26
import Derived.Test.YtlamgpeiolfffaaGreatDoorZy29
import Derived.Test.YtlamgpeiolfffaaGreatDoorZy37
import Derived.Lib.AppendStr
set_option linter.unusedSectionVars false
namespace Go.Proofs.YtlamgpeiolfffaaGreatDoor
open Go.RowKit
variable [dK] [iK]

/-- The whole frames of bytes: the requests, what is left, what is wrong with it. -/
def rqM : Nat → List Int → List Rq × List Int × Int
  | 0, bs => ([], bs, rdErr bs)
  | n + 1, bs => if rdErr bs = 0 then (rdQ bs :: (rqM n (bs.drop (rdN bs).toNat)).1, (rqM n (bs.drop (rdN bs).toNat)).2) else ([], bs, rdErr bs)
theorem rqM_fuel : ∀ (n : Nat) (bs : List Int), bs.length ≤ n → rqM n bs = rqM bs.length bs := by
  intro n
  induction n using Nat.strongRecOn with
  | ind n ih =>
    intro bs h
    cases n with
    | zero => rw [show bs.length = 0 by omega]
    | succ n =>
      cases hb : bs.length with
      | zero =>
        have e : bs = [] := List.length_eq_zero_iff.1 hb
        subst e
        simp [rqM, rdErr]
      | succ m =>
        unfold rqM
        by_cases h0 : rdErr bs = 0
        · rw [if_pos h0, if_pos h0]
          obtain ⟨r1, r2, _, _⟩ := rdN_ok bs h0
          have hl : (bs.drop (rdN bs).toNat).length ≤ m := by rw [List.length_drop]; omega
          rw [ih n (by omega) _ (by omega), ih m (by omega) _ hl]
        · rw [if_neg h0, if_neg h0]
def rqL (bs : List Int) : List Rq × List Int × Int := rqM bs.length bs
theorem rqL_stop (bs : List Int) (h : rdErr bs ≠ 0) : rqL bs = ([], bs, rdErr bs) := by
  unfold rqL
  cases hb : bs.length with
  | zero => rfl
  | succ n => unfold rqM; rw [if_neg h]
theorem rqL_step (bs : List Int) (h : rdErr bs = 0) : rqL bs = (rdQ bs :: (rqL (bs.drop (rdN bs).toNat)).1, (rqL (bs.drop (rdN bs).toNat)).2) := by
  obtain ⟨r1, r2, _, _⟩ := rdN_ok bs h
  have e : rqL bs = rqM bs.length bs := rfl
  rw [e]
  cases hb : bs.length with
  | zero => omega
  | succ n =>
    have hl : (bs.drop (rdN bs).toNat).length ≤ n := by rw [List.length_drop]; omega
    conv => lhs; unfold rqM
    rw [if_pos h, rqM_fuel n _ hl]
    rfl
/-- Requests done one behind the other. -/
def doL : Ld → List Rq → Ld × List Rp
  | L, [] => (L, [])
  | L, q :: t => ((doL (doM L q).1 t).1, (doM L q).2 :: (doL (doM L q).1 t).2)
theorem runL_rqL : ∀ (n : Nat) (bs : List Int) (L : Ld), bs.length ≤ n → runL L bs = ((doL L (rqL bs).1).1, (doL L (rqL bs).1).2, (rqL bs).2) := by
  intro n
  induction n with
  | zero =>
    intro bs L h
    have e : bs = [] := List.length_eq_zero_iff.1 (by omega)
    subst e
    rw [runL_stop L [] (by simp [rdErr]), rqL_stop [] (by simp [rdErr])]
    rfl
  | succ n ih =>
    intro bs L h
    by_cases h0 : rdErr bs = 0
    · obtain ⟨r1, r2, _, _⟩ := rdN_ok bs h0
      rw [runL_step L bs h0, rqL_step bs h0, ih _ _ (by rw [List.length_drop]; omega)]
      rfl
    · rw [runL_stop L bs h0, rqL_stop bs h0]
      rfl

abbrev rqw (q : Rq) : List Value := [.int .u8 q.op, .int .u8 q.k0, .int .u8 q.k1, .int .u8 q.k2, .int .u8 q.k3, .int .u8 q.k4, .int .u8 q.k5, .int .u8 q.k6, .int .u8 q.k7, .int .u8 q.kd, .int .u64 q.x, .int .u64 q.y, .int .u64 q.n]
def rqws (l : List Rq) : List Value := l.flatMap rqw
theorem rqws_snoc (l : List Rq) (q : Rq) : rqws (l ++ [q]) = rqws l ++ rqw q := by simp [rqws]

theorem strNums (s : ByteArray) : Go.Lib.strCells s = (numsOf s).map (Value.int .u8) := by
  simp [Go.Lib.strCells, numsOf]
abbrev ZR : Value := .agg #[.int .u8 0, .int .u8 0, .int .u8 0, .int .u8 0, .int .u8 0, .int .u8 0, .int .u8 0, .int .u8 0, .int .u8 0, .int .u8 0, .int .u64 0, .int .u64 0, .int .u64 0]
theorem Tryz.info58 : (Tryz.prog.info? 58).map (fun i => (i.zero, i.size, i.bytes)) = some (some ZR, 13, 48) := by kernel_rfl
/-- What holds while requests are read, one by one. -/
structure SfI (w wl : World) (tb : Nat) (bs0 bs : List Int) (qs : List Rq) (v6 v7 : Value) (rv : Value) (wr : World) : Prop where
  run : rqL bs0 = (qs ++ (rqL bs).1, (rqL bs).2)
  sl : Sl wr v6 bs
  le : 2 * qs.length + bs.length ≤ bs0.length
  by_ : Bytes bs
  own : wr.ownsRow wl.heap.size 58 13 v7 qs.length (rqws qs)
  F : ∀ g o n c, v6 = .slice (some ⟨g, o, none⟩) n c → w.heap.size ≤ g ∧ g < wl.heap.size
  st : wr.heap[tb]? = some (.cells #[rv, .bool false] 94)
  keep : Keep (fun _ => False) wl wr

set_option maxRecDepth 100000 in
set_option maxHeartbeats 8000000 in
theorem sfeed51 (tb : Nat) (rv : Value) (rest : List Int) (s : ByteArray) (w : World) (hb : w.heap[tb]? = some (.cells #[rv, .bool false] 94)) (hs : Sl w rv rest) (hby : Bytes rest) (hlen : rest.length + s.size ≤ 100000)
    (bs0 : List Int) (hbs : bs0 = rest ++ numsOf s) (l : List Rq) (hl : l = (rqL bs0).1) (bd : Bool) (hbd : bd = decide ((rqL bs0).2.2 = 2)) (lf : List Int) (hlf : lf = if (rqL bs0).2.2 = 2 then [] else (rqL bs0).2.1) :
    Calls Tryz.prog 51 #[.pointer (some ⟨tb, 0, none⟩), .string s] w fun e w' => ∃ ov rv', e = .returned (.tuple #[ov, .bool bd]) ∧ w'.ownsRow w.heap.size 58 13 ov l.length (rqws l) ∧ Keep (fun b => b = tb) w w' ∧
      w'.heap[tb]? = some (.cells #[rv', .bool bd] 94) ∧ Sl w' rv' lf ∧ (∀ g o n c, rv' = .slice (some ⟨g, o, none⟩) n c → w.heap.size ≤ g) := by
  have HL := hide hl
  have HBD := hide hbd
  have HLF := hide hlf
  clear hl hbd hlf
  obtain ⟨i0, hi, hz0, hz1, hz2⟩ := info_parts Tryz.info5
  obtain ⟨i1, hj, hy0, hy1, hy2⟩ := info_parts Tryz.info58
  have c1 := cellB hb
  have f1 := frozenB hb
  have lb := ltB hb
  have HS := hide hs
  have HBS := hide hbs
  have HB := hide hb
  have HLEN := hide hlen
  clear hs hbs hb hlen
  go_enter Tryz.func51, Tryz.ntmps51
  go_wp2_with (first
    | (at_builtin; refine wpList_append_srcA rfl _ _ rfl w.heap.size (.slice none 0 0) 0 [] rfl (World.ownsRow_nil _ _ _ _) rv rest rfl HS.out.src (by have := HLEN.out; omega) (Nat.le_refl _) ?_; intro v1 w1 hown1 hgr1 hloc1)
    | (at_builtin; refine Go.Lib.wpList_append_own_string (w := w1) rfl _ _ 69 9 rfl w.heap.size 5 i0 Tryz.underlying69 Tryz.underlying9 hi hz0 hz1 hz2 v1 (0 + rest.length) _ rfl hown1 s rfl (by unfold maxLen; have := HLEN.out; omega) (by have := HLEN.out; omega) hgr1.size ?_; intro v2 w2 hown2 hgr2 _))
  obtain ⟨wl, hwl⟩ : ∃ wl, wl = w2 := ⟨_, rfl⟩
  have hs1 := hgr1.size
  have hs2 := hgr2.size
  have hn1 : ∀ z, z < w.heap.size → v1.ownBlock ≠ some z := fun z hz e => by
    rcases hloc1 with h | h
    · rw [h] at e; simp [Value.ownBlock] at e
    · rw [h] at e; injection e with e; omega
  have hk2 : ∀ z, z < w.heap.size → w2.heap[z]? = w.heap[z]? := fun z hz => (hgr2.block z (by omega) (fun e => hn1 z hz e.symm)).trans (hgr1.block z hz (by simp [Value.ownBlock]))
  have hK2 : Keep (fun b => b = tb) w w2 := ⟨hgr2.os.trans hgr1.os, hgr2.tape.trans hgr1.tape, hgr2.output.trans hgr1.output, by omega, fun z hz _ => hk2 z hz⟩
  have hb2 : w2.heap[tb]? = some (.cells #[rv, .bool false] 94) := (hk2 tb lb).trans HB.out
  have hsl2 : Sl w2 v2 bs0 := by
    refine Sl.of_own (n := 0 + rest.length + s.size) (base := w.heap.size) ?_
    rw [HBS.out, List.map_append, ← strNums s]
    exact hown2
  have hF2 : ∀ g o n c, v2 = .slice (some ⟨g, o, none⟩) n c → w.heap.size ≤ g ∧ g < w2.heap.size := fun g o n c h => by
    have := hown2.lt g (by rw [h]; rfl)
    omega
  have hby0 : Bytes bs0 := by rw [HBS.out]; exact hby.app (numsOf_bytes s)
  have hl0 : bs0.length ≤ 100000 := by rw [HBS.out, List.length_append, numsOf_length]; exact HLEN.out
  subst hwl
  have HK2 := hide hK2
  have HF2 := hide hF2
  have HK := hide hk2
  clear hown1 hgr1 hloc1 hown2 hgr2 hn1 hk2 hK2 hF2 c1 f1 HS HB HBS HLEN hby
  go_loopw [6, 7] (fun s6 s7 wr => ∃ bs qs, SfI w wl tb bs0 bs qs s6 s7 rv wr) (fun s6 _ _ => sliceLen s6)
  case atStart => exact ⟨bs0, [], ⟨by simp, hsl2, by simp, hby0, World.ownsRow_nil _ _ _ _, HF2.out, hb2, Keep.refl _ _⟩⟩
  case round =>
    obtain ⟨bs, qs, I⟩ := hrel
    have hle := I.le
    have hst := I.st
    have lst := ltB hst
    obtain ⟨a6, c6, h6⟩ := I.sl.shape
    subst h6
    have hI := hide I
    clear I
    go_wp2_with fail
    refine (read16 _ bs wr hI.out.sl (by omega) (fun j => hI.out.by_.getD j) _ rfl _ _ rfl rfl).mono ?_
    rintro e w3 ⟨rfl, hb3⟩
    have hst3 := (hb3.block tb lst).trans hst
    have d1 := fun o j => upC hst3 o j
    have d2 := fun o j => upF hst3 o j
    have hkw := hI.out.keep.size
    have hs3 := hb3.size
    have HB3 := hide hb3
    clear hst hb3
    have hk1 : Keep (fun b => b = tb) w w3 := (HK2.out.trans (hI.out.keep.mono (fun _ h _ => h.elim))).trans (Keep.of_below HB3.out)
    have hwl2 : w.heap.size ≤ wl.heap.size := by omega
    have hX : ∀ z o, z < wr.heap.size → (w3.alloc o).heap[z]? = wr.heap[z]? := fun z o hz => (heapOld w3 o (by omega)).trans (HB3.out.block z hz)
    have HX := hide hX
    have HK1 := hide hk1
    clear hk1 hX
    rcases rdErr_cases bs with h | h | h
    · obtain ⟨r1, r2, r3, r4⟩ := rdN_ok bs h
      obtain ⟨g, o, c, hv, hc, hg, hcell, hp⟩ : ∃ g o c, Value.slice a6 bs.length c6 = .slice (some ⟨g, o, none⟩) bs.length c ∧ bs.length ≤ c ∧ g < wr.heap.size ∧ (∀ j, j < bs.length → wr.cell? ⟨g, o + j, none⟩ = some (.int .u8 (bs.getD j 0))) ∧ 0 < bs.length := by
        rcases hI.out.sl with ⟨hnil, _⟩ | ⟨hp, g, o, c, hv, hc, hg, hcell⟩
        · rw [hnil] at h; simp [rdErr] at h
        · exact ⟨g, o, c, hv, hc, hg, hcell, hp⟩
      injection hv with hv1 _ hv3
      subst hv1 hv3
      obtain ⟨q, hq⟩ : ∃ q, q = rdQ bs := ⟨_, rfl⟩
      obtain ⟨m, hm⟩ : ∃ m, m = (rdN bs).toNat := ⟨_, rfl⟩
      obtain ⟨n, hn⟩ : ∃ n, n = bs.length := ⟨_, rfl⟩
      rw [h, r3]
      rw [← hm] at r1 r2 r4 ⊢
      rw [← hn] at r2 hc hp ⊢
      rw [← hq]
      have hF := hI.out.F g o n c6 (by rw [hn])
      have HO2 : Hid (∀ o1 o2, ((w3.alloc o1).alloc o2).ownsRow wl.heap.size 58 13 u7 qs.length (rqws qs)) := hide (fun o1 o2 => own_keptE hI.out.own (fun z hz => by
        have := own_ltE hI.out.own hz
        exact (heapOld _ _ (by simp; omega)).trans (HX.out z o1 (by omega))))
      have hmn : (m : Int) ≤ (n : Int) := by omega
      have hm0 : (0 : Int) ≤ (m : Int) := by omega
      have HM := hide hm
      have HN := hide hn
      have HQ := hide hq
      have HEV := hide h
      have HCE := hide hcell
      have hql : qs.length ≤ 100000 := by omega
      have hqn : 2 * qs.length + n ≤ bs0.length := by omega
      clear hm hn hq h r3 hcell hle
      go_wp2_with (at_builtin; refine wpList_append_own_at _ rfl _ _ 28 rfl wl.heap.size 58 i1 ZR 13 48 Tryz.underlying28 hj hy0 hy1 hy2 rfl (by decide) u7 qs.length (rqws qs) rfl (HO2.out _ _) ⟨w3.heap.size + 1, 0, none⟩ 1 1 (rqw q) rfl rfl (fun j u hju => by rw [Addr.add_lit, Nat.zero_add, ← hju]; exact (cellB (heapN (by simp)) j).trans (by simp)) (by simp [Value.oneCell']) (by unfold maxLen; omega) (by omega) (by simp; omega) ?_; intro v5 w4 hown4 hgr4 hnil4 hloc4; obtain ⟨ya, yc, hyw⟩ := own_sliceE hown4; subst hyw; have HO4 := hide hown4; have HG4 := hide hgr4; clear hown4 hgr4 hnil4 hloc4)
      have hn7 : ∀ z, z < wl.heap.size → u7.ownBlock ≠ some z := fun z hz e => by have := own_ltE hI.out.own e; omega
      have hk4 := ((hI.out.keep.trans (Keep.of_below HB3.out)).alloc (.cells (rqc q) 58)).alloc (.cells (rqc q) 58)
      have hX4 : ∀ z, z < wr.heap.size → u7.ownBlock ≠ some z → w4.heap[z]? = wr.heap[z]? := fun z hz hne => (HG4.out.block z (by simp; omega) (fun e => hne e.symm)).trans ((heapOld _ _ (by simp; omega)).trans (HX.out z _ hz))
      have hsz := HG4.out.size
      have hbd : (bs.drop m).length = n - m := by rw [List.length_drop, ← HN.out]
      refine ⟨⟨bs.drop m, qs ++ [q], ⟨?_, ?_, ?_, hI.out.by_.drop m, ?_, ?_, ?_, ?_⟩⟩, ?_⟩
      · have hstep := rqL_step bs HEV.out
        rw [← HQ.out, ← HM.out] at hstep
        rw [hI.out.run, hstep, List.append_assoc]; rfl
      · by_cases hrem : n - m = 0
        · left
          refine ⟨List.length_eq_zero_iff.1 (hbd.trans hrem), Or.inr ?_⟩
          rw [hrem]
          split
          · exact ⟨_, _, _, rfl⟩
          · exact ⟨_, _, _, rfl⟩
        · right
          rw [if_neg (by omega), hbd]
          refine ⟨by omega, g, o + m, c6 - m, rfl, by omega, by simp at hsz; omega, fun j hj => ?_⟩
          rw [World.cell?_of_block (w := wr) (hX4 g hg (hn7 g hF.2)), Nat.add_assoc, HCE.out (m + j) (by rw [← HN.out]; omega)]
          simp [List.getD, List.getElem?_drop]
      · rw [List.length_append, hbd, List.length_singleton]
        omega
      · rw [rqws_snoc, List.length_append, List.length_singleton]; exact HO4.out
      · intro g' o' n' c' hh
        have hgg : g' = g := by
          split at hh <;> (injection hh with h1 _ _; injection h1 with h1; injection h1 with h1 _; exact h1.symm)
        rw [hgg]; exact hF
      · exact (hX4 tb lst (hn7 tb (by omega))).trans hI.out.st
      · exact ⟨HG4.out.os.trans hk4.os, HG4.out.tape.trans hk4.tape, HG4.out.output.trans hk4.output, Nat.le_trans hk4.size hsz, fun z hz hS => (HG4.out.block z (Nat.lt_of_lt_of_le hz hk4.size) (fun e => hn7 z hz e.symm)).trans (hk4.block z hz hS)⟩
      · show n - m < bs.length
        rw [← HN.out]; omega
    · have e1 : rqL bs0 = (qs, bs, 1) := by
        have hrun := hI.out.run
        rw [rqL_stop bs (by omega), h] at hrun
        simpa using hrun
      have el : l = qs := HL.out.trans (by rw [e1])
      have eb : bd = false := HBD.out.trans (by rw [e1]; rfl)
      have ef : lf = bs := HLF.out.trans (by rw [e1]; rfl)
      subst eb
      have EL := hide el
      have EF := hide ef
      clear e1 el ef HL HBD HLF
      rw [h]
      go_wp2_with fail
      refine bodyPost_ret (v := .tuple #[u7, .bool false]) (by simp [results, Tryz.results51, go_sem]) rfl ?_
      rw [EL.out, EF.out]
      refine ⟨u7, .slice a6 bs.length c6, rfl, ?_, (HK1.out.alloc _).set (Or.inl rfl) _ _, by simpa using heapSet (upB hst3 _) 0 _, ?_, fun g o n c hh => (hI.out.F g o n c hh).1⟩
      · refine own_base (own_keptE hI.out.own (fun z hz => ?_)) hwl2
        have := own_ltE hI.out.own hz
        exact (heapSetO (by omega) _ _).trans (HX.out z _ (by omega))
      · refine hI.out.sl.kept (by simp; omega) (fun g o n c hh hg => ?_)
        have := hI.out.F g o n c hh
        exact (heapSetO (by omega) _ _).trans (HX.out g _ hg)
    · have e1 : rqL bs0 = (qs, bs, 2) := by
        have hrun := hI.out.run
        rw [rqL_stop bs (by omega), h] at hrun
        simpa using hrun
      have el : l = qs := HL.out.trans (by rw [e1])
      have eb : bd = true := HBD.out.trans (by rw [e1]; rfl)
      have ef : lf = [] := HLF.out.trans (by rw [e1]; rfl)
      subst eb
      have EL := hide el
      have EF := hide ef
      clear e1 el ef HL HBD HLF
      rw [h]
      go_wp2_with fail
      refine bodyPost_ret (v := .tuple #[u7, .bool true]) (by simp [results, Tryz.results51, go_sem]) rfl ?_
      rw [EL.out, EF.out]
      refine ⟨u7, .slice none 0 0, rfl, ?_, ((HK1.out.alloc _).set (Or.inl rfl) _ _).set (Or.inl rfl) _ _, by simpa using heapSet (heapSet (upB hst3 _) 1 _) 0 _, Or.inl ⟨rfl, Or.inl rfl⟩, fun g o n c hh => by simp at hh⟩
      · refine own_base (own_keptE hI.out.own (fun z hz => ?_)) hwl2
        have := own_ltE hI.out.own hz
        exact (heapSetO (by omega) _ _).trans ((heapSetO (by omega) _ _).trans (HX.out z _ (by omega)))

set_option maxRecDepth 100000 in
/-- A stream that has ended takes no more. -/
theorem sfeed51_end (tb : Nat) (rv : Value) (s : ByteArray) (w : World) (hb : w.heap[tb]? = some (.cells #[rv, .bool true] 94)) :
    Calls Tryz.prog 51 #[.pointer (some ⟨tb, 0, none⟩), .string s] w fun e w' => e = .returned (.tuple #[.slice none 0 0, .bool false]) ∧ w' = w := by
  have c1 := cellB hb
  go_enter Tryz.func51, Tryz.ntmps51
  go_wp2_with fail
  exact bodyPost_ret (v := .tuple #[.slice none 0 0, .bool false]) (by simp [results, Tryz.results51, go_sem]) rfl ⟨rfl, rfl⟩
end Go.Proofs.YtlamgpeiolfffaaGreatDoor
