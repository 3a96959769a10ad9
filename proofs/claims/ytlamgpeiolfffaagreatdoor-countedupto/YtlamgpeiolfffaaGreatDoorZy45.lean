import Derived.Test.YtlamgpeiolfffaaGreatDoorZy44
set_option linter.unusedSectionVars false
namespace Go.Proofs.YtlamgpeiolfffaaGreatDoor
open Go.RowKit
variable [dK] [iK]

theorem HostAt.keptS {w w' : World} {hb db nb sb : Nat} {mb : Option Nat} {blk : Int} {L : Ld} {F : Nat → Prop} {B : Nat} {cv : Value} {m : Nat} {cb : Nat → Nat} {c : Nat → Cn} (H : HostAt w hb db nb sb mb blk L F B cv m cb c) {S : Nat → Prop} (hn : ∀ k, S k → ¬ HG hb db F cv m cb k) (hw : ∀ k, S k → WaitN w sb m cb c k) (hK : Keep S w w') : HostAt w' hb db nb sb mb blk L F B cv m cb c := by
  have hs := hK.size
  have hk : ∀ k, k < w.heap.size → ¬ S k → w'.heap[k]? = w.heap[k]? := hK.block
  have hne : ∀ k, HG hb db F cv m cb k → ¬ S k := fun k h e => hn k e h
  refine ⟨(hk hb (ltB H.hh) (hne hb (Or.inl rfl))).trans H.hh, (hk db (ltB H.hd) (hne db (Or.inr (Or.inl rfl)))).trans H.hd, H.hs.kept hs (fun b hF => hk b (H.hs.lt b hF) (hne b (Or.inr (Or.inr (Or.inl hF))))), fun i hi => ?_, H.hi, own_keptE H.ho (fun g hg => hk g (own_ltE H.ho hg).2 (hne g (Or.inr (Or.inr (Or.inr (Or.inl hg)))))), H.hF, H.lo, H.fr⟩
  obtain ⟨⟨cw, g1, g2, g3⟩, g4⟩ := H.hc i hi
  exact ⟨⟨cw, (hk _ (ltB g1) (hne _ (Or.inr (Or.inr (Or.inr (Or.inr ⟨i, hi, rfl⟩)))))).trans g1, g2.kept hs (fun g o n d e hg => hk g hg (fun e' => hw g e' i hi cw g1 (by rw [e]; rfl))), fun g o n d h => ⟨(g3 g o n d h).1, (g3 g o n d h).2.1, Nat.lt_of_lt_of_le (g3 g o n d h).2.2 hs⟩⟩, g4⟩

/-- A host and the law that asks it, in one memory. -/
structure Both (w : World) (base hb db nb sb wb bb kb kc : Nat) (mb : Option Nat) (blk : Int) (tb : Nat → Nat) (rv : Nat → Value) (lv : Value) (Lh : Ld) (F : Nat → Prop) (cv : Value) (m : Nat) (cb : Nat → Nat) (ch : Nat → Cn) (Ll : Ld) (B : Bk) (cl : Nat → Cn) : Prop where
  host : HostAt w hb db nb sb mb blk Lh F base cv m cb ch
  law : LawAt w base hb wb bb kb kc blk tb rv lv Ll B cl
  dis : ∀ b, LG wb bb kb tb rv lv cl b → ¬ HG hb db F cv m cb b
  wait : ∀ b, LG wb bb kb tb rv lv cl b → WaitN w sb m cb ch b
theorem Both.kept {w w' : World} {base hb db nb sb wb bb kb kc : Nat} {mb : Option Nat} {blk : Int} {tb : Nat → Nat} {rv : Nat → Value} {lv : Value} {Lh Ll : Ld} {F : Nat → Prop} {cv : Value} {m : Nat} {cb : Nat → Nat} {ch cl : Nat → Cn} {B : Bk} (H : Both w base hb db nb sb wb bb kb kc mb blk tb rv lv Lh F cv m cb ch Ll B cl) (hb' : Below w.heap.size w w') : Both w' base hb db nb sb wb bb kb kc mb blk tb rv lv Lh F cv m cb ch Ll B cl :=
  ⟨H.host.kept hb'.size (fun k hk => hb'.block k hk), H.law.kept hb'.size (fun b h => hb'.block b (H.law.low b h).2), H.dis, fun b h => (H.wait b h).kept (fun j hj => hb'.block _ (ltB (H.host.hc j hj).mem.choose_spec.1))⟩
/-- The host is fed. -/
theorem Both.fedh {w w' : World} {base hb db nb sb wb bb kb kc : Nat} {mb : Option Nat} {blk : Int} {tb : Nat → Nat} {rv : Nat → Value} {lv : Value} {Lh Ll : Ld} {F : Nat → Prop} {cv : Value} {m : Nat} {cb : Nat → Nat} {ch cl : Nat → Cn} {B : Bk} (H : Both w base hb db nb sb wb bb kb kc mb blk tb rv lv Lh F cv m cb ch Ll B cl) {Lh' : Ld} {F' : Nat → Prop} {cv' : Value} {m' : Nat} {cb' : Nat → Nat} {ch' : Nat → Cn} (h1 : HostAt w' hb db nb sb mb blk Lh' F' base cv' m' cb' ch') (h2 : Keep (HG hb db F cv m cb) w w') (h3 : ∀ b, HG hb db F' cv' m' cb' b → HG hb db F cv m cb b ∨ w.heap.size ≤ b) (h4 : ∀ g, g < w.heap.size → WaitN w sb m cb ch g → WaitN w' sb m' cb' ch' g) : Both w' base hb db nb sb wb bb kb kc mb blk tb rv lv Lh' F' cv' m' cb' ch' Ll B cl ∧ Below base w w' := by
  refine ⟨⟨h1, H.law.kept h2.size (fun b h => h2.block b (H.law.low b h).2 (H.dis b h)), fun b h e => ?_, fun b h => h4 b (H.law.low b h).2 (H.wait b h)⟩, h2.below H.law.bs (fun b h => H.host.lo b h)⟩
  have := (H.law.low b h).2
  rcases h3 b e with h' | h'
  · exact H.dis b h h'
  · omega
/-- The law is fed. -/
theorem Both.fedl {w w' : World} {base hb db nb sb wb bb kb kc : Nat} {mb : Option Nat} {blk : Int} {tb : Nat → Nat} {rv : Nat → Value} {lv : Value} {Lh Ll : Ld} {F : Nat → Prop} {cv : Value} {m : Nat} {cb : Nat → Nat} {ch cl : Nat → Cn} {B : Bk} (H : Both w base hb db nb sb wb bb kb kc mb blk tb rv lv Lh F cv m cb ch Ll B cl) {Ll' : Ld} {lv' : Value} {B' : Bk} {rv' : Nat → Value} {cl' : Nat → Cn} (h1 : LawAt w' base hb wb bb kb kc blk tb rv' lv' Ll' B' cl') (h2 : Keep (LW wb bb tb lv) w w') (h3 : ∀ b, LG wb bb kb tb rv' lv' cl' b → LG wb bb kb tb rv lv cl b ∨ w.heap.size ≤ b) : Both w' base hb db nb sb wb bb kb kc mb blk tb rv' lv' Lh F cv m cb ch Ll' B' cl' ∧ Below base w w' := by
  have hw' : ∀ b, LG wb bb kb tb rv lv cl b → WaitN w' sb m cb ch b := fun b h => (H.wait b h).kept (fun j hj => h2.block _ (ltB (H.host.hc j hj).mem.choose_spec.1) (fun e => H.dis _ e.lg (Or.inr (Or.inr (Or.inr (Or.inr ⟨j, hj, rfl⟩))))))
  refine ⟨⟨H.host.keptS (fun k h => H.dis k h.lg) (fun k h => H.wait k h.lg) h2, h1, fun b h e => ?_, fun b h => ?_⟩, h2.below H.law.bs (fun b h => (H.law.low b h.lg).1)⟩
  · rcases h3 b h with h' | h'
    · exact H.dis b h' e
    · have := H.host.lt b e
      omega
  · rcases h3 b h with h' | h'
    · exact hw' b h'
    · intro j hj cw hcw e
      have h5 : w.heap[cb j]? = some (.cells #[.pointer (some ⟨sb, 0, none⟩), cw, .bool (ch j).bad] 103) := (h2.block _ (ltB (H.host.hc j hj).mem.choose_spec.1) (fun e => H.dis _ e.lg (Or.inr (Or.inr (Or.inr (Or.inr ⟨j, hj, rfl⟩)))))).symm.trans hcw
      have := (H.host.hc j hj).waits_lt h5 e
      omega
theorem pick20n (k : Int) (m i : Nat) (w : World) (hm0 : 0 < m) (hm1 : m ≤ 1000000) (h0 : -9223372036854775808 ≤ k) (h1 : k ≤ 9223372036854775807) (h : pickM k m = (i : Int)) :
    Calls Tryz.prog 20 #[.int .i64 k, .int .i64 m] w fun e w' => e = .returned (.int .i64 i) ∧ w' = w := by
  rw [← h]
  exact pick20 k m w (by omega) (by omega) h0 h1

theorem callFunc11 (vs : Array Value) (w : World) : Sem.run Tryz.prog (callFunc 11 vs) w = .ok (.enter 11 vs) w := by simp [go_sem]
theorem callFunc33 (vs : Array Value) (w : World) : Sem.run Tryz.prog (callFunc 33 vs) w = .ok (.enter 33 vs) w := by simp [go_sem]
/-- What holds behind a step. -/
def StepPost (base hb db nb sb wb bb kb kc : Nat) (mb : Option Nat) (blk : Int) (tb : Nat → Nat) (w w' : World) : Prop :=
  ∃ L' F' cv' cb' c' lv' B' rv', Both w' base hb db nb sb wb bb kb kc mb blk tb rv' lv' L' F' cv' 3 cb' c' L' B' c' ∧ Below base w w'

set_option maxRecDepth 100000 in
set_option maxHeartbeats 8000000 in
theorem feed19 (base hb db nb sb wb bb kb kc : Nat) (mb : Option Nat) (blk : Int) (tb : Nat → Nat) (rv : Nat → Value) (lv : Value) (L : Ld) (F : Nat → Prop) (cv : Value) (m : Nat) (cb : Nat → Nat) (c : Nat → Cn) (B : Bk) (p : Sp) (vq : Value) (w : World) (H : Both w base hb db nb sb wb bb kb kc mb blk tb rv lv L F cv m cb c L B c) (hm : m ≤ 3) (hq : m < 3 → ∀ i, c i = ⟨[], false⟩) (hr : RqAt w vq p.qs) (hql : p.qs.length ≤ 1000) (hqo : ∀ q ∈ p.qs, q.ok) (hraw : p.raw.size ≤ 20000) (c0 : -9223372036854775808 ≤ p.conn) (c1 : p.conn ≤ 9223372036854775807) (n0 : 0 ≤ p.now) (n1 : p.now ≤ 18446744073709551615) (u0 : -9223372036854775808 ≤ p.cut) (u1 : p.cut ≤ 9223372036854775807) :
    Calls Tryz.prog 19 #[.pointer (some ⟨wb, 0, none⟩), .agg #[.int .i64 p.kind, .int .i64 p.conn, .int .u64 p.now, vq, .string p.raw, .int .i64 p.cut, .int .i64 p.left, .int .i64 p.full, .int .i64 p.kept, .int .i64 p.part], .bool false] w fun e w' => e = .returned (.bool true) ∧ StepPost base hb db nb sb wb bb kb kc mb blk tb w w' := by
  obtain ⟨least, hw⟩ := H.law.blk
  obtain ⟨ra, rc, rfl, hrc, hrcell⟩ := hr
  obtain ⟨ql, hqe⟩ : ∃ ql, ql = p.qs.length := ⟨_, rfl⟩
  rw [← hqe] at hrc hql ⊢
  obtain ⟨V, hV⟩ : ∃ V, V = w.alloc (.cells #[.int .i64 p.kind, .int .i64 p.conn, .int .u64 p.now, .slice ra ql rc, .string p.raw, .int .i64 p.cut, .int .i64 p.left, .int .i64 p.full, .int .i64 p.kept, .int .i64 p.part] 62) := ⟨_, rfl⟩
  obtain ⟨P, hP⟩ : ∃ P, P = w.heap.size := ⟨_, rfl⟩
  have hVP : V.heap[P]? = some (.cells #[.int .i64 p.kind, .int .i64 p.conn, .int .u64 p.now, .slice ra ql rc, .string p.raw, .int .i64 p.cut, .int .i64 p.left, .int .i64 p.full, .int .i64 p.kept, .int .i64 p.part] 62) := by rw [hV, hP]; exact heapNew _ _
  have hbV : Below w.heap.size w V := by rw [hV]; exact (Below.refl _ w).alloc (Nat.le_refl _) _
  have HV := H.kept hbV
  have hVs : V.heap.size = P + 1 := by rw [hV, hP]; simp
  have hwV := (hbV.block wb (ltB hw)).trans hw
  have hbase := H.law.bs
  have hBV : Below base w V := hbV.mono hbase
  have hc32 : 0 < ql → ∃ A o, ra = some ⟨A, o, none⟩ ∧ A < V.heap.size ∧ ∀ i (h : i < p.qs.length) j, j < 13 → V.cell? ⟨A, o + i * 13 + j, none⟩ = (#[.int .u8 p.qs[i].op, .int .u8 p.qs[i].k0, .int .u8 p.qs[i].k1, .int .u8 p.qs[i].k2, .int .u8 p.qs[i].k3, .int .u8 p.qs[i].k4, .int .u8 p.qs[i].k5, .int .u8 p.qs[i].k6, .int .u8 p.qs[i].k7, .int .u8 p.qs[i].kd, .int .u64 p.qs[i].x, .int .u64 p.qs[i].y, .int .u64 p.qs[i].n] : Array Value)[j]? := fun h => by
    obtain ⟨A, o, e, hA, hc⟩ := hrcell (by omega)
    refine ⟨A, o, e, by omega, fun i hi j hj => ?_⟩
    rw [hbV.cell (p := ⟨A, o + i * 13 + j, none⟩) hA, hc i hi j hj]
    simp
  have H32 := hide (written32 ra ql rc p.qs p.raw V hqe.symm hrc hql hraw hqo hc32)
  have hi3 := pickM_ok p.conn 3 (by omega)
  obtain ⟨i, hi⟩ : ∃ i : Nat, pickM p.conn 3 = (i : Int) := ⟨(pickM p.conn 3).toNat, by omega⟩
  have hi3 : i < 3 := by omega
  have HVH := hide HV
  have HBV := hide hBV
  have HVB := hide hVP
  have HWV := hide hwV
  have HQ := hide hq
  have HPV : Hid (P = w.heap.size) := hide hP
  have HQE := hide hqe
  have HQO := hide hqo
  have a0 := cellB hwV 0
  have HGP : Hid (∀ b, HG hb db F cv m cb b → b ≠ P) := hide (fun b h => by have := H.host.lt b h; omega)
  have HLP : Hid (∀ b, LG wb bb kb tb rv lv c b → b ≠ P) := hide (fun b h => by have := (H.law.low b h).2; omega)
  clear H hrcell hc32 hbV HV hq hqe hqo hP hBV
  go_enter Tryz.func19, Tryz.ntmps19
  rw [hV] at a0
  go_wp2_with fail
  rw [← hV] at a0 ⊢
  clear hV
  rw [← HPV.out]
  refine (is17 hb sb _ _ _ V HVH.out.host.hh).mono ?_
  rintro e w1 ⟨rfl, he1⟩
  rw [he1]
  clear he1
  have a2 := cellB hVP
  clear a0
  go_wp2_with fail
  refine H32.out.mono ?_
  rintro e w1 ⟨rfl, hb1⟩
  obtain ⟨S, hS⟩ : ∃ S, S = strOfNums (encQs p.qs) ++ p.raw := ⟨_, rfl⟩
  rw [← hS]
  have hSs : S.size ≤ 47000 := by
    have e1 := encQs_len p.qs
    have e2 := HQE.out
    rw [hS, ByteArray.size_append, strOfNums_size]
    omega
  have HS := hide hS
  have hn3 := pickM_ok p.cut ((S.size : Int) + 1) (by omega)
  obtain ⟨n, hn⟩ : ∃ n : Nat, pickM p.cut ((S.size : Int) + 1) = (n : Int) := ⟨(pickM p.cut ((S.size : Int) + 1)).toNat, by omega⟩
  have hnS : n ≤ S.size := by omega
  have hpk : ∀ w, Calls Tryz.prog 20 #[.int .i64 p.cut, .int .i64 ((S.size : Int) + 1)] w fun e w' => e = .returned (.int .i64 n) ∧ w' = w := fun w => by
    rw [← hn]
    exact pick20 p.cut ((S.size : Int) + 1) w (by omega) (by omega) u0 u1
  have HPK := hide hpk
  have hbl1 := (hb1.block P (by omega)).trans hVP
  have hw1 := (hb1.block wb (ltB hwV)).trans hwV
  have H1 := HVH.out.kept hb1
  have hs1 := hb1.size
  have HB1 := hide (HBV.out.trans (hb1.mono (Nat.le_trans hbase HBV.out.size)))
  have a3 := cellB hbl1
  clear a2 hS hn hn3 hpk hb1
  go_wp2_with fail
  refine (HPK.out _).mono ?_
  rintro e w2 ⟨rfl, he2⟩
  rw [he2]
  clear he2
  go_upto_region 5 with fail
  have HH1 := hide (H1.kept (Below.refl _ w1).drew)
  have hcw := HVH.out.law.bw i hi3
  have hsz1 : (S.extract 0 n).size ≤ 47000 := by rw [ByteArray.size_extract]; omega
  obtain ⟨M1, hM1⟩ : ∃ M1, M1 = feedM L (c i) p.now (numsOf (S.extract 0 n)) := ⟨_, rfl⟩
  obtain ⟨r1, hr1⟩ : ∃ r1, r1 = strOfNums (encs M1.2.2) := ⟨_, rfl⟩
  have H11 := feed11w 0 0 hb db nb sb mb blk L F base cv m cb c p.conn p.now (S.extract 0 n) w1.drew HH1.out.host hm HH1.out.law.bs HQ.out i hi c0 c1 HVH.out.law.sim.lok n0 n1 hcw.1 (by rw [numsOf_length]; omega)
  rw [← hM1, ← hr1] at H11
  have HC11 := hide H11
  have b0 := cellB hw1 0
  have b1 := a3 1
  have b2 := a3 2
  have HBL1 := hide hbl1
  have HM1 := hide hM1
  have HR1 := hide hr1
  have HS1 : Hid (P < w1.drew.heap.size) := hide (by show P < w1.heap.size; omega)
  have hnSI : (n : Int) ≤ (S.size : Int) := by omega
  have hn0' : (0 : Int) ≤ (n : Int) := by omega
  clear H11 a3 hM1 hr1 hbl1 H1 hw1 hVP hwV
  go_cut [9, 10] (fun s9 s10 wx => s9 = .string r1 ∧ s10 = .bool false ∧ ∃ F1 cv1 cb1, Both wx base hb db nb sb wb bb kb kc mb blk tb rv lv M1.1 F1 cv1 3 cb1 (fun j => if j = i then M1.2.1 else c j) L B c ∧ Below base w1 wx ∧ wx.heap[P]? = some (.cells #[.int .i64 p.kind, .int .i64 p.conn, .int .u64 p.now, .slice ra ql rc, .string p.raw, .int .i64 p.cut, .int .i64 p.left, .int .i64 p.full, .int .i64 p.kept, .int .i64 p.part] 62) ∧ (∀ b, HG hb db F1 cv1 3 cb1 b → b ≠ P))
  case first =>
    go_region_law (refine step_fn (by rfl) 11 callFunc11 _ _ (by rfl) #[.pointer (some ⟨hb, 0, none⟩), .int .i64 p.conn, .int .u64 p.now, .string (S.extract 0 n), .int .i64 (-1), .int .i64 (-1), .int .i64 0, .int .i64 0] (by simp only [List.map_toArray, List.map_cons, List.map_nil]; rfl) HC11.out ?_; rintro e wx ⟨F1, cv1, cb1, rfl, h1, h2, h3, h4⟩; refine ⟨_, rfl, ?_⟩)
    all_goals (go_wp2_with fail; go_meet)
    all_goals (obtain ⟨g1, g2⟩ := HH1.out.fedh h1 h2 h3 h4; exact ⟨rfl, rfl, F1, cv1, cb1, g1, ⟨g2.os, g2.tape, g2.output, g2.size, g2.block⟩, (h2.block P HS1.out (fun h => HGP.out P h rfl)).trans HBL1.out, fun b h => (h3 b h).elim (HGP.out b) (fun h => by have := HS1.out; omega)⟩)
  case rest =>
    obtain ⟨rfl, rfl, F1, cv1, cb1, hB, hbel, hbx, hgp⟩ := hcut
    obtain ⟨w2, hw2e⟩ : ∃ w2, w2 = wc := ⟨_, rfl⟩
    rw [← hw2e] at hB hbel hbx ⊢
    clear hw2e b0 b1 b2
    have HH2 := hide (hB.kept (Below.refl _ w2).drew)
    obtain ⟨least2, hw2⟩ := hB.law.blk
    have b0 := cellB hbx 1
    have b1 := cellB hbx 2
    have HB2 := hide (HB1.out.trans (hbel.mono (Nat.le_refl _)))
    have HBX := hide hbx
    have HG2 := hide hgp
    have HC33 := hide (fed33_at base hb wb bb kb kc blk tb rv lv L B c p.conn p.now i (S.extract 0 n) w2.drew HH2.out.law hi hi3 c0 c1 n0 n1 (by omega) r1 (by rw [HR1.out, HM1.out]))
    have HS2 : Hid (P < w2.drew.heap.size) := hide (ltB hbx)
    clear hB hbel hbx hgp hw2
    go_upto_region 6 with fail
    go_cut [11] (fun s11 wx => s11 = .bool true ∧ ∃ lv1 B1 rv1, Both wx base hb db nb sb wb bb kb kc mb blk tb rv1 lv1 M1.1 F1 cv1 3 cb1 (fun j => if j = i then M1.2.1 else c j) M1.1 B1 (fun j => if j = i then M1.2.1 else c j) ∧ Below base w2 wx ∧ wx.heap[P]? = some (.cells #[.int .i64 p.kind, .int .i64 p.conn, .int .u64 p.now, .slice ra ql rc, .string p.raw, .int .i64 p.cut, .int .i64 p.left, .int .i64 p.full, .int .i64 p.kept, .int .i64 p.part] 62) ∧ (∀ b, LG wb bb kb tb rv1 lv1 (fun j => if j = i then M1.2.1 else c j) b → b ≠ P))
    case first =>
      go_region_law (refine step_fn (by rfl) 33 callFunc33 _ _ (by rfl) #[.pointer (some ⟨wb, 0, none⟩), .int .i64 p.conn, .int .u64 p.now, .string (S.extract 0 n), .string r1, .bool false] (by simp only [List.map_toArray, List.map_cons, List.map_nil]; rfl) HC33.out ?_; rintro e wx ⟨rfl, lv1, B1, rv1, h1, h2, h3⟩; refine ⟨_, rfl, ?_⟩)
      all_goals (go_wp2_with fail; go_meet)
      all_goals (rw [← HM1.out] at h1 h3; obtain ⟨g1, g2⟩ := HH2.out.fedl h1 h2 h3; exact ⟨rfl, lv1, B1, _, g1, ⟨g2.os, g2.tape, g2.output, g2.size, g2.block⟩, (h2.block P HS2.out (fun h => HLP.out P h.lg rfl)).trans HBX.out, fun b h => (h3 b h).elim (HLP.out b) (fun h => by have := HS2.out; omega)⟩)
    case rest =>
      obtain ⟨rfl, lv1, B1, rv1, hB, hbel, hbx, hlp⟩ := hcut
      obtain ⟨w3, hw3e⟩ : ∃ w3, w3 = wc := ⟨_, rfl⟩
      rw [← hw3e] at hB hbel hbx ⊢
      clear hw3e b0 b1
      have HH3 := hide (hB.kept (Below.refl _ w3).drew)
      obtain ⟨least3, hw3⟩ := hB.law.blk
      have HB3 := hide (HB2.out.trans (hbel.mono (Nat.le_refl _)))
      have HBX3 := hide hbx
      have HLP3 := hide hlp
      obtain ⟨d1, hd1⟩ : ∃ d1 : Nat → Cn, d1 = fun j => if j = i then M1.2.1 else c j := ⟨_, rfl⟩
      have HH3' : Hid (Both w3.drew base hb db nb sb wb bb kb kc mb blk tb rv1 lv1 M1.1 F1 cv1 3 cb1 d1 M1.1 B1 d1) := hide (by rw [hd1]; exact HH3.out)
      have HLP3' : Hid (∀ b, LG wb bb kb tb rv1 lv1 d1 b → b ≠ P) := hide (by rw [hd1]; exact hlp)
      have hcw3 := HH3'.out.law.bw i hi3
      have hsz2 : (S.extract n S.size).size ≤ 47000 := by rw [ByteArray.size_extract]; omega
      obtain ⟨M2, hM2⟩ : ∃ M2, M2 = feedM M1.1 (d1 i) p.now (numsOf (S.extract n S.size)) := ⟨_, rfl⟩
      obtain ⟨r2, hr2⟩ : ∃ r2, r2 = strOfNums (encs M2.2.2) := ⟨_, rfl⟩
      have H11 := feed11w p.kept p.part hb db nb sb mb blk M1.1 F1 base cv1 3 cb1 d1 p.conn p.now (S.extract n S.size) w3.drew HH3'.out.host (Nat.le_refl _) HH3'.out.law.bs (fun h => absurd h (by omega)) i hi c0 c1 HH3'.out.law.sim.lok n0 n1 hcw3.1 (by rw [numsOf_length]; omega)
      rw [← hM2, ← hr2] at H11
      have HC12 := hide H11
      have HM2 := hide hM2
      have HR2 := hide hr2
      have HS3 : Hid (P < w3.drew.heap.size) := hide (ltB hbx)
      have HW3 : Hid (w3.drew.heap[wb]? = _) := hide hw3
      have b0 := cellB hw3 0
      have b1 := cellB hbx 1
      have b2 := cellB hbx 2
      have b8 := cellB hbx 8
      have b9 := cellB hbx 9
      clear hB hbel hbx hlp hw3 hd1 hM2 hr2 H11 HH3 HLP3 HC11 HC33 HLP HVH HPK H32
      go_upto_region 14 with fail
      go_cut [14, 15] (fun s9 s10 wx => s9 = .string r2 ∧ s10 = .bool false ∧ ∃ F2 cv2 cb2, Both wx base hb db nb sb wb bb kb kc mb blk tb rv1 lv1 M2.1 F2 cv2 3 cb2 (fun j => if j = i then M2.2.1 else d1 j) M1.1 B1 d1 ∧ Below base w3 wx ∧ wx.heap[P]? = some (.cells #[.int .i64 p.kind, .int .i64 p.conn, .int .u64 p.now, .slice ra ql rc, .string p.raw, .int .i64 p.cut, .int .i64 p.left, .int .i64 p.full, .int .i64 p.kept, .int .i64 p.part] 62))
      case first =>
        go_region_held3 (fun w' => w'.cell? ⟨wb, 0, none⟩ = some (.pointer (some ⟨hb, 0, none⟩)) ∧ w'.cell? ⟨P, 1, none⟩ = some (.int .i64 p.conn) ∧ w'.cell? ⟨P, 2, none⟩ = some (.int .u64 p.now) ∧ w'.cell? ⟨P, 8, none⟩ = some (.int .i64 p.kept) ∧ w'.cell? ⟨P, 9, none⟩ = some (.int .i64 p.part)) (first | go_keep | (exact ⟨e0, e1, e2, e8, e9⟩)) (first | (go_at_call 11; refine HC12.out.mono ?_; rintro e wx ⟨F2, cv2, cb2, rfl, h1, h2, h3, h4⟩; have hx := (h2.block P HS3.out (fun h => HG2.out P h rfl)).trans HBX3.out; have e0 := cellB ((h2.block wb (ltB HW3.out) (HH3'.out.dis wb (Or.inl rfl))).trans HW3.out) 0; have e1 := cellB hx 1; have e2 := cellB hx 2; have e8 := cellB hx 8; have e9 := cellB hx 9))
        all_goals (go_wp2_with fail; go_meet)
        all_goals (obtain ⟨g1, g2⟩ := HH3'.out.fedh h1 h2 h3 h4; exact ⟨rfl, rfl, F2, cv2, cb2, g1, ⟨g2.os, g2.tape, g2.output, g2.size, g2.block⟩, (h2.block P HS3.out (fun h => HG2.out P h rfl)).trans HBX3.out⟩)
      case rest =>
        obtain ⟨rfl, rfl, F2, cv2, cb2, hB, hbel, hbx⟩ := hcut
        obtain ⟨w4, hw4e⟩ : ∃ w4, w4 = wc := ⟨_, rfl⟩
        rw [← hw4e] at hB hbel hbx ⊢
        clear hw4e b0 b1 b2 b8 b9
        have HH4 := hide (hB.kept (Below.refl _ w4).drew)
        have b0 := cellB hbx 1
        have b1 := cellB hbx 2
        have HBX4 : Hid (w4.drew.heap[P]? = _) := hide hbx
        have HS4 : Hid (P < w4.drew.heap.size) := hide (ltB hbx)
        have HB4 := hide (HB3.out.trans (hbel.mono (Nat.le_refl _)))
        have HC34 := hide (fed33_at base hb wb bb kb kc blk tb rv1 lv1 M1.1 B1 d1 p.conn p.now i (S.extract n S.size) w4.drew HH4.out.law hi hi3 c0 c1 n0 n1 (by omega) r2 (by rw [HR2.out, HM2.out]))
        clear hB hbel hbx HC12 HH3' HG2
        go_upto_region 15 with fail
        go_cut [11] (fun s11 wx => s11 = .bool true ∧ ∃ lv2 B2 rv2, Both wx base hb db nb sb wb bb kb kc mb blk tb rv2 lv2 M2.1 F2 cv2 3 cb2 (fun j => if j = i then M2.2.1 else d1 j) M2.1 B2 (fun j => if j = i then M2.2.1 else d1 j) ∧ Below base w4 wx)
        case first =>
          go_region_held3 (fun w' => w'.cell? ⟨P, 1, none⟩ = some (.int .i64 p.conn) ∧ w'.cell? ⟨P, 2, none⟩ = some (.int .u64 p.now)) (first | go_keep | (exact ⟨e1, e2⟩)) (first | (go_at_call 33; refine HC34.out.mono ?_; rintro e wx ⟨rfl, lv2, B2, rv2, h1, h2, h3⟩; have hx := (h2.block P HS4.out (fun h => HLP3'.out P h.lg rfl)).trans HBX4.out; have e1 := cellB hx 1; have e2 := cellB hx 2))
          all_goals (go_wp2_with fail; go_meet)
          all_goals (rw [← HM2.out] at h1 h3; obtain ⟨g1, g2⟩ := HH4.out.fedl h1 h2 h3; exact ⟨rfl, lv2, B2, _, g1, ⟨g2.os, g2.tape, g2.output, g2.size, g2.block⟩⟩)
        case rest =>
          obtain ⟨rfl, lv2, B2, rv2, hB, hbel⟩ := hcut
          obtain ⟨w5, hw5e⟩ : ∃ w5, w5 = wc := ⟨_, rfl⟩
          rw [← hw5e] at hB hbel ⊢
          clear hw5e b0 b1
          obtain ⟨least5, hw5⟩ := hB.law.blk
          obtain ⟨mp, hsv, _, _⟩ := hB.host.hs.mem
          have HH5 := hide hB
          have HB5 := hide (HB4.out.trans (hbel.mono (Nat.le_refl _)))
          have H34 := hide (hostadmitted34 hb sb _ _ _ _ _ _ _ _ w5 hB.host.hh hsv)
          have b0 := cellB hw5 0
          have b10 := cellB hw5 22
          clear hB hbel hw5 hsv HC34 HH4
          go_wp2_with fail
          refine H34.out.mono ?_
          rintro e w6 ⟨rfl, he6⟩
          rw [he6]
          clear he6
          go_wp2
          go_ret
          exact ⟨rfl, _, _, _, _, _, _, _, _, HH5.out, HB5.out⟩
end Go.Proofs.YtlamgpeiolfffaaGreatDoor
