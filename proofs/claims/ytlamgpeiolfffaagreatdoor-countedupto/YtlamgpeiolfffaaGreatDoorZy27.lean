import Derived.Test.YtlamgpeiolfffaaGreatDoorZy26
set_option linter.unusedSectionVars false
namespace Go.Proofs.YtlamgpeiolfffaaGreatDoor
open Go.RowKit
variable [dK] [iK]

set_option maxRecDepth 100000 in
set_option maxHeartbeats 8000000 in
theorem read44 (st : Int) (sb cb : Nat) (F : Nat → Prop) (L0 : Ld) (bs0 : List Int) (vb cw cbad : Value) (w : World) (hS : SrvAt w st sb L0 F) (hL : L0.ok) (hcb : w.heap[cb]? = some (.cells #[.pointer (some ⟨sb, 0, none⟩), cw, cbad] 103)) (hFc : ¬ F cb)
    (hs : Sl w vb bs0) (hsF : ∀ g o n c, vb = .slice (some ⟨g, o, none⟩) n c → g < w.heap.size ∧ ¬ F g) (hby : Bytes bs0) (hlen : bs0.length ≤ 100000)
    (hdo : Hid (∀ w1 L F1 q, SrvAt w1 st sb L F1 → L.ok → q.ok → Calls Tryz.prog 69 #[.pointer (some ⟨sb, 0, none⟩), .agg #[.int .u8 q.op, .int .u8 q.k0, .int .u8 q.k1, .int .u8 q.k2, .int .u8 q.k3, .int .u8 q.k4, .int .u8 q.k5, .int .u8 q.k6, .int .u8 q.k7, .int .u8 q.kd, .int .u64 q.x, .int .u64 q.y, .int .u64 q.n]] w1 fun e w' => e = .returned (.agg #[.int .u8 (doM L q).2.c, .int .u64 (doM L q).2.a, .int .u64 (doM L q).2.b]) ∧ Out w1 st sb (doM L q).1 F1 w')) :
    Calls Tryz.prog 44 #[.pointer (some ⟨cb, 0, none⟩), vb] w fun e w' => ∃ rv F', e = .returned rv ∧ SrvAt w' st sb (runL L0 bs0).1 F' ∧ (∀ b, F' b → F b ∨ w.heap.size ≤ b) ∧ Keep (fun b => F b ∨ b = cb) w w' ∧
      ((runL L0 bs0).2.2.2 = 2 ∧ w'.heap[cb]? = some (.cells #[.pointer (some ⟨sb, 0, none⟩), .slice none 0 0, .bool true] 103) ∧ w'.ownsRow w.heap.size 5 1 rv (encs ((runL L0 bs0).2.1 ++ [⟨6, 0, 0⟩])).length ((encs ((runL L0 bs0).2.1 ++ [⟨6, 0, 0⟩])).map (Value.int .u8)) ∨
       (runL L0 bs0).2.2.2 ≠ 2 ∧ ∃ wv, w'.heap[cb]? = some (.cells #[.pointer (some ⟨sb, 0, none⟩), wv, cbad] 103) ∧ w'.ownsRow w.heap.size 5 1 wv (runL L0 bs0).2.2.1.length ((runL L0 bs0).2.2.1.map (Value.int .u8)) ∧ (∀ g, wv.ownBlock = some g → ¬ F' g) ∧ w'.ownsRow w.heap.size 5 1 rv (encs (runL L0 bs0).2.1).length ((encs (runL L0 bs0).2.1).map (Value.int .u8))) := by
  have hFl := hS.lt
  have lc := ltB hcb
  have HCB := hide hcb
  have HBY := hide hby
  have HS := hide hs
  have HSF := hide hsF
  clear hcb hby hs hsF
  go_enter Tryz.func44, Tryz.ntmps44
  go_wp2_with fail
  refine (read67 vb bs0 w HS.out (by omega) (fun j => HBY.out.getD j) _ rfl _ _ rfl rfl).mono ?_
  rintro e w1 ⟨rfl, hb1⟩
  go_wp2_with fail
  go_loopw [1, 5, 7, 8] (fun s1 s5 s7 s8 wr => ∃ L bs rs F', RdI w F st sb cb w1.heap.size #[.pointer (some ⟨sb, 0, none⟩), cw, cbad] L0 bs0 L bs rs F' s1 s5 wr ∧ s7 = .int .i64 (rdN bs) ∧ s8 = errV (rdErr bs)) (fun s1 _ _ _ _ => sliceLen s1)
  case atStart =>
    have hs1 := hb1.size
    refine ⟨L0, bs0, [], F, ⟨by simp, (HS.out.below hb1 (Nat.le_refl _)).kept (by simp) (fun g _ _ _ _ hg => heapOld _ _ hg), by simp, HBY.out, World.ownsRow_nil _ _ _ _, heapNew _ _, (hS.below hb1 (Nat.le_refl _)).kept (by simp) (fun b hb => heapOld _ _ (by have := hFl b hb; omega)), hL, fun b hb => Or.inl hb, fun h => by have := hFl _ h; omega, fun g hg => by simp [Value.ownBlock] at hg, HSF.out, upB ((hb1.block cb lc).trans HCB.out) _, (Keep.of_below hb1).alloc _⟩, rfl, rfl⟩
  case round =>
    obtain ⟨L, bs, rs, F', I, rfl, rfl⟩ := hrel
    have hs1 := hb1.size
    by_cases h0 : rdErr bs = 0
    · obtain ⟨r1, r2, r3, r4⟩ := rdN_ok bs h0
      have eV : errV (rdErr bs) = .nilIface := by rw [h0]; rfl
      rw [eV, r3]
      have hI := hide I
      rcases I.sl with ⟨hnil, _⟩ | ⟨hp, g, o, c, hv, hc, hg, hcell⟩
      · rw [hnil] at h0; simp [rdErr] at h0
      subst hv
      obtain ⟨q, hq⟩ : ∃ q, q = rdQ bs := ⟨_, rfl⟩
      obtain ⟨m, hm⟩ : ∃ m, m = (rdN bs).toNat := ⟨_, rfl⟩
      obtain ⟨n, hn⟩ : ∃ n, n = bs.length := ⟨_, rfl⟩
      rw [← hm] at r1 r2 r4 ⊢
      rw [← hn] at r2 hc hp ⊢
      have hqok : q.ok := hq ▸ rdQ_ok bs I.by_
      obtain ⟨L2, r, hdm⟩ : ∃ L2 r, doM L q = (L2, r) := ⟨_, _, rfl⟩
      have hd : ∀ w1, SrvAt w1 st sb L F' → Calls Tryz.prog 69 #[.pointer (some ⟨sb, 0, none⟩), .agg #[.int .u8 q.op, .int .u8 q.k0, .int .u8 q.k1, .int .u8 q.k2, .int .u8 q.k3, .int .u8 q.k4, .int .u8 q.k5, .int .u8 q.k6, .int .u8 q.k7, .int .u8 q.kd, .int .u64 q.x, .int .u64 q.y, .int .u64 q.n]] w1 fun e w' => e = .returned (.agg #[.int .u8 r.c, .int .u64 r.a, .int .u64 r.b]) ∧ Out w1 st sb L2 F' w' := fun w1 h => by
        have := hdo.out w1 L F' q h I.lok hqok
        rw [hdm] at this
        exact this
      have hdk := doM_ok L q I.lok hqok
      rw [hdm] at hdk
      have HD := hide hd
      have hconn := I.conn
      have hreq : wr.heap[w1.heap.size]? = some (.cells #[.int .u8 q.op, .int .u8 q.k0, .int .u8 q.k1, .int .u8 q.k2, .int .u8 q.k3, .int .u8 q.k4, .int .u8 q.k5, .int .u8 q.k6, .int .u8 q.k7, .int .u8 q.kd, .int .u64 q.x, .int .u64 q.y, .int .u64 q.n] 58) := hq ▸ I.req
      have hF2 := I.F2
      have hF4 := I.F4 g o _ c (by rw [← hn])
      have hFcb : ¬ F' cb := fun h => (I.F1 _ h).elim hFc (fun h => by omega)
      have hFg : ¬ F' g := fun h => (I.F1 _ h).elim hF4.2 (fun h => by omega)
      have hbase := I.keep.size
      have lrb := ltB hreq
      have HO := hide I.own
      have hk5 : (encs rs).length + 18 ≤ 4194304 := by have := I.le; rw [encs_length]; omega
      have HF3 := hide I.F3
      have HRP := hide hdk.2
      have HSR := hide I.srv
      have HM := hide hm
      have HN := hide hn
      have HQ := hide hq
      have HR3 := hide r3
      have HDM := hide hdm
      have HEV := hide h0
      clear hd hdk I hcell hm hn hq r3 hdm h0 eV
      go_wp2_with fail
      go_region_held3 (fun w' => w'.cell? ⟨cb, 0, none⟩ = some (.pointer (some ⟨sb, 0, none⟩)) ∧ w'.cell? ⟨w1.heap.size, 0, none⟩ = some (.int .u8 q.op) ∧ w'.cell? ⟨w1.heap.size, 1, none⟩ = some (.int .u8 q.k0) ∧ w'.cell? ⟨w1.heap.size, 2, none⟩ = some (.int .u8 q.k1) ∧ w'.cell? ⟨w1.heap.size, 3, none⟩ = some (.int .u8 q.k2) ∧ w'.cell? ⟨w1.heap.size, 4, none⟩ = some (.int .u8 q.k3) ∧ w'.cell? ⟨w1.heap.size, 5, none⟩ = some (.int .u8 q.k4) ∧ w'.cell? ⟨w1.heap.size, 6, none⟩ = some (.int .u8 q.k5) ∧ w'.cell? ⟨w1.heap.size, 7, none⟩ = some (.int .u8 q.k6) ∧ w'.cell? ⟨w1.heap.size, 8, none⟩ = some (.int .u8 q.k7) ∧ w'.cell? ⟨w1.heap.size, 9, none⟩ = some (.int .u8 q.kd) ∧ w'.cell? ⟨w1.heap.size, 10, none⟩ = some (.int .u64 q.x) ∧ w'.cell? ⟨w1.heap.size, 11, none⟩ = some (.int .u64 q.y) ∧ w'.cell? ⟨w1.heap.size, 12, none⟩ = some (.int .u64 q.n))
        (first | (exact ⟨cellB hc4 0, cellB hr4 0, cellB hr4 1, cellB hr4 2, cellB hr4 3, cellB hr4 4, cellB hr4 5, cellB hr4 6, cellB hr4 7, cellB hr4 8, cellB hr4 9, cellB hr4 10, cellB hr4 11, cellB hr4 12⟩) | (exact ⟨cellB hc3 0, cellB hr3 0, cellB hr3 1, cellB hr3 2, cellB hr3 3, cellB hr3 4, cellB hr3 5, cellB hr3 6, cellB hr3 7, cellB hr3 8, cellB hr3 9, cellB hr3 10, cellB hr3 11, cellB hr3 12⟩) | (exact ⟨cellB hc2 0, cellB hr2 0, cellB hr2 1, cellB hr2 2, cellB hr2 3, cellB hr2 4, cellB hr2 5, cellB hr2 6, cellB hr2 7, cellB hr2 8, cellB hr2 9, cellB hr2 10, cellB hr2 11, cellB hr2 12⟩) | (exact ⟨cellB hconn 0, cellB hreq 0, cellB hreq 1, cellB hreq 2, cellB hreq 3, cellB hreq 4, cellB hreq 5, cellB hreq 6, cellB hreq 7, cellB hreq 8, cellB hreq 9, cellB hreq 10, cellB hreq 11, cellB hreq 12⟩))
        (first | (go_at_call 69; (refine (HD.out _ HSR.out.drew).mono ?_; rintro e w2 ⟨rfl, F2, o1, o2, o3⟩; have hc2 := (o2.block cb (ltB hconn) hFcb).trans hconn; have hr2 := (o2.block w1.heap.size lrb hF2).trans hreq))
               | (go_at_call 68; (refine (wrep r.c r.a r.b _ HRP.out.a.1 HRP.out.a.2 HRP.out.b.1 HRP.out.b.2).mono ?_; rintro e w3 ⟨rfl, hown3, hb3⟩; have hc3 := (hb3.block cb (ltB hc2)).trans hc2; have hr3 := (hb3.block w1.heap.size (ltB hr2)).trans hr2))
               | ((refine step_append_src (by rfl) _ _ (by rfl) w.heap.size u5 (encs rs).length (encs rs) (by rfl) (own_kept HO.out (fun z hz => (hb3.block z (Nat.lt_of_lt_of_le (HO.out.lt z hz).2 o2.size)).trans (o2.block z (HO.out.lt z hz).2 (HF3.out z hz).1))) ⟨w2.heap.size + 1, 0, none⟩ 18 18 (encRep r.c r.a r.b) (by rfl) (by simp [encRep, be8]) (fun j u hj => by rw [Addr.add_lit, Nat.zero_add]; exact (hown3.cellAt j (by have := (List.getElem?_eq_some_iff.1 hj).1; simp [encRep, be8] at this; omega)).trans hj) hk5 (by have := hb3.size; have := o2.size; have : wr.drew.heap.size = wr.heap.size := rfl; omega) ?_; intro v5 w4 hown4 hgr4 hloc4; have hz4 : ∀ z, z < w3.heap.size → (∀ y, u5.ownBlock = some y → y ≠ z) → w4.heap[z]? = w3.heap[z]? := fun z hz hy => hgr4.block z hz (fun e => hy z e.symm rfl); have hc4 := (hz4 cb (ltB hc3) (fun y hy e => by have := (HO.out.lt y hy).1; omega)).trans hc3; have hr4 := (hz4 w1.heap.size (ltB hr3) (fun y hy e => (HF3.out y hy).2 e)).trans hr3)))
      have hs3 := hb3.size
      have hs2 := o2.size
      have hsd : wr.drew.heap.size = wr.heap.size := rfl
      have hs4 := hgr4.size
      have hnF : ∀ z, F2 z → (∀ y, u5.ownBlock = some y → y ≠ z) := fun z hz y hy e => by
        subst e
        rcases o3 _ hz with h | h
        · exact (HF3.out y hy).1 h
        · have := (HO.out.lt y hy).2; omega
      have hsrv4 : SrvAt w4 st sb L2 F2 := o1.kept (by omega) (fun z hz => (hz4 z (Nat.lt_of_lt_of_le (o1.lt z hz) hs3) (hnF z hz)).trans (hb3.block z (o1.lt z hz)))
      have hgk : ∀ z, z < w.heap.size → ¬ F z → w4.heap[z]? = wr.heap[z]? := fun z hz hF => (hz4 z (by omega) (fun y hy e => by have := (HO.out.lt y hy).1; omega)).trans ((hb3.block z (by omega)).trans (o2.block z (by show z < wr.heap.size; omega) (fun h => (hI.out.F1 z h).elim hF (fun h => by omega))))
      have hK4 : Keep F w w4 := by
        have k1 : Keep F w w2 := hI.out.keep.drew.then o2 (fun i hi h => (hI.out.F1 i h).elim id (fun h => absurd hi (Nat.not_lt.2 h)))
        have k2 : Keep F w w3 := k1.trans (Keep.of_below hb3)
        exact ⟨hgr4.os.trans k2.os, hgr4.tape.trans k2.tape, hgr4.output.trans k2.output, Nat.le_trans k2.size hs4, fun z hz hF => (hz4 z (by omega) (fun y hy e => by have := (HO.out.lt y hy).1; omega)).trans (k2.block z hz hF)⟩
      have hbd : (bs.drop m).length = n - m := by rw [List.length_drop, ← HN.out]
      have HBD := hide hbd
      clear hbd
      obtain ⟨vd, hvd, hsl4, hvg⟩ : ∃ vd, (if c = m then Value.slice (some ⟨g, o, none⟩) (n - m) (c - m) else Value.slice (some ⟨g, o + m, none⟩) (n - m) (c - m)) = vd ∧ Sl w4 vd (bs.drop m) ∧ (∀ g' o' n' c', vd = .slice (some ⟨g', o', none⟩) n' c' → g' = g) := by
        refine ⟨_, rfl, ?_, ?_⟩
        · rcases hI.out.sl with ⟨hnil, _⟩ | ⟨_, g', o', c', hv, hc', hg', hcell⟩
          · rw [hnil] at HN; have := HN.out; simp at this; omega
          · injection hv with e1 e2 e3
            injection e1 with e1
            injection e1 with e4 e5
            subst e4 e5 e3
            by_cases hrem : n - m = 0
            · left
              refine ⟨List.length_eq_zero_iff.1 (HBD.out.trans hrem), Or.inr ?_⟩
              rw [hrem]
              split
              · exact ⟨_, _, _, rfl⟩
              · exact ⟨_, _, _, rfl⟩
            · right
              rw [if_neg (by omega), HBD.out]
              refine ⟨by omega, g, o + m, c - m, rfl, by omega, by have := hI.out.F4 g o _ c rfl; omega, fun j hj => ?_⟩
              have hF4' := hI.out.F4 g o _ c rfl
              rw [World.cell?_of_block (w := wr) (hgk g hF4'.1 hF4'.2), Nat.add_assoc, hcell (m + j) (by rw [← HN.out]; omega)]
              simp [List.getD, List.getElem?_drop]
        · intro g' o' n' c' h
          split at h <;> (injection h with h1 _ _; injection h1 with h1; injection h1 with h1 _; exact h1.symm)
      have HSL := hide hsl4
      have HSV := hide hsrv4
      have HVD := hide hvd
      have HVG := hide hvg
      have HK4 := hide hK4
      have hmn : (m : Int) ≤ (n : Int) := by omega
      have hm0 : (0 : Int) ≤ (m : Int) := by omega
      clear hsl4 hsrv4 hvd hvg hK4 hgk hnF hown3 hb3 hgr4
      have HL4 := hide hloc4
      have HO4 := hide hown4
      clear hloc4 hown4
      go_wp2_with fail
      · have h := HVD.out
        rw [if_pos (by omega), show c - m = 0 by omega] at h
        subst h
        refine (read67 _ (bs.drop m) w4 HSL.out (by rw [HBD.out]; have := hI.out.le; have := HN.out; omega) (fun j => (hI.out.by_.drop m).getD j) _ rfl _ _ rfl rfl).mono ?_
        rintro e w5 ⟨rfl, hb5⟩
        have hr5 := (hb5.block w1.heap.size (ltB hr4)).trans hr4
        have hs5 := hb5.size
        have d1 := cellB hr5
        have d2 := frozenB hr5
        go_wp2
        go_roundw
        case rel =>
          have hrbF : ¬ F2 w1.heap.size := fun h => (o3 _ h).elim hF2 (fun h => by have : wr.heap.size ≤ _ := h; omega)
          have hstep := runL_step L bs HEV.out
          rw [← HQ.out, HDM.out, ← HM.out] at hstep
          have hdok := doM_ok L q hI.out.lok (HQ.out ▸ rdQ_ok bs hI.out.by_)
          rw [HDM.out] at hdok
          have hv5 : ∀ y, v5.ownBlock = some y → y ≠ w1.heap.size ∧ ¬ F2 y := by
            intro y hy
            rcases HL4.out with h | h
            · rw [h] at hy
              refine ⟨(HF3.out y hy).2, fun hF => (o3 _ hF).elim (HF3.out y hy).1 (fun h => ?_)⟩
              have := (HO.out.lt y hy).2
              have : wr.heap.size ≤ _ := h
              omega
            · rw [h] at hy
              injection hy with hy
              refine ⟨by omega, fun hF => ?_⟩
              have := o1.lt y hF
              omega
          refine ⟨L2, bs.drop m, rs ++ [r], F2, ⟨?_, ?_, ?_, hI.out.by_.drop m, ?_, ?_, ?_, hdok.1, ?_, hrbF, fun y hy => ⟨(hv5 y hy).2, (hv5 y hy).1⟩, fun g' o' n' c' h => by rw [HVG.out g' o' n' c' h]; exact hF4, ?_, ?_⟩, rfl, rfl⟩
          · rw [hI.out.run, hstep, List.append_assoc]; rfl
          · refine (HSL.out.below hb5 (Nat.le_refl _)).kept (by simp) (fun g' o' n' c' h hg' => ?_)
            have := HVG.out g' o' n' c' h
            repeat (refine (heapSetO (by omega) _ _).trans ?_)
            rfl
          · have := hI.out.le
            have := HN.out
            rw [List.length_append, HBD.out]
            simp only [List.length_cons, List.length_nil]
            omega
          · refine own_kept (w := w4) ?_ (fun y hy => ?_)
            · have := HO4.out
              rw [encs_snoc, List.length_append]
              exact this
            · have h1 := (hv5 y hy).1
              repeat (refine (heapSetO h1 _ _).trans ?_)
              exact hb5.block y (HO4.out.lt y hy).2
          · exact heapSet13 hr5 _ _ _ _ _ _ _ _ _ _ _ _ _
          · refine HSV.out.kept (by simp; omega) (fun z hz => ?_)
            have h1 : z ≠ w1.heap.size := fun e => hrbF (e ▸ hz)
            repeat (refine (heapSetO h1 _ _).trans ?_)
            exact hb5.block z (HSV.out.lt z hz)
          · exact fun z hz => (o3 z hz).elim (hI.out.F1 z) (fun h => Or.inr (by have : wr.heap.size ≤ z := h; omega))
          · repeat (refine (heapSetO (by omega) _ _).trans ?_)
            exact (hb5.block cb (ltB hc4)).trans hc4
          · repeat (refine Keep.set ?_ (Or.inr (by omega)) _ _)
            exact HK4.out.trans (Keep.of_below hb5)
        case measure => simp [sliceLen]; omega
      · have h := HVD.out
        rw [if_neg (by omega)] at h
        subst h
        refine (read67 _ (bs.drop m) w4 HSL.out (by rw [HBD.out]; have := hI.out.le; have := HN.out; omega) (fun j => (hI.out.by_.drop m).getD j) _ rfl _ _ rfl rfl).mono ?_
        rintro e w5 ⟨rfl, hb5⟩
        have hr5 := (hb5.block w1.heap.size (ltB hr4)).trans hr4
        have hs5 := hb5.size
        have d1 := cellB hr5
        have d2 := frozenB hr5
        go_wp2
        go_roundw
        case rel =>
          have hrbF : ¬ F2 w1.heap.size := fun h => (o3 _ h).elim hF2 (fun h => by have : wr.heap.size ≤ _ := h; omega)
          have hstep := runL_step L bs HEV.out
          rw [← HQ.out, HDM.out, ← HM.out] at hstep
          have hdok := doM_ok L q hI.out.lok (HQ.out ▸ rdQ_ok bs hI.out.by_)
          rw [HDM.out] at hdok
          have hv5 : ∀ y, v5.ownBlock = some y → y ≠ w1.heap.size ∧ ¬ F2 y := by
            intro y hy
            rcases HL4.out with h | h
            · rw [h] at hy
              refine ⟨(HF3.out y hy).2, fun hF => (o3 _ hF).elim (HF3.out y hy).1 (fun h => ?_)⟩
              have := (HO.out.lt y hy).2
              have : wr.heap.size ≤ _ := h
              omega
            · rw [h] at hy
              injection hy with hy
              refine ⟨by omega, fun hF => ?_⟩
              have := o1.lt y hF
              omega
          refine ⟨L2, bs.drop m, rs ++ [r], F2, ⟨?_, ?_, ?_, hI.out.by_.drop m, ?_, ?_, ?_, hdok.1, ?_, hrbF, fun y hy => ⟨(hv5 y hy).2, (hv5 y hy).1⟩, fun g' o' n' c' h => by rw [HVG.out g' o' n' c' h]; exact hF4, ?_, ?_⟩, rfl, rfl⟩
          · rw [hI.out.run, hstep, List.append_assoc]; rfl
          · refine (HSL.out.below hb5 (Nat.le_refl _)).kept (by simp) (fun g' o' n' c' h hg' => ?_)
            have := HVG.out g' o' n' c' h
            repeat (refine (heapSetO (by omega) _ _).trans ?_)
            rfl
          · have := hI.out.le
            have := HN.out
            rw [List.length_append, HBD.out]
            simp only [List.length_cons, List.length_nil]
            omega
          · refine own_kept (w := w4) ?_ (fun y hy => ?_)
            · have := HO4.out
              rw [encs_snoc, List.length_append]
              exact this
            · have h1 := (hv5 y hy).1
              repeat (refine (heapSetO h1 _ _).trans ?_)
              exact hb5.block y (HO4.out.lt y hy).2
          · exact heapSet13 hr5 _ _ _ _ _ _ _ _ _ _ _ _ _
          · refine HSV.out.kept (by simp; omega) (fun z hz => ?_)
            have h1 : z ≠ w1.heap.size := fun e => hrbF (e ▸ hz)
            repeat (refine (heapSetO h1 _ _).trans ?_)
            exact hb5.block z (HSV.out.lt z hz)
          · exact fun z hz => (o3 z hz).elim (hI.out.F1 z) (fun h => Or.inr (by have : wr.heap.size ≤ z := h; omega))
          · repeat (refine (heapSetO (by omega) _ _).trans ?_)
            exact (hb5.block cb (ltB hc4)).trans hc4
          · repeat (refine Keep.set ?_ (Or.inr (by omega)) _ _)
            exact HK4.out.trans (Keep.of_below hb5)
        case measure => simp [sliceLen]; omega
    · have hrun := I.run
      rw [runL_stop L bs h0] at hrun
      simp only [List.append_nil] at hrun
      have hI := hide I
      have hbase := I.keep.size
      have hconn := I.conn
      have lcw := ltB hconn
      have hle : 18 * rs.length + 9 * bs.length ≤ 9 * bs0.length := I.le
      rcases rdErr_cases bs with h | h | h
      · exact absurd h h0
      · rw [h] at hrun ⊢
        have eV : errV 1 = .iface 46 (.int .i64 1) := rfl
        rw [eV]
        have HRUN := hide hrun
        clear hrun I h h0 eV
        go_wp2_with fail
        refine (is_other 1 2 _ (by decide)).mono ?_
        rintro e wq ⟨rfl, rfl⟩
        go_wp2_with (at_builtin; refine wpList_append_srcA rfl _ _ rfl w.heap.size (.slice none 0 0) 0 [] rfl (World.ownsRow_nil _ _ _ _) u1 bs rfl hI.out.sl.src (by omega) hbase ?_; intro wv w3 hown3 hgr3 hloc3; obtain ⟨ya, yc, hyw⟩ := own_slice hown3; subst hyw; have hc3 := (hgr3.block cb lcw (by simp [Value.ownBlock])).trans hconn; have d1 := cellB hc3; have d2 := frozenB hc3)
        go_ret
        have hs3 := hgr3.size
        have hwv : ∀ y, (Value.slice ya (0 + bs.length) yc).ownBlock = some y → y = wq.heap.size := fun y hy => by
          rcases hloc3 with h | h
          · rw [h] at hy; simp [Value.ownBlock] at hy
          · rw [h] at hy; injection hy with hy; exact hy.symm
        rw [HRUN.out]
        have hk3 : ∀ z, z < wq.heap.size → w3.heap[z]? = wq.heap[z]? := fun z hz => hgr3.block z hz (by simp [Value.ownBlock])
        have hcF : ¬ F' cb := fun h => (hI.out.F1 _ h).elim hFc (fun h => by omega)
        refine ⟨u5, F', rfl, hI.out.srv.kept (by simp; omega) (fun z hz => ?_), hI.out.F1, ?_, Or.inr ⟨by simp, (Value.slice ya (0 + bs.length) yc), by simpa using heapSet hc3 1 (Value.slice ya (0 + bs.length) yc), ?_, fun y hy hF => ?_, ?_⟩⟩
        · have hzc : z ≠ cb := fun e => hcF (e ▸ hz)
          exact (heapSetO hzc _ _).trans (hk3 z (hI.out.srv.lt z hz))
        · refine Keep.set ?_ (Or.inl (Or.inr rfl)) _ _
          exact ⟨hgr3.os.trans hI.out.keep.os, hgr3.tape.trans hI.out.keep.tape, hgr3.output.trans hI.out.keep.output, by omega, fun z hz hn => (hk3 z (by omega)).trans (hI.out.keep.block z hz (fun h => hn (Or.inl h)))⟩
        · refine own_kept (w := w3) ?_ (fun y hy => heapSetO (by have := hwv y hy; omega) _ _)
          simpa using hown3
        · have := hwv y hy
          have := hI.out.srv.lt y hF
          omega
        · refine own_kept (w := wq) hI.out.own (fun y hy => ?_)
          have h1 := hI.out.own.lt y hy
          exact (heapSetO (by omega) _ _).trans (hk3 y h1.2)
      · rw [h] at hrun ⊢
        have eV : errV 2 = .iface 46 (.int .i64 2) := rfl
        rw [eV]
        have HRUN := hide hrun
        have d1 := cellB hconn
        have d2 := frozenB hconn
        clear hrun I h h0 eV
        go_wp2_with fail
        refine (is_same 2 _).mono ?_
        rintro e wq ⟨rfl, rfl⟩
        go_wp2_with fail
        have hcF : ¬ F' cb := fun h => (hI.out.F1 _ h).elim hFc (fun h => by omega)
        obtain ⟨V, hV⟩ : ∃ V, V = (wq.setCell ⟨cb, 2, none⟩ (.bool true)).setCell ⟨cb, 1, none⟩ (.slice none 0 0) := ⟨_, rfl⟩
        rw [← hV]
        have hcV : V.heap[cb]? = some (.cells #[.pointer (some ⟨sb, 0, none⟩), .slice none 0 0, .bool true] 103) := by
          rw [hV]; simpa using heapSet (heapSet hconn 2 (.bool true)) 1 (.slice none 0 0)
        have hVo : ∀ z, z ≠ cb → V.heap[z]? = wq.heap[z]? := fun z hz => by rw [hV, heapSetO hz, heapSetO hz]
        have hVs : V.heap.size = wq.heap.size := by rw [hV]; simp
        have hVk : Keep (fun b => b = cb) wq V := by
          rw [hV]
          exact Keep.set (S := fun b => b = cb) (b := cb) (Keep.set (S := fun b => b = cb) (b := cb) (Keep.refl _ wq) (Or.inl rfl) _ _) (Or.inl rfl) _ _
        clear hV d1 d2
        refine (wrep 6 0 0 V (by omega) (by omega) (by omega) (by omega)).mono ?_
        rintro e w3 ⟨rfl, hown3, hb3⟩
        have hs3 := hb3.size
        have hown5 : w3.ownsRow w.heap.size 5 1 u5 (encs rs).length ((encs rs).map (Value.int .u8)) := own_kept hI.out.own (fun y hy => by
          have h1 := hI.out.own.lt y hy
          exact (hb3.block y (by omega)).trans (hVo y (by omega)))
        have hsrc3 : Src w3 (.slice (some ⟨V.heap.size + 1, 0, none⟩) 18 18) (encRep 6 0 0) := Src.of_own hown3
        have hel : (encRep 6 0 0).length = 18 := rfl
        have hbw3 : w.heap.size ≤ w3.heap.size := by omega
        have HVS := hide hVs
        have HOV := hide hVo
        clear hVs hVo
        have hk5 : (encs rs).length + 18 ≤ 4194304 := by rw [encs_length]; omega
        go_wp2_with (at_builtin; (refine wpList_append_srcA rfl _ _ rfl w.heap.size u5 (encs rs).length (encs rs) rfl hown5 (.slice (some ⟨V.heap.size + 1, 0, none⟩) 18 18) (encRep 6 0 0) rfl hsrc3 (by rw [hel]; exact hk5) hbw3 ?_; intro rv w4 hown4 hgr4 hloc4))
        go_ret
        rw [HRUN.out]
        have hVs := HVS.out
        have hVo := HOV.out
        have hs4 := hgr4.size
        have hk4 : ∀ z, z < wq.heap.size → (∀ y, u5.ownBlock = some y → y ≠ z) → z ≠ cb → w4.heap[z]? = wq.heap[z]? := fun z hz hy hc => (hgr4.block z (by omega) (fun e => hy z e.symm rfl)).trans ((hb3.block z (by omega)).trans (hVo z hc))
        have hu5 : ∀ y, u5.ownBlock = some y → w.heap.size ≤ y := fun y hy => (hI.out.own.lt y hy).1
        refine ⟨rv, F', rfl, hI.out.srv.kept (by omega) (fun z hz => ?_), hI.out.F1, ?_, Or.inl ⟨rfl, ?_, ?_⟩⟩
        · exact hk4 z (hI.out.srv.lt z hz) (fun y hy e => (hI.out.F3 y hy).1 (e ▸ hz)) (fun e => hcF (e ▸ hz))
        · have k1 : Keep (fun b => F b ∨ b = cb) w V := (hI.out.keep.mono (fun k h _ => Or.inl h)).then hVk (fun i _ h => Or.inr h)
          have k2 := k1.trans (Keep.of_below hb3)
          exact ⟨hgr4.os.trans k2.os, hgr4.tape.trans k2.tape, hgr4.output.trans k2.output, by omega, fun z hz hn => (hgr4.block z (by omega) (fun e => by have := hu5 z e.symm; omega)).trans (k2.block z hz hn)⟩
        · exact (hgr4.block cb (by omega) (fun e => by have := hu5 cb e.symm; omega)).trans ((hb3.block cb (by omega)).trans hcV)
        · rw [encs_snoc, List.length_append]
          exact hown4
end Go.Proofs.YtlamgpeiolfffaaGreatDoor
