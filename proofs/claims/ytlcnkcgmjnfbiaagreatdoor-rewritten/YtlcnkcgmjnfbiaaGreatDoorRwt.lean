import Derived.Test.YtlcnkcgmjnfbiaaGreatDoorZd49
import Derived.BigQuiet
set_option linter.unusedSectionVars false
namespace Go.Proofs.YtlcnkcgmjnfbiaaGreatDoor
open Go.RowKit Go.Maps
variable [dK] [iK]

theorem callFuncPickR (vs : Array Value) (w : World) : Sem.run Tryz.prog (callFunc 23 vs) w = .ok (.enter 23 vs) w := by simp [go_sem]
theorem callFuncBytesR (vs : Array Value) (w : World) : Sem.run Tryz.prog (callFunc 22 vs) w = .ok (.enter 22 vs) w := by simp [go_sem]
theorem callFuncFeedR (vs : Array Value) (w : World) : Sem.run Tryz.prog (callFunc 21 vs) w = .ok (.enter 21 vs) w := by simp [go_sem]
theorem qSnp_ok : qSnp.ok ∧ qSnp.byt := ⟨⟨⟨by simp [qSnp, Rq.key], by simp [qSnp, Rq.key], by simp [qSnp, Rq.key], by simp [qSnp, Rq.key], by simp [qSnp, Rq.key], by simp [qSnp, Rq.key], by simp [qSnp, Rq.key], by simp [qSnp, Rq.key]⟩, by simp [qSnp], by simp [qSnp], by simp [qSnp]⟩, ⟨by simp [qSnp], by simp [qSnp]⟩⟩
theorem qClk_okR : qClk.ok ∧ qClk.byt := ⟨⟨⟨by simp [qClk, Rq.key], by simp [qClk, Rq.key], by simp [qClk, Rq.key], by simp [qClk, Rq.key], by simp [qClk, Rq.key], by simp [qClk, Rq.key], by simp [qClk, Rq.key], by simp [qClk, Rq.key]⟩, by simp [qClk], by simp [qClk], by simp [qClk]⟩, ⟨by simp [qClk], by simp [qClk]⟩⟩
theorem qAll_ok : ∀ q ∈ qAll, q.ok ∧ q.byt := fun q hq => by
  simp only [qAll, List.mem_cons, List.not_mem_nil, or_false] at hq
  rcases hq with h | h | h | h
  · rw [h]; exact qQk_ok'
  · rw [h]; exact qSnp_ok
  · rw [h]; exact qQk_ok'
  · rw [h]; exact qClk_okR
theorem snp_reckon (T A : Int) (z : Qt) (hT : 0 ≤ T) : feedM ⟨T, A, [(kK, z)]⟩ ⟨[], false⟩ 0 (encQs [qSnp]) = (⟨T, A, [(kK, z)]⟩, ⟨[], false⟩, [⟨1, 0, 0⟩]) := by
  have e : encQs [qSnp] = qSnp.enc ++ [] := by simp [encQs]
  rw [feedM_good _ _ _ _ rfl, List.nil_append, e, pass0 T A z hT, runL_enc _ qSnp reads_snp, do_snp, runL_nil]
  rfl
/-- What an Admit makes of a ledger with that key. -/
theorem ask_one (T A at_ n : Int) (z : Qt) (hn : 0 ≤ n ∧ n ≤ 18446744073709551615) : ∃ A' z' r, feedM ⟨T, A, [(kK, z)]⟩ ⟨[], false⟩ at_ (encQs [qAdm n]) = (⟨if T < at_ then at_ else T, A', [(kK, z')]⟩, ⟨[], false⟩, [r]) := ⟨_, _, _, ask_reckon T A at_ n z hn⟩

set_option maxRecDepth 100000 in
set_option maxHeartbeats 8000000 in
theorem rewritten6 (kind x y kept part : Int) (ao : Option Addr) (n cap : Nat) (ds : List Dm) (w : World) (hn : ds.length = n) (_hnc : n ≤ cap) (hnm : n ≤ maxLen) (hok : ∀ d ∈ ds, d.ok) (k0 : -9223372036854775808 ≤ kind) (k1 : kind ≤ 9223372036854775807) (x0 : -9223372036854775808 ≤ x) (x1 : x ≤ 9223372036854775807) (y0 : -9223372036854775808 ≤ y) (y1 : y ≤ 9223372036854775807) (p0 : -9223372036854775808 ≤ part) (p1 : part ≤ 9223372036854775807)
    (hgl : w.cell? ⟨0, 0, none⟩ = some (.iface 236 (.agg #[.pointer (some ⟨5, 93, none⟩)])))
    (hc : 0 < n → ∃ A o, ao = some ⟨A, o, none⟩ ∧ A < w.heap.size ∧ ∀ i (h : i < ds.length) j, j < 5 → w.cell? ⟨A, o + i * 5 + j, none⟩ = (dmc ds[i])[j]?) :
    Calls Tryz.prog 6 #[.int .i64 kind, .int .i64 x, .int .i64 y, .slice ao n cap, .int .i64 kept, .int .i64 part] w fun e w' => e = .returned (.bool true) ∧ Below w.heap.size w w' := by
  have hlt0 : 0 < w.heap.size := by
    rcases Nat.eq_zero_or_pos w.heap.size with h0 | h
    · simp [World.cell?, h0] at hgl
    · exact h
  have hnI : (n : Int) ≤ 9223372036854775807 := by simp only [maxLen] at hnm; omega
  obtain ⟨p, hp⟩ : ∃ p, p = polM kind x y := ⟨_, rfl⟩
  have H12 := hide (fun w => policy12 kind x y w k0 k1 x0 x1 y0 y1 p hp)
  obtain ⟨q1, q2, q3, _⟩ := polr_ok kind x y p hp
  obtain ⟨kd, X, Y⟩ := p
  dsimp only at *
  have HGL := hide hgl
  have HSO := hide q1
  have HC := hide hc
  have HN := hide hn
  have HOK := hide hok
  obtain ⟨z0, hz0⟩ : ∃ z0 : Qt, z0 = ⟨kd, X, Y, 0, 0⟩ := ⟨_, rfl⟩
  clear hgl hp q1 hc hn hok hnm
  go_enter Tryz.func6, Tryz.ntmps6
  go_wp2_with fail
  refine (H12.out _).mono ?_
  rintro e w1 ⟨rfl, hb1⟩
  go_wp2_with fail
  obtain ⟨V, hV⟩ : ∃ V, V = w1.alloc (.cells #[.int .u8 kd, .int .u64 X, .int .u64 Y] 39) := ⟨_, rfl⟩
  have hBV : Below w.heap.size w V := hV ▸ hb1.alloc hb1.size _
  rw [← hV]
  clear hV hb1 H12
  refine (opened8 kd X Y 0 V HSO.out (by omega) (by omega) (by omega) ((hBV.cell (p := ⟨0, 0, none⟩) hlt0).trans HGL.out)).mono ?_
  rintro e w2 ⟨hb, db, nb, sb, mb, F, cv, cb, rfl, hA2, hB2⟩
  have V2 : Hv w w2 hb 0 0 ⟨0, 0, [(kK, z0)]⟩ V.heap.size (HG hb db F cv 3 cb) [] := ⟨⟨db, nb, sb, mb, F, cv, 3, cb, Nat.le_refl _, hz0 ▸ hA2, rfl⟩, hB2.size, hBV.size, hBV.trans (hB2.mono hBV.size), fun p hp => (by cases hp)⟩
  have HV2 := hide V2
  obtain ⟨B, hB⟩ : ∃ B, B = V.heap.size := ⟨_, rfl⟩
  rw [← hB] at HV2
  obtain ⟨G2, hG2⟩ : ∃ G2, G2 = HG hb db F cv 3 cb := ⟨_, rfl⟩
  rw [← hG2] at HV2
  clear V2 hA2 hB2 hBV hB hG2
  by_cases hbig : 100 < (n : Int)
  · go_wp2_with fail
    go_ret
    exact ⟨rfl, HV2.out.be⟩
  · go_wp2_with fail
    go_loopw [15] (fun s15 wr => ∃ i : Nat, i ≤ n ∧ s15 = .int .i64 i ∧ ∃ D T A z G, Hv w wr hb 0 D ⟨T, A, [(kK, z)]⟩ B G [] ∧ 0 ≤ T) (fun s15 _ => n - (intOf s15).toNat)
    case atStart => exact ⟨0, Nat.zero_le _, rfl, 0, 0, 0, z0, G2, HV2.out, by omega⟩
    case round =>
      obtain ⟨i, hin, rfl, D, T, A, z, G, V3, hT⟩ := hrel
      obtain ⟨R, rfl⟩ : ∃ R, R = wr := ⟨_, rfl⟩
      have HV3 := hide V3
      clear V3 HV2
      by_cases hlt : i < n
      · have hltI : (i : Int) < (n : Int) := by omega
        have hi0 : (0 : Int) ≤ (i : Int) := by omega
        have hil : i < ds.length := by rw [HN.out]; exact hlt
        obtain ⟨Ab, o, rfl, hA, hcc⟩ := HC.out (by omega)
        obtain ⟨d, hd⟩ : ∃ d, d = ds[i] := ⟨_, rfl⟩
        have hdok : d.ok := hd ▸ HOK.out _ (List.getElem_mem hil)
        have HK : Hid (∀ W, Below w.heap.size w W → ∀ j, j < 5 → W.cell? ⟨Ab, o + i * 5 + j, none⟩ = (dmc d)[j]?) := hide (fun W hW j hj => (hW.cell (p := ⟨Ab, o + i * 5 + j, none⟩) hA).trans (hd ▸ hcc i hil j hj))
        have r8 := pickM_ok d.n 8 (by omega)
        have r2 := pickM_ok d.now 2000 (by omega)
        have HPN := hide (fun w => pick10 d.n 8 w (by omega) (by omega) hdok.n.1 hdok.n.2)
        have HPT := hide (fun w => pick10 d.now 2000 w (by omega) (by omega) hdok.now.1 hdok.now.2)
        have HPL := hide (fun w => pick10 d.lose 3 w (by omega) (by omega) hdok.lose.1 hdok.lose.2)
        obtain ⟨nn, hnn⟩ : ∃ nn, nn = pickM d.n 8 := ⟨_, rfl⟩
        obtain ⟨at_, hat⟩ : ∃ at_, at_ = pickM d.now 2000 := ⟨_, rfl⟩
        obtain ⟨ls, hls⟩ : ∃ ls, ls = pickM d.lose 3 := ⟨_, rfl⟩
        rw [← hnn] at r8 HPN
        rw [← hat] at r2 HPT
        rw [← hls] at HPL
        have v1 : IntKind.u64.wrap nn = nn := by rw [IntKind.wrap_u64]; omega
        have v2 : IntKind.u64.wrap at_ = at_ := by rw [IntKind.wrap_u64]; omega
        obtain ⟨A', z', r, hf1⟩ := ask_one T A at_ nn z ⟨by omega, by omega⟩
        obtain ⟨T', hT'⟩ : ∃ T', T' = if T < at_ then at_ else T := ⟨_, rfl⟩
        have hT2 : 0 ≤ T' := by rw [hT']; split <;> omega
        rw [← hT'] at hf1
        obtain ⟨s1, hs1⟩ : ∃ s1, s1 = strOfNums (encQs [qAdm nn]) := ⟨_, rfl⟩
        obtain ⟨t1, ht1⟩ : ∃ t1, t1 = strOfNums (encs [r]) := ⟨_, rfl⟩
        have hqa : ∀ q ∈ [qAdm nn], q.ok ∧ q.byt := fun q hq => by rw [List.mem_singleton.1 hq]; exact qAdm_ok' nn ⟨by omega, by omega⟩
        have H9 : Hid (Calls Tryz.prog 22 #[.slice (some ⟨R.heap.size, 0, none⟩) 1 1] (R.drew.alloc (.cells (([qAdm nn] : List Rq).flatMap rqcl).toArray 41)) fun e w' => e = .returned (.string s1) ∧ Hv w w' hb 0 D ⟨T, A, [(kK, z)]⟩ B G []) := hide (hv_bytes w R.drew hb 0 D _ B G [] [qAdm nn] HV3.out.drew (fun q hq => (hqa q hq).1) (by simp) s1 hs1)
        have HF := hide (fun (W : World) (h : Hv w W hb 0 D ⟨T, A, [(kK, z)]⟩ B G []) => hv_feed w W hb 0 D _ _ B G [] [qAdm nn] [r] at_ h hqa (by simp) (by omega) hf1 s1 t1 hs1 ht1)
        have m0 := HK.out R HV3.out.be 0 (by omega)
        have m1 := HK.out R HV3.out.be 1 (by omega)
        simp only [dmc, List.getElem?_cons_succ, List.getElem?_cons_zero, Nat.add_zero] at m0 m1
        have ma := HK.out (R.drew.alloc (.cells (([qAdm nn] : List Rq).flatMap rqcl).toArray 41)) (HV3.out.drew.kept ((Below.refl _ R.drew).alloc (Nat.le_refl _) _)).be 0 (by omega)
        simp only [dmc, List.getElem?_cons_zero, Nat.add_zero] at ma
        clear hqa hf1 hs1 ht1 hT' hls hnn hat hd hdok hcc
        go_wp2_with fail
        go_cut [] from 43 to 102 (fun wx => ∃ D1 G1, Hv w wx hb 0 D1 ⟨T', A', [(kK, z')]⟩ B G1 [])
        case first =>
          go_region_law (first | (refine step_fn (by rfl) 23 callFuncPickR _ _ (by rfl) #[.int .i64 d.n, .int .i64 8] (by simp only [List.map_toArray, List.map_cons, List.map_nil]; rfl) (HPN.out _) ?_; rintro e w3 ⟨rfl, rfl⟩; refine ⟨_, rfl, ?_⟩) | (refine step_fn (by rfl) 23 callFuncPickR _ _ (by rfl) #[.int .i64 d.now, .int .i64 2000] (by simp only [List.map_toArray, List.map_cons, List.map_nil]; rfl) (HPT.out _) ?_; rintro e w3 ⟨rfl, rfl⟩; refine ⟨_, rfl, ?_⟩) | (refine step_fn (by rfl) 22 callFuncBytesR _ _ (by rfl) #[.slice (some ⟨R.heap.size, 0, none⟩) 1 1] (by simp only [List.map_toArray, List.map_cons, List.map_nil]; rfl) H9.out ?_; rintro e w4 ⟨rfl, hv4⟩; have mb := HK.out w4 hv4.be 0 (by omega); simp only [dmc, List.getElem?_cons_zero, Nat.add_zero] at mb; refine ⟨_, rfl, ?_⟩) | (refine step_fn (by rfl) 21 callFuncFeedR _ _ (by rfl) #[.pointer (some ⟨hb, 0, none⟩), .int .i64 0, .int .u64 at_, .string s1, .int .i64 (-1), .int .i64 (-1), .int .i64 0, .int .i64 0] (by simp only [List.map_toArray, List.map_cons, List.map_nil]; rfl) (HF.out _ hv4) ?_; rintro e w5 ⟨rfl, hv5⟩; refine ⟨_, rfl, ?_⟩))
          all_goals (go_wp2_with fail; go_meet)
          all_goals exact ⟨_, hv5⟩
        case rest =>
          obtain ⟨D1, G1, V4⟩ := hcut
          obtain ⟨S, rfl⟩ : ∃ S, S = wc := ⟨_, rfl⟩
          have m2 := HK.out S V4.be 2 (by omega)
          simp only [dmc, List.getElem?_cons_succ, List.getElem?_cons_zero] at m2
          have HV4 := hide V4
          clear m0 m1 ma V4 H9 HF HV3 HPN HPT
          go_wp2_with fail
          refine (HPL.out _).mono ?_
          rintro e w1 ⟨rfl, he1⟩
          rw [he1]
          clear he1 m2
          by_cases hlo : ls = 1
          · obtain ⟨s2, hs2⟩ : ∃ s2, s2 = strOfNums (encQs [qSnp]) := ⟨_, rfl⟩
            obtain ⟨t2, ht2⟩ : ∃ t2, t2 = strOfNums (encs [⟨1, 0, 0⟩]) := ⟨_, rfl⟩
            have HS2 := hide hs2
            have HT2 := hide ht2
            clear hs2 ht2
            go_wp2_with fail
            refine (hv_bytes w S hb 0 D1 _ B G1 [] [qSnp] HV4.out (fun q hq => by rw [List.mem_singleton.1 hq]; exact qSnp_ok.1) (by simp) s2 HS2.out).mono ?_
            rintro e w5 ⟨rfl, V5⟩
            have HV5 := hide V5
            clear V5 HV4
            go_wp2_with fail
            refine (hv_feed w w5 hb 0 D1 _ _ B G1 [] [qSnp] [⟨1, 0, 0⟩] 0 HV5.out (fun q hq => by rw [List.mem_singleton.1 hq]; exact qSnp_ok) (by simp) (by omega) (snp_reckon T' A' z' hT2) s2 t2 HS2.out HT2.out).mono ?_
            rintro e w6 ⟨rfl, G6, V6⟩
            obtain ⟨D6, hD6⟩ : ∃ D6, D6 = feedD D1 ⟨T', A', [(kK, z')]⟩ ⟨[], false⟩ 0 (encQs [qSnp]) := ⟨_, rfl⟩
            rw [← hD6] at V6
            have HV6 := hide V6
            clear V6 HV5 hD6
            go_wp2_with fail
            refine (hv_replies w w6 hb 0 D6 _ B G6 [] [⟨1, 0, 0⟩] HV6.out (fun r hr => by rw [List.mem_singleton.1 hr]; exact ⟨by simp, by simp, by simp, by simp⟩) (by simp) hlt0 HGL.out t2 HT2.out).mono ?_
            rintro e w7 ⟨v7, rfl, o7, b7, V7⟩
            obtain ⟨g1, c1, rfl, _, hg1⟩ := o7.form (by simp)
            have j1 := o7.cellAt 0 (by simp)
            simp [rpcs, rpc] at j1
            have HV7 := hide V7
            clear V7 o7 b7 HV6
            go_wp2
            go_roundw
            case rel => exact ⟨i + 1, by omega, by go_num, D6, T', A', z', G6, HV7.out, hT2⟩
            case measure => simp [intOf]; omega
          · go_wp2
            go_roundw
            case rel => exact ⟨i + 1, by omega, by go_num, D1, T', A', z', G1, HV4.out, hT2⟩
            case measure => simp [intOf]; omega
      · have hltI : ¬ (i : Int) < (n : Int) := by omega
        obtain ⟨s5, hs5⟩ : ∃ s5, s5 = strOfNums (encQs qAll) := ⟨_, rfl⟩
        have hlok := HV3.out.hst.lok
        have hto := turnM_ok z T (hlok.qt (kK, z) (by simp)) hT hlok.time.2
        have hT64 : T ≤ 18446744073709551615 := hlok.time.2
        obtain ⟨a, ha⟩ : ∃ a, a = (turnM z T).lv := ⟨_, rfl⟩
        obtain ⟨b, hb'⟩ : ∃ b, b = (turnM z T).wn := ⟨_, rfl⟩
        have haa := hto.lv
        have hbb := hto.wn
        rw [← ha] at haa
        rw [← hb'] at hbb
        have HFA : Hid (∀ A, feedM ⟨T, A, [(kK, z)]⟩ ⟨[], false⟩ 0 (encQs qAll) = (⟨T, A, [(kK, z)]⟩, ⟨[], false⟩, [⟨1, a, b⟩, ⟨1, 0, 0⟩, ⟨1, a, b⟩, ⟨1, T, 0⟩])) := hide (fun A => by rw [ha, hb']; exact all_reckon T A z hT)
        have HFT : Hid (∀ D A, feedD D ⟨T, A, [(kK, z)]⟩ ⟨[], false⟩ 0 (encQs qAll) = T) := hide (fun D A => all_time D T A z hT)
        obtain ⟨t5, ht5⟩ : ∃ t5, t5 = strOfNums (encs [⟨1, a, b⟩, ⟨1, 0, 0⟩, ⟨1, a, b⟩, ⟨1, T, 0⟩]) := ⟨_, rfl⟩
        have HTD : Hid (∀ r ∈ ([⟨1, a, b⟩, ⟨1, 0, 0⟩, ⟨1, a, b⟩, ⟨1, T, 0⟩] : List Rp), r.told) := hide (fun r hr => by
          simp only [List.mem_cons, List.not_mem_nil, or_false] at hr
          rcases hr with h | h | h | h
          · rw [h]; exact ⟨by simp, by simp, haa, hbb⟩
          · rw [h]; exact ⟨by simp, by simp, by simp, by simp⟩
          · rw [h]; exact ⟨by simp, by simp, haa, hbb⟩
          · rw [h]; exact ⟨by simp, by simp, ⟨hT, hT64⟩, by simp⟩)
        have HS5 := hide hs5
        have HT5 := hide ht5
        clear hs5 ht5 hlok hto ha hb' haa hbb
        go_wp2_with fail
        refine (hv_bytes w R hb 0 D _ B G [] qAll HV3.out (fun q hq => (qAll_ok q hq).1) (by simp [qAll]) s5 HS5.out).mono ?_
        rintro e w3 ⟨rfl, V3⟩
        have HV3 := hide V3
        clear V3
        go_wp2_with fail
        refine (hv_feed w w3 hb 0 D _ _ B G [] qAll _ 0 HV3.out qAll_ok (by simp [qAll]) (by omega) (HFA.out A) s5 t5 HS5.out HT5.out).mono ?_
        rintro e w4 ⟨rfl, G4, V4⟩
        rw [HFT.out] at V4
        have HV4 := hide V4
        clear V4 HV3
        go_wp2_with fail
        refine (hst_lose hb 0 T _ B G4 kept part w4 HV4.out.hst p0 p1).mono ?_
        rintro e w5 ⟨rfl, hgone⟩
        have HG5 := hide hgone
        clear hgone
        go_wp2_with fail
        refine (hst_open hb 0 T _ B G4 w4 w5 HG5.out HV4.out.bs).mono ?_
        rintro e w6 ⟨L6, G6, rfl, h61, h62, h63, h64⟩
        have e6 := Rec.same h62.1 h61.lok h62.2
        have V6 := HV4.out.fed h61 h63 h64
        rw [e6] at V6
        have HV6 := hide V6
        clear V6 h61 h62 h63 h64 e6 HG5 HV4
        go_wp2_with fail
        refine (hv_feed w w6 hb 0 T _ _ B G6 [] qAll _ 0 HV6.out qAll_ok (by simp [qAll]) (by omega) (HFA.out 0) s5 t5 HS5.out HT5.out).mono ?_
        rintro e w7 ⟨rfl, G7, V7⟩
        rw [HFT.out] at V7
        have HV7 := hide V7
        clear V7 HV6
        go_wp2_with fail
        refine (hv_replies w w7 hb 0 T _ B G7 [] _ HV7.out HTD.out (by simp) hlt0 HGL.out t5 HT5.out).mono ?_
        rintro e w8 ⟨v8, rfl, o8, b8, V8⟩
        obtain ⟨g1, c1, rfl, _, hg1⟩ := o8.form (by simp)
        have j0 := o8.cellAt 0 (by simp)
        have j1 := o8.cellAt 1 (by simp)
        have j2 := o8.cellAt 2 (by simp)
        have j3 := o8.cellAt 3 (by simp)
        have j6 := o8.cellAt 6 (by simp)
        have j7 := o8.cellAt 7 (by simp)
        have j8 := o8.cellAt 8 (by simp)
        simp [rpcs, rpc] at j0 j1 j2 j3 j6 j7 j8
        have HBE := hide V8.be
        clear V8 o8 b8 HV7
        go_wp2_with (go_quiet (fail))
        go_ret
        exact ⟨rfl, below_drewN HBE.out _⟩
end Go.Proofs.YtlcnkcgmjnfbiaaGreatDoor
