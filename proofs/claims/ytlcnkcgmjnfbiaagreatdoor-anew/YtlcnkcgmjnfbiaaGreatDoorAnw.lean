import Derived.Test.YtlcnkcgmjnfbiaaGreatDoorZd49
set_option linter.unusedSectionVars false
namespace Go.Proofs.YtlcnkcgmjnfbiaaGreatDoor
open Go.RowKit Go.Maps
variable [dK] [iK]

theorem callFuncPickK (vs : Array Value) (w : World) : Sem.run Tryz.prog (callFunc 23 vs) w = .ok (.enter 23 vs) w := by simp [go_sem]
theorem callFuncBytesK (vs : Array Value) (w : World) : Sem.run Tryz.prog (callFunc 22 vs) w = .ok (.enter 22 vs) w := by simp [go_sem]
theorem callFuncFeedK (vs : Array Value) (w : World) : Sem.run Tryz.prog (callFunc 21 vs) w = .ok (.enter 21 vs) w := by simp [go_sem]
theorem qDel_ok : qDel.ok ∧ qDel.byt := ⟨⟨⟨by simp [qDel, Rq.key], by simp [qDel, Rq.key], by simp [qDel, Rq.key], by simp [qDel, Rq.key], by simp [qDel, Rq.key], by simp [qDel, Rq.key], by simp [qDel, Rq.key], by simp [qDel, Rq.key]⟩, by simp [qDel], by simp [qDel], by simp [qDel]⟩, ⟨by simp [qDel], by simp [qDel]⟩⟩
/-- What stands behind a failure, or behind none. -/
theorem fail_one {blk D D' T A : Int} {z : Qt} {L' : Ld} {bit : Bool} (hlok : L'.ok) (hT : 0 ≤ T) (h : if bit then Rec blk ⟨T, A, [(kK, z)]⟩ L' ∧ D ≤ L'.time ∧ D' = L'.time else L' = ⟨T, A, [(kK, z)]⟩ ∧ D' = D) : ∃ T' A' z', L' = ⟨T', A', [(kK, z')]⟩ ∧ 0 ≤ T' ∧ if bit then Res blk z z' else z' = z := by
  cases bit
  · obtain ⟨h1, _⟩ := h
    exact ⟨T, A, z, h1, hT, rfl⟩
  · obtain ⟨h1, _⟩ := h
    obtain ⟨T', z', e, h2, _, h3⟩ := h1.one hlok
    exact ⟨T', 0, z', e, h2, h3⟩
theorem fail_none {blk D D' T A : Int} {L' : Ld} {bit : Bool} (hlok : L'.ok) (hT : 0 ≤ T) (h : if bit then Rec blk ⟨T, A, []⟩ L' ∧ D ≤ L'.time ∧ D' = L'.time else L' = ⟨T, A, []⟩ ∧ D' = D) : ∃ T' A', L' = ⟨T', A', []⟩ ∧ 0 ≤ T' := by
  cases bit
  · exact ⟨T, A, h.1, hT⟩
  · obtain ⟨T', e, h2, _⟩ := h.1.none hlok
    exact ⟨T', 0, e, h2⟩
theorem told1 (r : Rp) (h : r.told) : ∀ r' ∈ [r], r'.told := fun r' hr => by rw [List.mem_singleton.1 hr]; exact h
/-- How a key stands that was defined anew, by the ledger's own word. -/
theorem anew_says {T : Int} {z : Qt} {kd x y : Int} {bit : Bool} (h : if bit then Res 7 ⟨kd, x, y, 0, 0⟩ z else z = ⟨kd, x, y, 0, 0⟩) : 0 ≤ (turnM z T).lv ∧ (turnM z T).lv ≤ if bit then 7 else 0 := by
  cases bit
  · have h' : z = ⟨kd, x, y, 0, 0⟩ := h
    rw [h']
    unfold turnM
    split
    · exact ⟨Int.le_refl _, Int.le_refl _⟩
    · split
      · exact ⟨Int.le_refl _, Int.le_refl _⟩
      · exact ⟨Int.le_refl _, Int.le_refl _⟩
  · exact new_says h (by omega)

set_option maxRecDepth 100000 in
set_option maxHeartbeats 8000000 in
theorem anew5 (kind x y n lose kept : Int) (w : World) (k0 : -9223372036854775808 ≤ kind) (k1 : kind ≤ 9223372036854775807) (x0 : -9223372036854775808 ≤ x) (x1 : x ≤ 9223372036854775807) (y0 : -9223372036854775808 ≤ y) (y1 : y ≤ 9223372036854775807) (n0 : -9223372036854775808 ≤ n) (n1 : n ≤ 9223372036854775807) (l0 : -9223372036854775808 ≤ lose) (l1 : lose ≤ 9223372036854775807)
    (hgl : w.cell? ⟨0, 0, none⟩ = some (.iface 236 (.agg #[.pointer (some ⟨5, 93, none⟩)]))) :
    Calls Tryz.prog 5 #[.int .i64 kind, .int .i64 x, .int .i64 y, .int .i64 n, .int .i64 lose, .int .i64 kept] w fun e w' => e = .returned (.bool true) ∧ Below w.heap.size w w' := by
  have hlt0 : 0 < w.heap.size := by
    rcases Nat.eq_zero_or_pos w.heap.size with h0 | h
    · simp [World.cell?, h0] at hgl
    · exact h
  obtain ⟨p, hp⟩ : ∃ p, p = polM kind x y := ⟨_, rfl⟩
  have H12 := hide (fun w => policy12 kind x y w k0 k1 x0 x1 y0 y1 p hp)
  obtain ⟨q1, q2, q3, _⟩ := polr_ok kind x y p hp
  obtain ⟨kd, X, Y⟩ := p
  dsimp only at *
  have hnk := pickM_ok n 5 (by omega)
  have HPN := hide (fun w => pick10 n 5 w (by omega) (by omega) n0 n1)
  have hlk := pickM_ok lose 8 (by omega)
  have HPL := hide (fun w => pick10 lose 8 w (by omega) (by omega) l0 l1)
  have HB2 : Hid (bitM lose 2 = ((pickM lose 8).toNat >>> 2 % 2 == 1)) := hide rfl
  obtain ⟨nn, hnn⟩ : ∃ nn, nn = pickM n 5 := ⟨_, rfl⟩
  obtain ⟨lk, hlke⟩ : ∃ lk, lk = pickM lose 8 := ⟨_, rfl⟩
  rw [← hnn] at hnk HPN
  rw [← hlke] at hlk HPL HB2
  have u1 : IntKind.u64.wrap nn = nn := by rw [IntKind.wrap_u64]; omega
  have HGL := hide hgl
  have HSO := hide q1
  obtain ⟨z0, hz0⟩ : ∃ z0 : Qt, z0 = ⟨kd, X, Y, 0, 0⟩ := ⟨_, rfl⟩
  clear hgl hp hnn hlke q1
  go_enter Tryz.func5, Tryz.ntmps5
  go_wp2_with fail
  refine (H12.out _).mono ?_
  rintro e w1 ⟨rfl, hb1⟩
  go_wp2_with fail
  obtain ⟨V, hV⟩ : ∃ V, V = w1.alloc (.cells #[.int .u8 kd, .int .u64 X, .int .u64 Y] 39) := ⟨_, rfl⟩
  have hpx : V.heap[w1.heap.size]? = some (.cells #[.int .u8 kd, .int .u64 X, .int .u64 Y] 39) := hV ▸ heapNew _ _
  have hBV : Below w.heap.size w V := hV ▸ hb1.alloc hb1.size _
  have hsV : V.heap.size = w1.heap.size + 1 := by rw [hV]; simp
  obtain ⟨pb, hpb⟩ : ∃ pb, pb = w1.heap.size := ⟨_, rfl⟩
  rw [← hV, ← hpb]
  rw [← hpb] at hpx hsV
  clear hV hb1 hpb H12
  refine (opened8 kd X Y 7 V HSO.out (by omega) (by omega) (by omega) ((hBV.cell (p := ⟨0, 0, none⟩) hlt0).trans HGL.out)).mono ?_
  rintro e w2 ⟨hb, db, nb, sb, mb, F, cv, cb, rfl, hA2, hB2⟩
  have hlo := hA2.lo
  have V2 : Hv w w2 hb 7 0 ⟨0, 0, [(kK, z0)]⟩ V.heap.size (HG hb db F cv 3 cb) [(pb, .cells #[.int .u8 kd, .int .u64 X, .int .u64 Y] 39)] := ⟨⟨db, nb, sb, mb, F, cv, 3, cb, Nat.le_refl _, hz0 ▸ hA2, rfl⟩, hB2.size, hBV.size, hBV.trans (hB2.mono hBV.size), fun p hp => by
    rw [List.mem_singleton.1 hp]
    exact ⟨(hB2.block pb (by omega)).trans hpx, fun h => by have := hlo _ h; omega⟩⟩
  have HV2 := hide V2
  obtain ⟨B, hB⟩ : ∃ B, B = V.heap.size := ⟨_, rfl⟩
  rw [← hB] at HV2
  obtain ⟨G2, hG2⟩ : ∃ G2, G2 = HG hb db F cv 3 cb := ⟨_, rfl⟩
  rw [← hG2] at HV2
  clear V2 hA2 hB2 hlo hpx hBV hsV hB hG2
  go_wp2_with fail
  obtain ⟨K, hK⟩ : ∃ K, K = w2.alloc (.cells #[.int .u8 107, .int .u8 0, .int .u8 0, .int .u8 0, .int .u8 0, .int .u8 0, .int .u8 0, .int .u8 0] 37) := ⟨_, rfl⟩
  obtain ⟨kb, hkb⟩ : ∃ kb, kb = w2.heap.size := ⟨_, rfl⟩
  have VK : Hv w K hb 7 0 ⟨0, 0, [(kK, z0)]⟩ B G2 [(kb, .cells #[.int .u8 107, .int .u8 0, .int .u8 0, .int .u8 0, .int .u8 0, .int .u8 0, .int .u8 0, .int .u8 0] 37), (pb, .cells #[.int .u8 kd, .int .u64 X, .int .u64 Y] 39)] := by rw [hK, hkb]; exact HV2.out.more _
  rw [← hK, ← hkb]
  obtain ⟨KS, hKS⟩ : ∃ KS : List (Nat × Obj), KS = [(kb, .cells #[.int .u8 107, .int .u8 0, .int .u8 0, .int .u8 0, .int .u8 0, .int .u8 0, .int .u8 0, .int .u8 0] 37), (pb, .cells #[.int .u8 kd, .int .u64 X, .int .u64 Y] 39)] := ⟨_, rfl⟩
  rw [← hKS] at VK
  have HKK : Hid (∀ (W : World) (D : Int) (L : Ld) (G : Nat → Prop), Hv w W hb 7 D L B G KS → W.heap[kb]? = some (.cells #[.int .u8 107, .int .u8 0, .int .u8 0, .int .u8 0, .int .u8 0, .int .u8 0, .int .u8 0, .int .u8 0] 37)) := hide (fun W D L G h => (h.ks _ (by rw [hKS]; exact List.mem_cons_self)).1)
  have HKP : Hid (∀ (W : World) (D : Int) (L : Ld) (G : Nat → Prop), Hv w W hb 7 D L B G KS → W.heap[pb]? = some (.cells #[.int .u8 kd, .int .u64 X, .int .u64 Y] 39)) := hide (fun W D L G h => (h.ks (pb, _) (by rw [hKS]; exact List.mem_cons_of_mem _ (List.mem_singleton.2 rfl))).1)
  have c2 := cellB (HKK.out _ _ _ _ VK)
  have HVK := hide VK
  obtain ⟨z1, r1, hr⟩ : ∃ z1 r1, admM z0 50 nn = (z1, r1) := ⟨_, _, rfl⟩
  obtain ⟨A1, hf1⟩ : ∃ A1, feedM ⟨0, 0, [(kK, z0)]⟩ ⟨[], false⟩ 50 (encQs [qAdm nn]) = (⟨50, A1, [(kK, z1)]⟩, ⟨[], false⟩, [r1]) := ⟨_, by rw [ask_reckon 0 0 50 nn z0 ⟨by omega, by omega⟩, if_pos (show (0 : Int) < 50 by omega), hr]⟩
  obtain ⟨s1, hs1⟩ : ∃ s1, s1 = strOfNums (encQs [qAdm nn]) := ⟨_, rfl⟩
  obtain ⟨t1, ht1⟩ : ∃ t1, t1 = strOfNums (encs [r1]) := ⟨_, rfl⟩
  have hqa : ∀ q ∈ [qAdm nn], q.ok ∧ q.byt := fun q hq => by rw [List.mem_singleton.1 hq]; exact qAdm_ok' nn ⟨by omega, by omega⟩
  have H9 : Hid (Calls Tryz.prog 22 #[.slice (some ⟨K.heap.size, 0, none⟩) 1 1] (K.drew.alloc (.cells (([qAdm nn] : List Rq).flatMap rqcl).toArray 41)) fun e w' => e = .returned (.string s1) ∧ Hv w w' hb 7 0 ⟨0, 0, [(kK, z0)]⟩ B G2 KS) := hide (hv_bytes w K.drew hb 7 0 _ B G2 KS [qAdm nn] HVK.out.drew (fun q hq => (hqa q hq).1) (by simp) s1 hs1)
  have HF := hide (fun (W : World) (h : Hv w W hb 7 0 ⟨0, 0, [(kK, z0)]⟩ B G2 KS) => hv_feed w W hb 7 0 _ _ B G2 KS [qAdm nn] [r1] 50 h hqa (by simp) (by omega) hf1 s1 t1 hs1 ht1)
  clear VK hK hkb hKS hr hf1 hs1 ht1 hqa HV2
  go_cut [] (fun wx => ∃ D1 G1, Hv w wx hb 7 D1 ⟨50, A1, [(kK, z1)]⟩ B G1 KS)
  case first =>
    go_region_law (first | (refine step_fn (by rfl) 23 callFuncPickK _ _ (by rfl) #[.int .i64 n, .int .i64 5] (by simp only [List.map_toArray, List.map_cons, List.map_nil]; rfl) (HPN.out _) ?_; rintro e w3 ⟨rfl, rfl⟩; refine ⟨_, rfl, ?_⟩) | (refine step_fn (by rfl) 22 callFuncBytesK _ _ (by rfl) #[.slice (some ⟨K.heap.size, 0, none⟩) 1 1] (by simp only [List.map_toArray, List.map_cons, List.map_nil]; rfl) H9.out ?_; rintro e w4 ⟨rfl, hv4⟩; refine ⟨_, rfl, ?_⟩) | (refine step_fn (by rfl) 21 callFuncFeedK _ _ (by rfl) #[.pointer (some ⟨hb, 0, none⟩), .int .i64 0, .int .u64 50, .string s1, .int .i64 (-1), .int .i64 (-1), .int .i64 0, .int .i64 0] (by simp only [List.map_toArray, List.map_cons, List.map_nil]; rfl) (HF.out _ hv4) ?_; rintro e w5 ⟨rfl, hv5⟩; refine ⟨_, rfl, ?_⟩))
    all_goals (go_wp2_with fail; go_meet)
    all_goals exact ⟨_, hv5⟩
  case rest =>
    obtain ⟨D1, G1, V1⟩ := hcut
    have HV1 := hide V1
    clear c2 V1 H9 HF HVK
    go_wp2_with fail
    refine (fail24 w _ hb 7 D1 _ B G1 KS lose kept 0 0 (Or.inl ⟨rfl, rfl⟩) HV1.out l0 l1).mono ?_
    rintro e w4 ⟨rfl, D4, L4, G4, V4, hlok4, hif4⟩
    obtain ⟨T4, A4, z4, rfl, hT4, _⟩ := fail_one hlok4 (by omega) hif4
    have c4 := cellB (HKK.out _ _ _ _ V4)
    have HV4 := hide V4
    clear V4 hlok4 hif4 HV1
    obtain ⟨s2, hs2⟩ : ∃ s2, s2 = strOfNums (encQs [qDel]) := ⟨_, rfl⟩
    obtain ⟨t2, ht2⟩ : ∃ t2, t2 = strOfNums (encs [⟨1, 0, 0⟩]) := ⟨_, rfl⟩
    have HS2 := hide hs2
    have HT2 := hide ht2
    clear hs2 ht2
    go_wp2_with fail
    refine (hv_bytes w w4 hb 7 D4 _ B G4 KS [qDel] HV4.out (fun q hq => by rw [List.mem_singleton.1 hq]; exact qDel_ok.1) (by simp) s2 HS2.out).mono ?_
    rintro e w5 ⟨rfl, V5⟩
    have HV5 := hide V5
    clear V5 c4 HV4
    go_wp2_with fail
    refine (hv_feed w w5 hb 7 D4 _ _ B G4 KS [qDel] [⟨1, 0, 0⟩] 51 HV5.out (fun q hq => by rw [List.mem_singleton.1 hq]; exact qDel_ok) (by simp) (by omega) (del_reckon T4 A4 51 z4) s2 t2 HS2.out HT2.out).mono ?_
    rintro e w6 ⟨rfl, G6, V6⟩
    obtain ⟨T6, hT6⟩ : ∃ T6, T6 = if T4 < 51 then 51 else T4 := ⟨_, rfl⟩
    have hT6' : 0 ≤ T6 := by rw [hT6]; split <;> omega
    rw [← hT6] at V6
    obtain ⟨D6, hD6⟩ : ∃ D6, D6 = feedD D4 ⟨T4, A4, [(kK, z4)]⟩ ⟨[], false⟩ 51 (encQs [qDel]) := ⟨_, rfl⟩
    rw [← hD6] at V6
    have HV6 := hide V6
    clear V6 HV5 hT6 hD6
    go_wp2_with fail
    refine (fail24 w _ hb 7 D6 _ B G6 KS lose kept 1 1 (Or.inr (Or.inl ⟨rfl, rfl⟩)) HV6.out l0 l1).mono ?_
    rintro e w7 ⟨rfl, D7, L7, G7, V7, hlok7, hif7⟩
    obtain ⟨T7, A7, rfl, hT7⟩ := fail_none hlok7 hT6' hif7
    have c7 := cellB (HKK.out _ _ _ _ V7)
    have d7 := cellB (HKP.out _ _ _ _ V7)
    have HV7 := hide V7
    clear V7 hlok7 hif7 HV6
    obtain ⟨s3, hs3⟩ : ∃ s3, s3 = strOfNums (encQs [qQk, qDef kd X Y]) := ⟨_, rfl⟩
    obtain ⟨t3, ht3⟩ : ∃ t3, t3 = strOfNums (encs [⟨4, 0, 0⟩, ⟨1, 0, 0⟩]) := ⟨_, rfl⟩
    have HS3 := hide hs3
    have HT3 := hide ht3
    clear hs3 ht3
    have HQ3 : Hid (∀ q ∈ [qQk, qDef kd X Y], q.ok ∧ q.byt) := hide (fun q hq => by
      rcases List.mem_cons.1 hq with h | h
      · rw [h]; exact qQk_ok'
      · rw [List.mem_singleton.1 h]; exact qDef_ok' kd X Y HSO.out (by omega) (by omega))
    go_wp2_with fail
    refine (hv_bytes w w7 hb 7 D7 _ B G7 KS [qQk, qDef kd X Y] HV7.out (fun q hq => (HQ3.out q hq).1) (by simp) s3 HS3.out).mono ?_
    rintro e w8 ⟨rfl, V8⟩
    have HV8 := hide V8
    clear V8 c7 d7 HV7
    go_wp2_with fail
    refine (hv_feed w w8 hb 7 D7 _ _ B G7 KS [qQk, qDef kd X Y] [⟨4, 0, 0⟩, ⟨1, 0, 0⟩] 52 HV8.out HQ3.out (by simp) (by omega) (new_reckon T7 A7 52 kd X Y HSO.out (by omega) (by omega)) s3 t3 HS3.out HT3.out).mono ?_
    rintro e w9 ⟨rfl, G9, V9⟩
    obtain ⟨T9, hT9⟩ : ∃ T9, T9 = if T7 < 52 then 52 else T7 := ⟨_, rfl⟩
    have hT9' : 0 ≤ T9 := by rw [hT9]; split <;> omega
    rw [← hT9] at V9
    obtain ⟨D9, hD9⟩ : ∃ D9, D9 = feedD D7 ⟨T7, A7, []⟩ ⟨[], false⟩ 52 (encQs [qQk, qDef kd X Y]) := ⟨_, rfl⟩
    rw [← hD9] at V9
    have HV9 := hide V9
    clear V9 HV8 hT9 hD9
    go_wp2_with fail
    refine (fail24 w _ hb 7 D9 _ B G9 KS lose kept 2 2 (Or.inr (Or.inr ⟨rfl, rfl⟩)) HV9.out l0 l1).mono ?_
    rintro e w10 ⟨rfl, D10, L10, G10, V10, hlok10, hif10⟩
    obtain ⟨T10, A10, z10, rfl, hT10, hz10⟩ := fail_one hlok10 hT9' hif10
    have hsay := anew_says (T := T10) hz10
    have hto := turnM_ok z10 T10 (hlok10.qt (kK, z10) (by simp)) hT10 hlok10.time.2
    obtain ⟨a, ha⟩ : ∃ a, a = (turnM z10 T10).lv := ⟨_, rfl⟩
    obtain ⟨b, hb'⟩ : ∃ b, b = (turnM z10 T10).wn := ⟨_, rfl⟩
    have hfs := says_reckon T10 A10 z10 hT10
    have hbb := hto.wn
    rw [← ha, ← hb'] at hfs
    rw [← ha] at hsay
    rw [← hb'] at hbb
    rw [HB2.out] at hsay
    have HFS := hide hfs
    have c10 := cellB (HKK.out _ _ _ _ V10)
    have HV10 := hide V10
    clear V10 hlok10 hif10 HV9 hto ha hb' hfs hz10
    obtain ⟨s4, hs4⟩ : ∃ s4, s4 = strOfNums (encQs [qQk]) := ⟨_, rfl⟩
    obtain ⟨t4, ht4⟩ : ∃ t4, t4 = strOfNums (encs [⟨1, a, b⟩]) := ⟨_, rfl⟩
    have HS4 := hide hs4
    have HT4 := hide ht4
    have HSAY := hide hsay
    clear hs4 ht4 hsay
    go_wp2_with fail
    refine (hv_bytes w w10 hb 7 D10 _ B G10 KS [qQk] HV10.out (fun q hq => by rw [List.mem_singleton.1 hq]; exact qQk_ok'.1) (by simp) s4 HS4.out).mono ?_
    rintro e w11 ⟨rfl, V11⟩
    have HV11 := hide V11
    clear V11 c10 HV10
    go_wp2_with fail
    refine (hv_feed w w11 hb 7 D10 _ _ B G10 KS [qQk] [⟨1, a, b⟩] 0 HV11.out (fun q hq => by rw [List.mem_singleton.1 hq]; exact qQk_ok') (by simp) (by omega) HFS.out s4 t4 HS4.out HT4.out).mono ?_
    rintro e w12 ⟨rfl, G12, V12⟩
    obtain ⟨D12, hD12⟩ : ∃ D12, D12 = feedD D10 ⟨T10, A10, [(kK, z10)]⟩ ⟨[], false⟩ 0 (encQs [qQk]) := ⟨_, rfl⟩
    rw [← hD12] at V12
    have HV12 := hide V12
    clear V12 HV11 hD12
    go_wp2_with fail
    refine (hv_replies w w12 hb 7 D12 _ B G12 KS [⟨1, 0, 0⟩] HV12.out (told1 _ ⟨by simp, by simp, by simp, by simp⟩) (by simp) hlt0 HGL.out t2 HT2.out).mono ?_
    rintro e w13 ⟨v13, rfl, o13, b13, V13⟩
    obtain ⟨g1, c1, rfl, _, hg1⟩ := o13.form (by simp)
    have j1 := o13.cellAt 0 (by simp)
    simp [rpcs, rpc] at j1
    have HV13 := hide V13
    have HJ1 := hide j1
    clear V13 o13 b13 j1 HV12
    go_wp2_with fail
    refine (hv_replies w w13 hb 7 D12 _ B G12 KS [⟨4, 0, 0⟩, ⟨1, 0, 0⟩] HV13.out (fun r hr => by
      rcases List.mem_cons.1 hr with h | h
      · rw [h]; exact ⟨by simp, by simp, by simp, by simp⟩
      · rw [List.mem_singleton.1 h]; exact ⟨by simp, by simp, by simp, by simp⟩) (by simp) hlt0 HGL.out t3 HT3.out).mono ?_
    rintro e w14 ⟨v14, rfl, o14, b14, V14⟩
    obtain ⟨g2, c2, rfl, _, hg2⟩ := o14.form (by simp)
    have j2 := o14.cellAt 0 (by simp)
    have j3 := o14.cellAt 3 (by simp)
    simp [rpcs, rpc] at j2 j3
    have HV14 := hide V14
    have HJ14 : Hid (w14.cell? ⟨g1, 0, none⟩ = some (.int .u8 1)) := hide ((b14.cell (p := ⟨g1, 0, none⟩) hg1).trans HJ1.out)
    have hg14 : g1 < w14.heap.size := Nat.lt_of_lt_of_le hg1 b14.size
    have HJ2 := hide j2
    have HJ3 := hide j3
    clear V14 o14 b14 j2 j3 HV13 HJ1 hg1
    go_wp2_with fail
    refine (hv_replies w w14 hb 7 D12 _ B G12 KS [⟨1, a, b⟩] HV14.out (told1 _ ⟨by simp, by simp, ⟨HSAY.out.1, by have := HSAY.out.2; dsimp only; split at this <;> omega⟩, hbb⟩) (by simp) hlt0 HGL.out t4 HT4.out).mono ?_
    rintro e w15 ⟨v15, rfl, o15, b15, V15⟩
    obtain ⟨g3, c3, rfl, _, hg3⟩ := o15.form (by simp)
    have j4 := o15.cellAt 0 (by simp)
    have j5 := o15.cellAt 1 (by simp)
    simp [rpcs, rpc] at j4 j5
    have j1 := (b15.cell (p := ⟨g1, 0, none⟩) hg14).trans HJ14.out
    have j2 := (b15.cell (p := ⟨g2, 0, none⟩) hg2).trans HJ2.out
    have j3 := (b15.cell (p := ⟨g2, 3, none⟩) hg2).trans HJ3.out
    have HBE := hide V15.be
    clear V15 o15 b15 HV14
    have hsay := HSAY.out
    go_wp2_with fail
    refine (HPL.out _).mono ?_
    rintro e w16 ⟨rfl, he1⟩
    rw [he1]
    clear he1
    have hc : lk = 0 ∨ lk = 1 ∨ lk = 2 ∨ lk = 3 ∨ lk = 4 ∨ lk = 5 ∨ lk = 6 ∨ lk = 7 := by omega
    clear hlk HB2 HSAY
    rcases hc with rfl | rfl | rfl | rfl | rfl | rfl | rfl | rfl
    all_goals (
      simp at hsay
      have ha0 := hsay.1
      have ha1 := hsay.2
      clear hsay
      go_wp2_with fail
      go_ret
      exact ⟨rfl, HBE.out⟩)
end Go.Proofs.YtlcnkcgmjnfbiaaGreatDoor
