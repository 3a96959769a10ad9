import Derived.Test.YtnlgndpcddngoaaGreatDoorZc48
set_option linter.unusedSectionVars false
namespace Go.Proofs.YtnlgndpcddngoaaGreatDoor
open Go.RowKit Go.Maps
variable [dK] [iK]

theorem callFunc10p (vs : Array Value) (w : World) : Sem.run Tryz.prog (callFunc 13 vs) w = .ok (.enter 13 vs) w := by simp [go_sem]
theorem callFunc8p (vs : Array Value) (w : World) : Sem.run Tryz.prog (callFunc 11 vs) w = .ok (.enter 11 vs) w := by simp [go_sem]
theorem callFuncLose (vs : Array Value) (w : World) : Sem.run Tryz.prog (callFunc 25 vs) w = .ok (.enter 25 vs) w := by simp [go_sem]
theorem Tryz.infoLet : (Tryz.prog.info? 49).map (fun i => (i.zero, i.size, i.bytes)) = some (some (.agg #[.int .u64 0, .int .u64 0]), 2, 16) := by kernel_rfl

/-- A demand. -/
structure Dm where
  now : Int
  n : Int
  lose : Int
  kept : Int
  part : Int
structure Dm.ok (d : Dm) : Prop where
  now : -9223372036854775808 ≤ d.now ∧ d.now ≤ 9223372036854775807
  n : -9223372036854775808 ≤ d.n ∧ d.n ≤ 9223372036854775807
  lose : -9223372036854775808 ≤ d.lose ∧ d.lose ≤ 9223372036854775807
  kept : -9223372036854775808 ≤ d.kept ∧ d.kept ≤ 9223372036854775807
  part : -9223372036854775808 ≤ d.part ∧ d.part ≤ 9223372036854775807
def dmc (d : Dm) : List Value := [.int .i64 d.now, .int .i64 d.n, .int .i64 d.lose, .int .i64 d.kept, .int .i64 d.part]
/-- What was let in lies within these. -/
def LtR (l : Lt) : Prop := ∀ p ∈ l, (0 ≤ p.1 ∧ p.1 ≤ 2000) ∧ 0 < p.2 ∧ p.2 ≤ 7
/-- What holds behind the demands. -/
def PldPost (w : World) (kd x y : Int) (n : Nat) (e : Ending) (w' : World) : Prop := ∃ v l T z, e = .returned (.tuple #[v, .bool true]) ∧ w'.ownsRow w.heap.size 49 2 v l.length (ltcs l) ∧ Bnd kd x y l T z ∧ LtR l ∧ l.length ≤ n ∧ Below w.heap.size w w'

set_option maxRecDepth 100000 in
set_option maxHeartbeats 8000000 in
theorem played17 (kd x y block : Int) (ao : Option Addr) (n cap : Nat) (ds : List Dm) (w : World) (hn : ds.length = n) (_hnc : n ≤ cap) (hn1 : n ≤ 300) (hok : ∀ d ∈ ds, d.ok) (hso : soundM kd x y) (hx : 0 ≤ x ∧ x ≤ 50) (hy : 0 ≤ y ∧ y ≤ 200) (b0 : -9223372036854775808 ≤ block) (b1 : block ≤ 9223372036854775807)
    (hgl : w.cell? ⟨0, 0, none⟩ = some (.iface 236 (.agg #[.pointer (some ⟨5, 97, none⟩)])))
    (hc : 0 < n → ∃ A o, ao = some ⟨A, o, none⟩ ∧ A < w.heap.size ∧ ∀ i (h : i < ds.length) j, j < 5 → w.cell? ⟨A, o + i * 5 + j, none⟩ = (dmc ds[i])[j]?) :
    Calls Tryz.prog 17 #[.agg #[.int .u8 kd, .int .u64 x, .int .u64 y], .slice ao n cap, .int .i64 block] w fun e w' => PldPost w kd x y n e w' := by
  have hlt0 : 0 < w.heap.size := by
    rcases Nat.eq_zero_or_pos w.heap.size with h0 | h
    · simp [World.cell?, h0] at hgl
    · exact h
  obtain ⟨i0, hi, hz0, hz1, hz2⟩ := info_parts Tryz.infoLet
  have hbk := pickM_ok block 300 (by omega)
  have HPB := hide (fun w => pick10 block 300 w (by omega) (by omega) b0 b1)
  obtain ⟨blk, hblk⟩ : ∃ blk, blk = pickM block 300 := ⟨_, rfl⟩
  rw [← hblk] at HPB hbk
  have u1 : IntKind.u64.wrap blk = blk := by rw [IntKind.wrap_u64]; omega
  have hB0 : Bnd kd x y [] 0 ⟨kd, x, y, 0, 0⟩ := Bnd.start ⟨hso, by dsimp only; omega, by dsimp only; omega, by simp, by simp⟩ hx.1 0 (by omega) (fun hk => by rcases hso with h | h <;> omega)
  have HBD := hide hB0
  have HGL := hide hgl
  have HC := hide hc
  have HN := hide hn
  have HOK := hide hok
  have hyp : kd = 2 → 0 < y := fun hk => by rcases hso with h | h <;> omega
  have HYP := hide hyp
  obtain ⟨V, hV⟩ : ∃ V, V = w.alloc (.cells #[.int .u8 kd, .int .u64 x, .int .u64 y] 30) := ⟨_, rfl⟩
  have hpx : V.heap[w.heap.size]? = some (.cells #[.int .u8 kd, .int .u64 x, .int .u64 y] 30) := hV ▸ heapNew _ _
  have hBV : Below w.heap.size w V := hV ▸ (Below.refl _ w).alloc (Nat.le_refl _) _
  have hsV : V.heap.size = w.heap.size + 1 := by rw [hV]; simp
  obtain ⟨pb, hpb⟩ : ∃ pb, pb = w.heap.size := ⟨_, rfl⟩
  obtain ⟨B, hBe⟩ : ∃ B, B = V.heap.size := ⟨_, rfl⟩
  have h8 := opened8 kd x y blk V.drew hso (by omega) (by omega) (by omega) ((hBV.cell (p := ⟨0, 0, none⟩) hlt0).trans hgl)
  have H8 := hide h8
  have HBV := hide hBV
  have HBE := hide hBe
  have HSV := hide hsV
  clear h8 hBV hBe hsV hgl hc hn hok hblk hB0 hso hyp
  go_enter Tryz.func17, Tryz.ntmps17
  go_wp2_with fail
  rw [← hV]
  rw [← hpb] at hpx ⊢
  clear hV
  have c1 := cellB hpx
  have HPX := hide hpx
  have HPBE := hide hpb
  clear hpx hpb
  go_cut [8] (fun o wx => ∃ hb G, o = .pointer (some ⟨hb, 0, none⟩) ∧ PlyAt wx hb blk 0 ⟨kd, x, y, 0, 0⟩ B G ∧ Below B V wx)
  case first =>
    go_region_law (first | (refine step_fn (by rfl) 13 callFunc10p _ _ (by rfl) #[.int .i64 block, .int .i64 300] (by simp only [List.map_toArray, List.map_cons, List.map_nil]; rfl) (HPB.out _) ?_; rintro e w1 ⟨rfl, rfl⟩; refine ⟨_, rfl, ?_⟩) | (refine step_fn (by rfl) 11 callFunc8p _ _ (by rfl) #[.agg #[.int .u8 kd, .int .u64 x, .int .u64 y], .int .u64 blk] (by simp only [List.map_toArray, List.map_cons, List.map_nil]; rfl) H8.out ?_; rintro e w2 ⟨hb, db, nb, sb, mb, F, cv, cb, rfl, hA2, hB2⟩; refine ⟨_, rfl, ?_⟩))
    all_goals (go_wp2_with fail; go_meet)
    all_goals exact ⟨hb, _, rfl, ⟨db, nb, sb, mb, 0, F, cv, 3, cb, Nat.le_refl _, HBE.out ▸ hA2, by decide, by decide, rfl⟩, HBE.out ▸ ⟨hB2.os, hB2.tape, hB2.output, hB2.size, hB2.block⟩⟩
  case rest =>
    obtain ⟨hb, G0, rfl, hA2, hB2⟩ := hcut
    have hwB : w.heap.size ≤ B := by rw [HBE.out]; exact HBV.out.size
    have P0 : Pl w wc hb blk B (.slice none 0 0) [] 0 ⟨kd, x, y, 0, 0⟩ G0 := ⟨World.ownsRow_nil _ _ _ _, hA2, by rw [HBE.out]; exact hB2.size, hwB, HBV.out.trans (hB2.mono hwB), fun g h => by simp [Value.ownBlock] at h⟩
    have HP0 := hide P0
    clear c1 hA2 hB2 P0 H8 HBV HSV HPX HPBE HPB
    go_wp2_with fail
    go_loopw [9, 10] (fun s9 s10 wr => ∃ i : Nat, i ≤ n ∧ s10 = .int .i64 i ∧ ∃ l T z G, Pl w wr hb blk B s9 l T z G ∧ Bnd kd x y l T z ∧ (0 ≤ T ∧ T ≤ 2000) ∧ LtR l ∧ l.length ≤ i) (fun _ s10 _ => n - (intOf s10).toNat)
    case atStart => exact ⟨0, Nat.zero_le _, rfl, [], 0, _, G0, HP0.out, HBD.out, ⟨by omega, by omega⟩, fun p hp => (by cases hp), by simp⟩
    case round =>
      obtain ⟨i, hin, rfl, l, T, z, G, P1, bd1, hT, hlr, hll⟩ := hrel
      obtain ⟨Y, rfl⟩ : ∃ Y, Y = wr := ⟨_, rfl⟩
      obtain ⟨la, lc, rfl⟩ := own_sliceE P1.own
      have HP1 := hide P1
      have HB1 := hide bd1
      have HLR := hide hlr
      have hz := bd1.ok
      have HZ := hide hz
      clear P1 bd1 hlr hz HP0
      by_cases hlt : i < n
      · have hltI : (i : Int) < (n : Int) := by omega
        have hi0 : (0 : Int) ≤ (i : Int) := by omega
        have hil : i < ds.length := by rw [HN.out]; exact hlt
        obtain ⟨A, o, rfl, hA, hcc⟩ := HC.out (by omega)
        obtain ⟨d, hd⟩ : ∃ d, d = ds[i] := ⟨_, rfl⟩
        have hdok : d.ok := hd ▸ HOK.out _ (List.getElem_mem hil)
        have HK : Hid (∀ W, Below w.heap.size w W → ∀ j, j < 5 → W.cell? ⟨A, o + i * 5 + j, none⟩ = (dmc d)[j]?) := hide (fun W hW j hj => (hW.cell (p := ⟨A, o + i * 5 + j, none⟩) hA).trans (hd ▸ hcc i hil j hj))
        have r8 := pickM_ok d.n 8 (by omega)
        have r2 := pickM_ok d.now 2000 (by omega)
        have HPN := hide (fun w => pick10 d.n 8 w (by omega) (by omega) hdok.n.1 hdok.n.2)
        have HPT := hide (fun w => pick10 d.now 2000 w (by omega) (by omega) hdok.now.1 hdok.now.2)
        have HPL := hide (fun w => pick10 d.lose 2 w (by omega) (by omega) hdok.lose.1 hdok.lose.2)
        obtain ⟨nn, hnn⟩ : ∃ nn, nn = pickM d.n 8 := ⟨_, rfl⟩
        obtain ⟨at_, hat⟩ : ∃ at_, at_ = pickM d.now 2000 := ⟨_, rfl⟩
        obtain ⟨ls, hls⟩ : ∃ ls, ls = pickM d.lose 2 := ⟨_, rfl⟩
        rw [← hnn] at r8 HPN
        rw [← hat] at r2 HPT
        rw [← hls] at HPL
        have v1 : IntKind.u64.wrap nn = nn := by rw [IntKind.wrap_u64]; omega
        have v2 : IntKind.u64.wrap at_ = at_ := by rw [IntKind.wrap_u64]; omega
        have HDK := hide hdok
        obtain ⟨T', hT'⟩ : ∃ T', T' = if T < at_ then at_ else T := ⟨_, rfl⟩
        have hT2 : 0 ≤ T' ∧ T' ≤ 2000 := by rw [hT']; split <;> omega
        have hTT : T ≤ T' := by rw [hT']; split <;> omega
        obtain ⟨z', r, hr⟩ : ∃ z' r, admM z T' nn = (z', r) := ⟨_, _, rfl⟩
        have o3 := (admM_ok z T' nn HZ.out hT2.1 (by omega) r8.1).2
        rw [hr] at o3
        have hask := (HB1.out.pass hTT HYP.out).ask (n := nn) ⟨hT2.1, by omega⟩ r8.1
        have hletm : letM z T' nn = if r.c = 2 ∧ 0 < nn then [(T', nn)] else [] := by unfold letM; rw [hr]
        rw [hletm, hr] at hask
        have HASK := hide hask
        have htd : ∀ r' ∈ [r, ⟨1, T', 0⟩], r'.told := fun r' h => by
          rcases List.mem_cons.1 h with h | h
          · rw [h]
            exact ⟨by rcases o3.2 with h | h <;> (have h : r.c = _ := h; omega), by rcases o3.2 with h | h <;> (have h : r.c = _ := h; omega), o3.1.a, o3.1.b⟩
          · rw [List.mem_singleton.1 h]
            exact ⟨by simp, by simp, by dsimp only; omega, by simp⟩
        have hrc : r.c = 2 ∨ r.c = 3 := o3.2
        obtain ⟨st, hst⟩ : ∃ st, st = strOfNums (encQs [qAdm nn, qClk]) := ⟨_, rfl⟩
        obtain ⟨st2, hst2⟩ : ∃ st2, st2 = strOfNums (encs [r, ⟨1, T', 0⟩]) := ⟨_, rfl⟩
        have HFD := hide (fun (W : World) (hP : PlyAt W hb blk T z B G) (hBW : B ≤ W.heap.size) => ply_feed hb blk T z B G nn at_ W hP hBW HZ.out ⟨hT.1, by omega⟩ ⟨r8.1, by omega⟩ ⟨r2.1, by omega⟩ T' z' r hT' hr st st2 hst hst2)
        have HRP := hide (fun (W : World) (hW : Below w.heap.size w W) => replies23 st2 [r, ⟨1, T', 0⟩] W (by rw [hst2]; exact numsOf_str _ (encs_bytes _ htd)) htd (by simp) ((hW.cell (p := ⟨0, 0, none⟩) hlt0).trans HGL.out))
        have HST := hide hst
        have HLS := hide hls
        have k1 := HK.out Y HP1.out.be 1 (by omega)
        simp only [dmc, List.getElem?_cons_succ, List.getElem?_cons_zero] at k1
        clear hask hletm htd o3 hr hT' hst hst2 hls hnn hat hd hdok hcc
        go_wp2_with fail
        refine (HPN.out _).mono ?_
        rintro e w1 ⟨rfl, he1⟩
        rw [he1]
        clear he1
        go_wp2_with fail
        obtain ⟨W, hW⟩ : ∃ W, W = Y.alloc (.cells (([qAdm nn, qClk] : List Rq).flatMap rqcl).toArray 65) := ⟨_, rfl⟩
        have hWA : W.heap[Y.heap.size]? = some (.cells (([qAdm nn, qClk] : List Rq).flatMap rqcl).toArray 65) := hW ▸ heapNew _ _
        have hWB : Below Y.heap.size Y W := hW ▸ (Below.refl _ Y).alloc (Nat.le_refl _) _
        have h9 := bytes9' Y.heap.size 2 [qAdm nn, qClk] W 65 (0, 0) (by simp) (by simp) (fun q hq => (qPair_ok nn ⟨r8.1, by omega⟩ q hq).1) hWA
        rw [hW, ← HST.out] at h9
        refine h9.mono ?_
        rw [← hW]
        rintro e w3 ⟨rfl, hb3⟩
        have P3 := (HP1.out.kept hWB).kept hb3
        have HP3 := hide P3
        have k0 := HK.out w3 P3.be 0 (by omega)
        simp only [dmc, List.getElem?_cons_zero, Nat.add_zero] at k0
        clear P3 hb3 h9 hW hWA hWB k1
        go_wp2_with fail
        refine (HPT.out _).mono ?_
        rintro e w1 ⟨rfl, he1⟩
        rw [he1]
        clear he1
        go_wp2_with fail
        refine (HFD.out w3 HP3.out.ply HP3.out.bs).mono ?_
        rintro e w4 ⟨G4, rfl, hp4, hk4, hg4⟩
        have P4 := HP3.out.fed hp4 hk4 hg4
        have HP4 := hide P4
        clear P4 hp4 hk4 hg4 k0 HP3 HFD
        go_wp2_with fail
        refine (HRP.out w4 HP4.out.be).mono ?_
        rintro e w5 ⟨lv, rfl, hown5, hb5⟩
        obtain ⟨g, gc, rfl, _, hg5⟩ := hown5.form (by simp)
        have j0 := hown5.cellAt 0 (by simp)
        have j3 := hown5.cellAt 3 (by simp)
        have j4 := hown5.cellAt 4 (by simp)
        simp [rpcs, rpc] at j0 j3 j4
        have P5 := HP4.out.kept hb5
        have HP5 := hide P5
        have k2 := HK.out w5 P5.be 2 (by omega)
        simp only [dmc, List.getElem?_cons_succ, List.getElem?_cons_zero] at k2
        clear P5 hown5 hb5 HP4 HRP hg5
        by_cases hadm : r.c = 2 ∧ 0 < nn
        · obtain ⟨hc2, hn0⟩ := hadm
          have hb' : Bnd kd x y (l ++ [(T', nn)]) T' z' := by have := HASK.out; rw [if_pos ⟨hc2, hn0⟩] at this; exact this
          have HB' := hide hb'
          rw [hc2] at j0
          obtain ⟨W6, hW6⟩ : ∃ W6, W6 = w5.alloc (.cells #[.int .u64 T', .int .u64 nn] 49) := ⟨_, rfl⟩
          have hW6b : Below w5.heap.size w5 W6 := hW6 ▸ (Below.refl _ w5).alloc (Nat.le_refl _) _
          have P6 := HP5.out.kept hW6b
          have HP6 := hide P6
          have HCL : Hid (∀ j u, (ltc (T', nn))[j]? = some u → W6.cell? ((⟨w5.heap.size, 0, none⟩ : Addr).add j) = some u) := hide (fun j u hj => by
            rw [Addr.add_lit, Nat.zero_add, hW6, cellB (heapNew _ _) j, ← hj]
            simp [ltc])
          clear P6 hb' hW6b HASK
          go_wp2_with (at_builtin; (rw [← hW6]; refine wpList_append_own_at _ rfl _ _ 45 rfl B 49 i0 (.agg #[.int .u64 0, .int .u64 0]) 2 16 Tryz.underlying45 hi hz0 hz1 hz2 rfl (by decide) (.slice la l.length lc) l.length (ltcs l) rfl HP6.out.own ⟨w5.heap.size, 0, none⟩ 1 1 (ltc (T', nn)) rfl rfl HCL.out (by simp [ltc, Value.oneCell']) (by unfold maxLen; omega) (by omega) HP6.out.bs ?_; intro v7 w7 hown7 hgr7 hnil7 hloc7; clear hW6; have P7 := HP6.out.app hown7 hgr7 hloc7; have k7 := HK.out w7 P7.be 2 (by omega); simp only [dmc, List.getElem?_cons_succ, List.getElem?_cons_zero] at k7; have HP7 := hide P7; clear P7 hown7 hgr7 hnil7 hloc7 HP6 HCL k2 j0 j3 j4))
          obtain ⟨l', hl'⟩ : ∃ l', l' = l ++ [(T', nn)] := ⟨_, rfl⟩
          have hlr' : LtR l' := fun p hp => by
            rw [hl'] at hp
            rcases List.mem_append.1 hp with h | h
            · exact HLR.out p h
            · rw [List.mem_singleton.1 h]; exact ⟨hT2, hn0, by dsimp only; omega⟩
          have hll' : l'.length ≤ i + 1 := by rw [hl', List.length_append]; simp; omega
          rw [← hl'] at HP7 HB'
          clear hl'
          refine (HPL.out _).mono ?_
          rintro e w1 ⟨rfl, he1⟩
          rw [he1]
          clear he1 k7
          by_cases hlo : ls = 1
          · have k3 := HK.out w7.drew ((HP7.out.be).drew) 3 (by omega)
            have k4 := HK.out w7.drew ((HP7.out.be).drew) 4 (by omega)
            simp only [dmc, List.getElem?_cons_succ, List.getElem?_cons_zero] at k3 k4
            have HP8 := hide (HP7.out.kept ((Below.refl _ w7).drew))
            have HLO := hide (ply_lose hb blk T' z' B _ d.kept d.part w7.drew HP8.out.ply HDK.out.part.1 HDK.out.part.2)
            go_upto_region 17 with fail
            go_cut [] from 25 to 130 (fun wx => LostAt w7.drew wx hb blk T' z' B G4)
            case first =>
              go_region_law (refine step_fn (by rfl) 25 callFuncLose _ _ (by rfl) #[.pointer (some ⟨hb, 0, none⟩), .int .i64 d.kept, .int .i64 d.part] (by simp only [List.map_toArray, List.map_cons, List.map_nil]; rfl) HLO.out ?_; rintro e wx ⟨rfl, hlost⟩; refine ⟨_, rfl, ?_⟩)
              all_goals (go_wp2_with fail; go_meet)
              all_goals exact hlost
            case rest =>
              have HL := hide hcut
              clear k3 k4 hcut HLO
              go_wp2_with fail
              refine (ply_open hb blk T' z' B _ kd x y _ w7.drew wc HL.out HP8.out.bs HB'.out hbk.1).mono ?_
              rintro e w9 ⟨T9, z9, G9, rfl, hp9, ht9, ht9', hb9, hk9, hg9⟩
              have HR9 := hide (And.intro (HP8.out.fed hp9 hk9 hg9) hb9)
              clear hp9 hk9 hg9 hb9
              go_wp2
              go_roundw
              case rel => exact ⟨i + 1, by omega, by go_num, _, T9, z9, G9, HR9.out.1, HR9.out.2, ⟨ht9, by omega⟩, hlr', hll'⟩
              case measure => simp [intOf]; omega
          · go_wp2
            go_roundw
            case rel => exact ⟨i + 1, by omega, by go_num, _, T', z', _, HP7.out, HB'.out, hT2, hlr', hll'⟩
            case measure => simp [intOf]; omega
        · have hb' : Bnd kd x y l T' z' := by have := HASK.out; rw [if_neg hadm, List.append_nil] at this; exact this
          have HB' := hide hb'
          have hlr' : LtR l := HLR.out
          have hll' : l.length ≤ i + 1 := by omega
          clear hb' HASK
          rcases hrc with hrc | hrc
          · have hn0 : ¬ 0 < nn := fun h => hadm ⟨hrc, h⟩
            rw [hrc] at j0
            go_wp2_with fail
            have HP7 := HP5
            have k7 := k2
            clear HP5 k2 j0 j3 j4
            refine (HPL.out _).mono ?_
            rintro e w1 ⟨rfl, he1⟩
            rw [he1]
            clear he1 k7
            by_cases hlo : ls = 1
            · have k3 := HK.out w5.drew ((HP7.out.be).drew) 3 (by omega)
              have k4 := HK.out w5.drew ((HP7.out.be).drew) 4 (by omega)
              simp only [dmc, List.getElem?_cons_succ, List.getElem?_cons_zero] at k3 k4
              have HP8 := hide (HP7.out.kept ((Below.refl _ w5).drew))
              have HLO := hide (ply_lose hb blk T' z' B _ d.kept d.part w5.drew HP8.out.ply HDK.out.part.1 HDK.out.part.2)
              go_upto_region 17 with fail
              go_cut [] from 25 to 130 (fun wx => LostAt w5.drew wx hb blk T' z' B G4)
              case first =>
                go_region_law (refine step_fn (by rfl) 25 callFuncLose _ _ (by rfl) #[.pointer (some ⟨hb, 0, none⟩), .int .i64 d.kept, .int .i64 d.part] (by simp only [List.map_toArray, List.map_cons, List.map_nil]; rfl) HLO.out ?_; rintro e wx ⟨rfl, hlost⟩; refine ⟨_, rfl, ?_⟩)
                all_goals (go_wp2_with fail; go_meet)
                all_goals exact hlost
              case rest =>
                have HL := hide hcut
                clear k3 k4 hcut HLO
                go_wp2_with fail
                refine (ply_open hb blk T' z' B _ kd x y _ w5.drew wc HL.out HP8.out.bs HB'.out hbk.1).mono ?_
                rintro e w9 ⟨T9, z9, G9, rfl, hp9, ht9, ht9', hb9, hk9, hg9⟩
                have HR9 := hide (And.intro (HP8.out.fed hp9 hk9 hg9) hb9)
                clear hp9 hk9 hg9 hb9
                go_wp2
                go_roundw
                case rel => exact ⟨i + 1, by omega, by go_num, _, T9, z9, G9, HR9.out.1, HR9.out.2, ⟨ht9, by omega⟩, hlr', hll'⟩
                case measure => simp [intOf]; omega
            · go_wp2
              go_roundw
              case rel => exact ⟨i + 1, by omega, by go_num, _, T', z', _, HP7.out, HB'.out, hT2, hlr', hll'⟩
              case measure => simp [intOf]; omega
          · rw [hrc] at j0
            go_wp2_with fail
            have HP7 := HP5
            have k7 := k2
            clear HP5 k2 j0 j3 j4
            refine (HPL.out _).mono ?_
            rintro e w1 ⟨rfl, he1⟩
            rw [he1]
            clear he1 k7
            by_cases hlo : ls = 1
            · have k3 := HK.out w5.drew ((HP7.out.be).drew) 3 (by omega)
              have k4 := HK.out w5.drew ((HP7.out.be).drew) 4 (by omega)
              simp only [dmc, List.getElem?_cons_succ, List.getElem?_cons_zero] at k3 k4
              have HP8 := hide (HP7.out.kept ((Below.refl _ w5).drew))
              have HLO := hide (ply_lose hb blk T' z' B _ d.kept d.part w5.drew HP8.out.ply HDK.out.part.1 HDK.out.part.2)
              go_upto_region 17 with fail
              go_cut [] from 25 to 130 (fun wx => LostAt w5.drew wx hb blk T' z' B G4)
              case first =>
                go_region_law (refine step_fn (by rfl) 25 callFuncLose _ _ (by rfl) #[.pointer (some ⟨hb, 0, none⟩), .int .i64 d.kept, .int .i64 d.part] (by simp only [List.map_toArray, List.map_cons, List.map_nil]; rfl) HLO.out ?_; rintro e wx ⟨rfl, hlost⟩; refine ⟨_, rfl, ?_⟩)
                all_goals (go_wp2_with fail; go_meet)
                all_goals exact hlost
              case rest =>
                have HL := hide hcut
                clear k3 k4 hcut HLO
                go_wp2_with fail
                refine (ply_open hb blk T' z' B _ kd x y _ w5.drew wc HL.out HP8.out.bs HB'.out hbk.1).mono ?_
                rintro e w9 ⟨T9, z9, G9, rfl, hp9, ht9, ht9', hb9, hk9, hg9⟩
                have HR9 := hide (And.intro (HP8.out.fed hp9 hk9 hg9) hb9)
                clear hp9 hk9 hg9 hb9
                go_wp2
                go_roundw
                case rel => exact ⟨i + 1, by omega, by go_num, _, T9, z9, G9, HR9.out.1, HR9.out.2, ⟨ht9, by omega⟩, hlr', hll'⟩
                case measure => simp [intOf]; omega
            · go_wp2
              go_roundw
              case rel => exact ⟨i + 1, by omega, by go_num, _, T', z', _, HP7.out, HB'.out, hT2, hlr', hll'⟩
              case measure => simp [intOf]; omega
      · have hltI : ¬ (i : Int) < (n : Int) := by omega
        go_wp2
        refine bodyPost_ret (v := .tuple #[.slice la l.length lc, .bool true]) (by simp [results, Tryz.results17, go_sem]) rfl ?_
        exact ⟨_, l, T, z, rfl, ⟨HP1.out.own.1, HP1.out.own.2.imp id (fun ⟨g, cap, cur, e1, e2, e3⟩ => ⟨g, cap, cur, e1, Nat.le_trans HP1.out.wB e2, e3⟩)⟩, HB1.out, HLR.out, by omega, HP1.out.be⟩
end Go.Proofs.YtnlgndpcddngoaaGreatDoor
