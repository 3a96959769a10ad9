import Derived.Test.YtnlgndpcddngoaaGreatDoorZc28
set_option linter.unusedSectionVars false
namespace Go.Proofs.YtnlgndpcddngoaaGreatDoor
open Go.RowKit Go.Maps
variable [dK] [iK]

set_option maxRecDepth 100000 in
set_option maxHeartbeats 4000000 in
/-- The last image of a disk with files. -/
theorem last118f (g db mb nb : Nat) (fs : Fs) (im : Bool → Option Ig) (l f : Int) (w : World) (hg : w.cell? ⟨g, 0, none⟩ = some (.iface 78 (.pointer (some ⟨db, 0, none⟩)))) (hT : TabOk w g 1) (hgd : g ≠ db) (hgn : g ≠ nb) (hgs : ∀ p ∈ fs, p.2.1 ≠ g)
    (hd : w.heap[db]? = some (.cells #[.map (some mb), .map (some nb), .slice none 0 0, .int .i64 l, .int .i64 f, .bool false] 88)) (hl : -9223372036854775808 < l ∧ l < 0) (hf : -9223372036854775808 < f ∧ f < 0) (hD : DirAt w nb fs) (hI : Files fs im) (hsome : ∃ b, im b ≠ none) (hrel : ∀ a b, im false = some a → im true = some b → b.turn = nextT a.turn ∨ a.turn = nextT b.turn) :
    Calls Tryz.prog 118 #[.pointer (some ⟨g, 0, none⟩)] w fun e w' => ∃ (i : Ig) (a : Option Addr) (c : Nat), Best im i ∧ e = .returned (.tuple #[.agg #[.int .u64 i.turn, .int .u64 i.time, .slice a i.ks.length c], .nilIface]) ∧ w'.ownsRow w.heap.size 175 13 (.slice a i.ks.length c) i.ks.length (rrow i.es i.ks) ∧ w'.heap[db]? = some (.cells #[.map (some mb), .map (some nb), .slice none 0 0, .int .i64 (l - 1), .int .i64 (f - 1), .bool false] 88) ∧ TabOk w' g 1 ∧ (∀ j, (j < 1 ∨ 260 ≤ j) → w'.cell? ⟨g, j, none⟩ = w.cell? ⟨g, j, none⟩ ∧ w'.frozen? ⟨g, j, none⟩ = w.frozen? ⟨g, j, none⟩) ∧ Keep (fun c => c = g ∨ c = db) w w' := by
  obtain ⟨i0, hi, hz0, hz1, hz2⟩ := info_parts Tryz.infoImg
  obtain ⟨V, hV⟩ : ∃ V, V = w.alloc (.cells #[.int .u64 0, .int .u64 0, .slice none 0 0] 169) := ⟨_, rfl⟩
  have hgl := lt_cell hg
  have hdl := ltB hd
  have hnd : nb ≠ db := hD.map.ne hd
  have h0 : V.heap[w.heap.size]? = some (.cells #[.int .u64 0, .int .u64 0, .slice none 0 0] 169) := hV ▸ heapNew _ _
  have hBV : Below w.heap.size w V := hV ▸ (Below.refl _ w).alloc (Nat.le_refl _) _
  have hgV : V.cell? ⟨g, 0, none⟩ = some (.iface 78 (.pointer (some ⟨db, 0, none⟩))) := (hBV.cell (p := ⟨g, 0, none⟩) hgl).trans hg
  have hdV : V.heap[db]? = _ := (hBV.block db hdl).trans hd
  have hDV : DirAt V nb fs := hD.kept (hBV.block nb hD.map.lt) (fun p hp => hBV.block _ (ltB (hD.str p hp)))
  have hmn := methodNames (.pointer (some ⟨db, 0, none⟩))
  have hms := methodSync (.pointer (some ⟨db, 0, none⟩))
  have hmr := methodRead (.pointer (some ⟨db, 0, none⟩))
  have HNM := hide (names255 db nb _ _ _ _ fs V hdV hDV)
  have sV : V.heap.size = w.heap.size + 1 := by rw [hV]; simp
  have HSV := hide sV
  have HBV := hide hBV
  have HDV := hide hdV
  have HDD := hide hDV
  have HT := hide hT
  have HI := hide hI
  have HG := hide hg
  have HLF := hide (And.intro hl hf)
  have HGS := hide hgs
  have HPS : Hid (∀ p ∈ fs, p.2.1 ≠ db) := hide (fun p hp e => by have := hD.str p hp; rw [e, hd] at this; simp at this)
  have HREL := hide hrel
  clear hD hDV hd hdV hBV sV hg hT hI hl hf hrel hgs
  go_enter Tryz.func118, Tryz.ntmps118
  go_upto_region 1 with fail
  rw [← hV]
  clear hV
  go_wp2_with fail
  refine HNM.out.mono ?_
  rintro e wN ⟨nv, bs, rfl, hbs, hnl, hnm, hbN⟩
  have hbne : bs ≠ [] := by
    obtain ⟨b, hb⟩ := hsome
    intro e
    obtain ⟨i, hi⟩ := Option.ne_none_iff_exists'.1 hb
    have h1 := (HI.out b).1
    rw [hi] at h1
    have : (fndG b fs).isSome = true := by cases h : fndG b fs <;> simp [h] at h1 ⊢
    have := (hbs b).2 this
    rw [e] at this
    cases this
  have sV := HSV.out
  have gN : wN.cell? ⟨g, 0, none⟩ = some (.iface 78 (.pointer (some ⟨db, 0, none⟩))) := (hbN.cell (p := ⟨g, 0, none⟩) (by show g < V.heap.size; omega)).trans hgV
  have dN := (hbN.block db (by omega)).trans HDV.out
  obtain ⟨na, nc, hnve, _⟩ := hnm
  have hnm : NmAt wN nv bs := ⟨na, nc, hnve, by assumption⟩
  have HHO := hide (hasours_some nv bs wN hnm hnl hbne)
  have HSY := hide (sync258e db _ _ l f wN dN HLF.out.1 HLF.out.2)
  have HNMN := hide hnm
  have HBN := hide hbN
  have HDN := hide dN
  have HBS := hide hbs
  subst hnve
  clear hnm hbN dN hbs hgV sV
  go_wp2_with fail
  refine HHO.out.mono ?_
  rintro e wx ⟨rfl, he⟩
  have he' := he.symm
  clear he
  subst he'
  go_wp2_with fail
  refine HSY.out.mono ?_
  rintro e w1 ⟨rfl, d1, k1⟩
  have sV := HSV.out
  have sN := HBN.out.size
  have s1 := k1.size
  have hwg : w1.heap[g]? = w.heap[g]? := (k1.block g (by omega) hgd).trans ((HBN.out.block g (by omega)).trans (HBV.out.block g hgl))
  have g1 : w1.cell? ⟨g, 0, none⟩ = some (.iface 78 (.pointer (some ⟨db, 0, none⟩))) := (World.cell?_of_block (w := w) hwg).trans HG.out
  have tab1 : TabOk w1 g 1 := HT.out.block hwg
  have nm1 : NmAt w1 (.slice na bs.length nc) bs := HNMN.out.kept (fun x hx => k1.block x (HNMN.out.lt hbne hx) (fun e => by
    have := HNMN.out.ne hbne (x := x) (u := .map (some mb)) (by rw [e]; exact cellB HDN.out 0) (fun s h => by cases h)
    exact this hx))
  have D1 : DirAt w1 nb fs := (HDD.out.kept (HBN.out.block nb HDD.out.map.lt) (fun p hp => HBN.out.block _ (ltB (HDD.out.str p hp)))).keep k1 hnd (fun p hp => HPS.out p hp)
  have r1 : w1.heap[w.heap.size]? = some (.cells #[.int .u64 0, .int .u64 0, .slice none 0 0] 169) := (k1.block _ (by omega) (by omega)).trans ((HBN.out.block _ (by omega)).trans h0)
  have hK1 : Keep (fun c => c = g ∨ c = db) w w1 := ((Keep.of_below (HBV.out.trans (HBN.out.mono (by omega)))).then k1 (fun _ _ h => Or.inr h))
  have hs1 : w.heap.size < w1.heap.size := by omega
  have HW1 := hide (And.intro g1 (And.intro tab1 (And.intro nm1 (And.intro D1 (And.intro r1 (And.intro hK1 d1))))))
  have HS1 := hide hs1
  have HWG := hide hwg
  have HST : Hid (LsI w w1 w1 g im 0 (.slice none 0 0) []) := hide ⟨rfl, World.ownsRow_nil _ _ _ _, fun p hp => (by cases hp), TabPost.of tab1 (by omega) (Keep.refl _ _)⟩
  clear k1 sV sN s1 hwg g1 tab1 nm1 D1 r1 hK1 d1 hs1 HNM HHO HSY HNMN
  go_wp2_with fail
  go_loopw [7, 39] (fun vW s wr => ∃ (j : Nat) (L : List (Ig × Value)), j ≤ 2 ∧ s = .int .u64 j ∧ LsI w w1 wr g im j vW L) (fun _ s _ => 2 - (intOf s).toNat)
  case atStart => exact ⟨0, [], Nat.zero_le _, rfl, HST.out⟩
  case round =>
    obtain ⟨j, L, hj, rfl, hL⟩ := hrel
    obtain ⟨xa, xc, hxe⟩ := own_sliceE hL.own
    subst hxe
    obtain ⟨g1, tab1, nm1, D1, r1, hK1, d1⟩ := HW1.out
    have hs1 := HS1.out
    have sR := hL.tab.keep.size
    by_cases hlt : j < 2
    · obtain ⟨b, hb⟩ : ∃ b, b = ((j : Int) % 2 == 1) := ⟨_, rfl⟩
      have gR : wr.cell? ⟨g, 0, none⟩ = some (.iface 78 (.pointer (some ⟨db, 0, none⟩))) := (hL.tab.cel 0 (Or.inl (by omega))).1.trans g1
      have nmR : NmAt wr (.slice na bs.length nc) bs := nm1.kept (fun x hx => hL.tab.keep.block x (nm1.lt hbne hx) (fun e => by
        have := nm1.ne hbne (x := x) (by rw [e]; exact g1) (fun s h => by cases h)
        exact this hx))
      have dR := (hL.tab.keep.block db (ltB d1) (fun e => hgd e.symm)).trans d1
      have DR : DirAt wr nb fs := D1.keep hL.tab.keep (fun e => hgn e.symm) (fun p hp => HGS.out p hp)
      have NA := name_any (j : Int) wr (by omega) (by omega)
      have NA2 := name_any (j : Int) wr.drew (by omega) (by omega)
      rw [← hb] at NA NA2
      have HNA := hide NA
      have HNA2 := hide NA2
      have NC := contains146 (.slice na bs.length nc) bs b wr nmR hnl
      obtain ⟨r, hr⟩ : ∃ r, r = bs.any (fun y => b == y) := ⟨_, rfl⟩
      rw [← hr] at NC
      have HC := hide NC
      have hmem : r = true ↔ (fndG b fs).isSome = true := by rw [hr, any_mem]; exact HBS.out b
      have HMEM := hide hmem
      have HL := hide hL
      have HB := hide hb
      have HLT := hide hlt
      have HDR := hide (And.intro dR DR)
      have hjI : (j : Int) < 2 := by omega
      clear g1 tab1 nm1 D1 r1 hK1 d1 hs1 sR hL hb hlt nmR dR DR NA NA2 NC hr hmem hj
      cases r
      · go_wp2_with fail
        refine HNA.out.mono ?_
        rintro e wx ⟨rfl, he⟩
        have he' := he.symm
        clear he
        subst he'
        go_wp2_with fail
        refine HC.out.mono ?_
        rintro e wx ⟨rfl, he⟩
        have he' := he.symm
        clear he
        subst he'
        go_wp2
        go_roundw
        case rel =>
          have hnone : im b = none := by
            cases h : im b with
            | none => rfl
            | some i =>
              have h1 := (HI.out b).1
              rw [h] at h1
              have : (fndG b fs).isSome = true := by cases h : fndG b fs <;> simp [h] at h1 ⊢
              have := HMEM.out.2 this
              cases this
          refine ⟨j + 1, L, by have := HLT.out; omega, by go_num, ?_, HL.out.own, HL.out.rcs, HL.out.tab⟩
          rw [imgsTo_succ im j HLT.out b HB.out, hnone, HL.out.lst]
          simp
        case measure => have := HLT.out; simp [intOf]; omega
      · obtain ⟨p, hp⟩ : ∃ p, fndG b fs = some p := Option.isSome_iff_exists.1 (HMEM.out.1 rfl)
        obtain ⟨i, hib, hps⟩ : ∃ i, im b = some i ∧ p.2 = strOfNums i.bytes := by
          have h1 := (HI.out b).1
          rw [hp] at h1
          cases h : im b with
          | none => rw [h] at h1; cases h1
          | some i => rw [h] at h1; exact ⟨i, rfl, by simpa using h1⟩
        obtain ⟨hiok, hipar⟩ := (HI.out b).2 i hib
        have hnum : numsOf p.2 = i.bytes := by rw [hps]; exact numsOf_str _ hiok.byt
        have hsz : p.2.size = i.bytes.length := by rw [← hnum, numsOf_length]
        obtain ⟨n, hn⟩ : ∃ n, n = i.bytes.length := ⟨_, rfl⟩
        obtain ⟨dR, DR⟩ := HDR.out
        have RD := read256 db nb _ _ _ _ fs b p wr.drew dR (DR.kept rfl (fun _ _ => rfl)) hp
        rw [hsz, ← hn, hnum] at RD
        have HRD := hide RD
        have HI0 := hide (And.intro hib (And.intro hiok (And.intro hipar hn)))
        clear RD dR DR hp hps hnum hsz hib hiok hipar hn
        go_wp2_with fail
        refine HNA.out.mono ?_
        rintro e wx ⟨rfl, he⟩
        have he' := he.symm
        clear he
        subst he'
        go_wp2_with fail
        refine HC.out.mono ?_
        rintro e wx ⟨rfl, he⟩
        have he' := he.symm
        clear he
        subst he'
        go_wp2_with fail
        go_cut [9, 10] from 47 to 84 (fun s9 s10 wx => ∃ (W : World) (cap : Nat), W = wx ∧ s9 = .slice (some ⟨wr.heap.size, 0, none⟩) n cap ∧ s10 = .nilIface ∧ Sl W (.slice (some ⟨wr.heap.size, 0, none⟩) n cap) i.bytes ∧ n ≤ cap ∧ wr.heap.size < W.heap.size ∧ Below wr.heap.size wr W)
        case first =>
          go_region_law (first
            | (refine step_fn (by rfl) 147 callName _ _ (by rfl) #[.int .u64 j] (by simp only [List.map_toArray, List.map_cons, List.map_nil]; rfl) HNA2.out ?_; rintro e w3 ⟨rfl, rfl⟩; refine ⟨_, rfl, ?_⟩)
            | (refine step_inv (by rfl) 256 "Read" 78 (.pointer (some ⟨db, 0, none⟩)) hmr callDR _ _ _ (by rfl) (by rfl) #[.string (nameB b)] (by simp only [List.map_toArray, List.map_cons, List.map_nil]; rfl) HRD.out ?_; rintro e w3 ⟨cap, rfl, q1, q2, q3, q4⟩; refine ⟨_, rfl, ?_⟩; have H1 := hide q1; have H2 := hide q2; have H3 := hide q3; have H4 := hide q4; clear q1 q2 q3 q4))
          all_goals (go_wp2_with fail; go_meet)
          all_goals exact ⟨w3, cap, rfl, rfl, rfl, H1.out, H2.out, H3.out, ⟨H4.out.os, H4.out.tape, H4.out.output, H4.out.size, H4.out.block⟩⟩
        case rest =>
          obtain ⟨W, cap, rfl, rfl, rfl, q1, q2, q3, q4⟩ := hcut
          obtain ⟨hib, hiok, hipar, hn⟩ := HI0.out
          have hL := HL.out
          have sW := q4.size
          have hs1 := HS1.out
          have sR := hL.tab.keep.size
          have hLl : L.length ≤ 2 := by have := imgsTo_len im j; rw [← hL.lst, List.length_map] at this; exact this
          have tabW : TabOk W g 1 := hL.tab.tab.block (q4.block g (by omega))
          have hn0 : 0 < n := by rw [hn, i.blen]; omega
          have hcW : ∀ y, y < n → W.cell? ⟨wr.heap.size, 0 + y, none⟩ = some (.int .u8 (i.bytes.getD y 0)) := by
            rcases q1 with ⟨h, _⟩ | ⟨_, gg, oo, cc, e, _, _, hc⟩
            · rw [hn, h] at hn0; simp at hn0
            · injection e with e _ _
              injection e with e
              injection e with e1 e2
              subst e1 e2
              exact fun y hy => hc y (by omega)
          have RD := read148 g 1 wr.heap.size n cap i.turn i.time i.es i.ks W tabW hiok.len hiok.rec_ hiok.turn hiok.time hn.symm q2 q3 (by omega) (by omega) hcW
          have HRD2 := hide RD
          have HQ4 := hide q4
          have HLl := hide hLl
          have HTW := hide tabW
          clear RD q1 q2 q3 q4 hcW tabW hib hiok hipar hn hn0 hL sW hs1 sR hLl HRD
          go_wp2_with fail
          refine HRD2.out.mono ?_
          rintro e w3 ⟨v, rfl, ho3, t3⟩
          obtain ⟨va, vc, hve⟩ := own_sliceE ho3
          subst hve
          obtain ⟨Y, hY⟩ : ∃ Y, Y = w3.alloc (.cells #[.int .u64 i.turn, .int .u64 i.time, .slice va i.ks.length vc] 169) := ⟨_, rfl⟩
          obtain ⟨Bi, hBi⟩ : ∃ Bi, Bi = w3.heap.size := ⟨_, rfl⟩
          have yB : Y.heap[Bi]? = some (.cells #[.int .u64 i.turn, .int .u64 i.time, .slice va i.ks.length vc] 169) := by rw [hBi, hY]; exact heapNew _ _
          have sW := HQ4.out.size
          have s3 := t3.keep.size
          have hs1 := HS1.out
          have hL := HL.out
          have sR := hL.tab.keep.size
          have kY : Keep (fun c => c = g) wr Y := by rw [hY]; exact ((Keep.of_below HQ4.out).then t3.keep (fun _ _ h => h)).alloc _
          have tY : TabPost w1 Y g 1 := (hL.tab.then ((TabPost.of hL.tab.tab (by omega) (Keep.of_below HQ4.out)).then t3)).then (TabPost.of t3.tab (by omega) (hY ▸ (Keep.refl _ w3).alloc _))
          have hownY : Y.ownsRow w1.heap.size 169 3 (.slice xa L.length xc) L.length (irow L) := own_keptE hL.own (fun x hx => kY.block x (own_ltE hL.own hx).2 (fun e => by have := (own_ltE hL.own hx).1; omega))
          have horY : Y.ownsRow w.heap.size 175 13 (.slice va i.ks.length vc) i.ks.length (rrow i.es i.ks) := by
            have h2 : Y.ownsRow W.heap.size 175 13 (.slice va i.ks.length vc) i.ks.length (rrow i.es i.ks) := hY ▸ ho3.alloc _
            refine ⟨h2.1, ?_⟩
            rcases h2.2 with h | ⟨x, cap', cur, e1, e2, e3⟩
            · exact Or.inl h
            · exact Or.inr ⟨x, cap', cur, e1, by omega, e3⟩
          have hrcY : ∀ p ∈ L, ∃ a c, p.2 = .slice a p.1.ks.length c ∧ Y.ownsRow w.heap.size 175 13 p.2 p.1.ks.length (rrow p.1.es p.1.ks) := fun p hp => by
            obtain ⟨a, c, e, ho⟩ := hL.rcs p hp
            exact ⟨a, c, e, own_keptE ho (fun x hx => kY.block x (own_ltE ho hx).2 (fun e => by have := (own_ltE ho hx).1; omega))⟩
          have NA3 := name_any i.turn Y (HI0.out.2.1.turn.1) (HI0.out.2.1.turn.2)
          rw [HI0.out.2.2.1] at NA3
          have NA4 := name_any (j : Int) Y (by omega) (by omega)
          rw [← HB.out] at NA4
          have HNA3 := hide NA3
          have HNA4 := hide NA4
          have HTY := hide tY
          have HRY := hide (And.intro horY hrcY)
          have HSY : Hid (w1.heap.size ≤ Y.heap.size ∧ w.heap.size < w1.heap.size) := hide (by have := kY.size; omega)
          have hLl := HLl.out
          clear ho3 t3 NA3 NA4 tY horY hrcY kY sW s3 hs1 sR hL
          go_upto_region 16 with fail
          rw [← hY, ← hBi]
          clear hY hBi
          have c1 := cellB yB
          go_wp2_with fail
          refine HNA3.out.mono ?_
          rintro e wx ⟨rfl, he⟩
          have he' := he.symm
          clear he
          subst he'
          go_wp2_with fail
          refine HNA4.out.mono ?_
          rintro e wx ⟨rfl, he⟩
          have he' := he.symm
          clear he
          subst he'
          go_wp2_with (first
            | (at_builtin; refine wpList_append_own_at (w := _) rfl _ _ 283 rfl w1.heap.size 169 i0 (.agg #[.int .u64 0, .int .u64 0, .slice none 0 0]) 3 40 Tryz.underlying283 hi hz0 hz1 hz2 rfl (by decide) (.slice xa L.length xc) L.length _ rfl (hownY.alloc _) ⟨Y.heap.size, 0, none⟩ 1 1 [.int .u64 i.turn, .int .u64 i.time, .slice va i.ks.length vc] rfl rfl (cells3i_new _ _ _ _ _) (by simp [Value.oneCell']) (by unfold maxLen; omega) (by omega) (by have := HSY.out.1; simp; omega) ?_; intro v2 w8 hown8 hgrow8 _ hat8; obtain ⟨a2, d2, e2⟩ := own_sliceE hown8; subst e2)
            | go_in)
          go_roundw
          case rel =>
            obtain ⟨hib, hiok, hipar, hn⟩ := HI0.out
            obtain ⟨horY, hrcY⟩ := HRY.out
            have tY := HTY.out
            have hyl : ∀ x, (Value.slice xa L.length xc).ownBlock = some x → w1.heap.size ≤ x := fun x hx => (own_ltE hownY hx).1
            have hX : ∀ x, x < Y.heap.size → (Value.slice xa L.length xc).ownBlock ≠ some x → w8.heap[x]? = Y.heap[x]? := fun x hx hne => (hgrow8.block x (by simp; omega) (fun e => hne e.symm)).trans (heapOld _ _ hx)
            have hrec : ∀ (v : Value) (n : Nat) (xs : List Value), Y.ownsRow w.heap.size 175 13 v n xs → w8.ownsRow w.heap.size 175 13 v n xs := fun v n xs ho => own_keptE ho (fun x hx => hX x (own_ltE ho hx).2 (fun e => own_disj hownY ho (by decide) e hx))
            refine ⟨j + 1, L ++ [(i, .slice va i.ks.length vc)], by have := HLT.out; omega, by go_num, ?_, ?_, fun p hp => ?_, ?_⟩
            · rw [imgsTo_succ im j HLT.out b HB.out, hib, List.map_append, HL.out.lst]
              rfl
            · rw [irow_snoc, List.length_append]
              exact hown8
            · rcases List.mem_append.1 hp with h | h
              · obtain ⟨a, c, e, ho⟩ := hrcY p h
                exact ⟨a, c, e, hrec _ _ _ ho⟩
              · obtain rfl := List.mem_singleton.1 h
                exact ⟨va, vc, rfl, hrec _ _ _ horY⟩
            · have hgY : g < Y.heap.size := by have := HSY.out; omega
              have hg8 : w8.heap[g]? = Y.heap[g]? := hX g hgY (fun e => by have := hyl g e; have := HSY.out; omega)
              refine ⟨tY.tab.block hg8, fun y hy => ⟨(World.cell?_of_block (w := Y) hg8).trans (tY.cel y hy).1, (World.frozen?_of_block (w := Y) hg8).trans (tY.cel y hy).2⟩, ?_⟩
              have hs8 : Y.heap.size ≤ w8.heap.size := Nat.le_trans (by simp) hgrow8.size
              exact ⟨hgrow8.os.trans tY.keep.os, hgrow8.tape.trans tY.keep.tape, hgrow8.output.trans tY.keep.output, Nat.le_trans tY.keep.size hs8, fun x hx hne => by
                have h1 := tY.keep.block x hx hne
                have hxY : x < Y.heap.size := Nat.lt_of_lt_of_le hx tY.keep.size
                rw [← h1]
                exact hX x hxY (fun e => by have := hyl x e; omega)⟩
          case measure => have := HLT.out; simp [intOf]; omega
    · obtain rfl : j = 2 := by omega
      have hLT := latest149 w1.heap.size im L (.slice xa L.length xc) wr hL.own hL.lst (fun p hp => by obtain ⟨a, c, e, _⟩ := hL.rcs p hp; exact ⟨a, _, c, e⟩) (fun b i h => (HI.out b).2 i h) hsome HREL.out
      have rR := (hL.tab.keep.block w.heap.size hs1 (fun e => by omega)).trans r1
      have dR := (hL.tab.keep.block db (ltB d1) (fun e => hgd e.symm)).trans d1
      have HLT2 := hide hLT
      have HL := hide hL
      have HRR := hide rR
      have HDR := hide dR
      have HK1 := hide hK1
      have hgs : g < wr.heap.size := by omega
      clear hLT g1 tab1 nm1 D1 r1 hK1 d1 hL rR dR sR
      go_wp2_with fail
      refine HLT2.out.mono ?_
      rintro e w5 ⟨p, hp, hB, rfl, hb5⟩
      obtain ⟨pa, pc, hpe, hpo⟩ := HL.out.rcs p hp
      obtain ⟨i, v⟩ := p
      dsimp only at hpe hpo hB ⊢
      subst hpe
      have r5 := (hb5.block w.heap.size (ltB HRR.out)).trans HRR.out
      have c1 := cellB r5
      have c2 := frozenB r5
      have HB5 := hide hb5
      have HPO := hide hpo
      have HBB := hide hB
      clear hb5 hpo hB
      go_wp2
      refine bodyPost_ret (v := .tuple #[.agg #[.int .u64 i.turn, .int .u64 i.time, .slice pa i.ks.length pc], .nilIface]) (by simp [results, Tryz.results118, go_sem, c1]) rfl ⟨i, pa, pc, HBB.out, rfl, ?_⟩
      have hb5 := HB5.out
      have hL := HL.out
      have nr : ∀ x, x < w.heap.size → x ≠ w.heap.size := fun x hx => by omega
      have hX : ∀ x, x < wr.heap.size → x ≠ w.heap.size → (((w5.setCell ⟨w.heap.size, 0, none⟩ (.int .u64 i.turn)).setCell ⟨w.heap.size, 1, none⟩ (.int .u64 i.time)).setCell ⟨w.heap.size, 2, none⟩ (.slice pa i.ks.length pc)).heap[x]? = wr.heap[x]? := fun x hx hne => ((heapSetO hne _ _).trans ((heapSetO hne _ _).trans (heapSetO hne _ _))).trans (hb5.block x hx)
      have hK5 : Keep (fun c => c = g ∨ c = db) w (((w5.setCell ⟨w.heap.size, 0, none⟩ (.int .u64 i.turn)).setCell ⟨w.heap.size, 1, none⟩ (.int .u64 i.time)).setCell ⟨w.heap.size, 2, none⟩ (.slice pa i.ks.length pc)) := by
        refine Keep.set (b := w.heap.size) (Keep.set (b := w.heap.size) (Keep.set (b := w.heap.size) ?_ (Or.inr (Nat.le_refl _)) _ _) (Or.inr (Nat.le_refl _)) _ _) (Or.inr (Nat.le_refl _)) _ _
        exact (HK1.out.then hL.tab.keep (fun _ _ h => Or.inl h)).then (T := fun _ => False) (Keep.of_below hb5) (fun _ _ h => h.elim)
      have hgX := hX g hgs (nr g hgl)
      refine ⟨?_, (hX db (ltB HDR.out) (nr db hdl)).trans HDR.out, hL.tab.tab.block hgX, fun y hy => ?_, hK5⟩
      · refine own_keptE HPO.out (fun x hx => hX x (own_ltE HPO.out hx).2 (fun e => ?_))
        have := own_neE HPO.out hx HRR.out (by decide)
        exact this e
      · have hwg : w1.heap[g]? = w.heap[g]? := HWG.out
        exact ⟨(World.cell?_of_block (w := wr) hgX).trans ((hL.tab.cel y hy).1.trans (World.cell?_of_block (w := w) hwg)), (World.frozen?_of_block (w := wr) hgX).trans ((hL.tab.cel y hy).2.trans (World.frozen?_of_block (w := w) hwg))⟩
end Go.Proofs.YtnlgndpcddngoaaGreatDoor
