import Derived.Test.YtlamgpeiolfffaaGreatDoorDrw
set_option linter.unusedSectionVars false
namespace Go.Proofs.YtlamgpeiolfffaaGreatDoor
open Go.RowKit
variable [dK] [iK]

theorem callFunc10 (vs : Array Value) (w : World) : Sem.run Tryz.prog (callFunc 10 vs) w = .ok (.enter 10 vs) w := by simp [go_sem]
theorem callFunc8 (vs : Array Value) (w : World) : Sem.run Tryz.prog (callFunc 8 vs) w = .ok (.enter 8 vs) w := by simp [go_sem]

set_option maxRecDepth 100000 in
set_option maxHeartbeats 4000000 in
theorem drawn5 (kind x y now block : Int) (w : World) (k0 : -9223372036854775808 ≤ kind) (k1 : kind ≤ 9223372036854775807) (x0 : -9223372036854775808 ≤ x) (x1 : x ≤ 9223372036854775807) (y0 : -9223372036854775808 ≤ y) (y1 : y ≤ 9223372036854775807) (n0 : -9223372036854775808 ≤ now) (n1 : now ≤ 9223372036854775807) (b0 : -9223372036854775808 ≤ block) (b1 : block ≤ 9223372036854775807)
    (hgl : w.cell? ⟨0, 0, none⟩ = some (.iface 201 (.agg #[.pointer (some ⟨1, 88, none⟩)]))) :
    Calls Tryz.prog 5 #[.int .i64 kind, .int .i64 x, .int .i64 y, .int .i64 now, .int .i64 block] w fun e w' => e = .returned (.bool true) ∧ Below w.heap.size w w' := by
  have hlt0 : 0 < w.heap.size := by
    rcases Nat.eq_zero_or_pos w.heap.size with h0 | h
    · simp [World.cell?, h0] at hgl
    · exact h
  obtain ⟨p, hp⟩ : ∃ p, p = polM kind x y := ⟨_, rfl⟩
  have H12 := hide (fun w => policy12 kind x y w k0 k1 x0 x1 y0 y1 p hp)
  obtain ⟨q1, q2, q3, q4, q5⟩ := pol_ok kind x y p hp
  have hbk := pickM_ok block 300 (by omega)
  have hnw := pickM_ok now 2000 (by omega)
  have HPB := hide (fun w => pick10 block 300 w (by omega) (by omega) b0 b1)
  have HPN := hide (fun w => pick10 now 2000 w (by omega) (by omega) n0 n1)
  obtain ⟨blk, hblk⟩ : ∃ blk, blk = pickM block 300 := ⟨_, rfl⟩
  obtain ⟨nw, hnwe⟩ : ∃ nw, nw = pickM now 2000 := ⟨_, rfl⟩
  rw [← hblk] at HPB hbk
  rw [← hnwe] at HPN hnw
  obtain ⟨t, ht⟩ : ∃ t, t = 1 + nw := ⟨_, rfl⟩
  obtain ⟨most, hmo⟩ : ∃ most, most = if p.1 = 1 then p.2.2 / p.2.1 + 1 else p.2.1 := ⟨_, rfl⟩
  obtain ⟨z1, z2, z3, a2, b2, a3, D⟩ := dr_of kind x y t p hp (by omega) most hmo
  have HD := hide D
  have hz0 : Qt.ok ⟨p.1, p.2.1, p.2.2, 0, 0⟩ := ⟨q1, by dsimp only; omega, by dsimp only; omega, by simp, by simp⟩
  have hz1 : z1.ok := by have := (admM_ok _ t (most + 1) hz0 (by omega) (by omega) (by have := D.mr; omega)).1; rw [D.r1] at this; exact this
  have hz2 : z2.ok := by have := (admM_ok _ t most hz1 (by omega) (by omega) (by have := D.mr; omega)).1; rw [D.r2] at this; exact this
  have hz3 : z3.ok := by have := (admM_ok _ t 1 hz2 (by omega) (by omega) (by omega)).1; rw [D.r3] at this; exact this
  have hmr := D.mr
  obtain ⟨kd, X, Y⟩ := p
  dsimp only at *
  have HSO := hide q1
  have HZ0 := hide hz0
  have HZ1 := hide hz1
  have HZ2 := hide hz2
  have HZ3 := hide hz3
  have HGL := hide hgl
  have u1 : IntKind.u64.wrap blk = blk := by rw [IntKind.wrap_u64]; omega
  have u2 : IntKind.u64.wrap (1 + nw) = t := by rw [IntKind.wrap_u64]; omega
  have HMO := hide hmo
  clear hgl hp D q1 hblk hnwe hmo hz0 hz1 hz2 hz3
  rcases q4 with rfl | rfl
  · have hX := q5 rfl
    have hm1 : Y / X + 1 = most := by have := HMO.out; rw [if_pos rfl] at this; exact this.symm
    have hXn : ¬ X = 0 := by omega
    go_enter Tryz.func5, Tryz.ntmps5
    go_wp2_with fail
    refine (H12.out _).mono ?_
    rintro e w1 ⟨rfl, hb1⟩
    go_wp2_with fail
    obtain ⟨V, hV⟩ : ∃ V, V = w1.alloc (.cells #[.int .u8 1, .int .u64 X, .int .u64 Y] 30) := ⟨_, rfl⟩
    have hpx : V.heap[w1.heap.size]? = some (.cells #[.int .u8 1, .int .u64 X, .int .u64 Y] 30) := hV ▸ heapNew _ _
    have hBV : Below w.heap.size w V := hV ▸ hb1.alloc hb1.size _
    have hsV : V.heap.size = w1.heap.size + 1 := by rw [hV]; simp
    obtain ⟨pb, hpb⟩ : ∃ pb, pb = w1.heap.size := ⟨_, rfl⟩
    rw [← hV, ← hpb]
    rw [← hpb] at hpx hsV
    clear hV
    have c1 := cellB hpx
    obtain ⟨B, hBe⟩ : ∃ B, B = V.heap.size := ⟨_, rfl⟩
    have h8 := opened_at 1 X Y blk V.drew HSO.out (by omega) (by omega) ((hBV.cell (p := ⟨0, 0, none⟩) hlt0).trans HGL.out)
    have H8 := hide h8
    have HBV := hide hBV
    have HBE := hide hBe
    have HSV := hide hsV
    have HPX := hide hpx
    have HB1 := hide hb1
    clear h8 hBV hBe hsV hpx hb1 hpb
    go_cut [12] (fun o wx => ∃ hb G, o = .pointer (some ⟨hb, 0, none⟩) ∧ AskAt wx hb 0 ⟨1, X, Y, 0, 0⟩ B G ∧ Below B V wx)
    case first =>
      go_region_law (first | (refine step_fn (by rfl) 10 callFunc10 _ _ (by rfl) #[.int .i64 block, .int .i64 300] (by simp only [List.map_toArray, List.map_cons, List.map_nil]; rfl) (HPB.out _) ?_; rintro e w1 ⟨rfl, rfl⟩; refine ⟨_, rfl, ?_⟩) | (refine step_fn (by rfl) 8 callFunc8 _ _ (by rfl) #[.agg #[.int .u8 1, .int .u64 X, .int .u64 Y], .int .u64 blk] (by simp only [List.map_toArray, List.map_cons, List.map_nil]; rfl) H8.out ?_; rintro e w2 ⟨hb, G, rfl, hA2, hB2⟩; refine ⟨_, rfl, ?_⟩))
      all_goals (go_wp2_with fail; go_meet)
      all_goals exact ⟨hb, G, rfl, HBE.out ▸ hA2, HBE.out ▸ ⟨hB2.os, hB2.tape, hB2.output, hB2.size, hB2.block⟩⟩
    case rest =>
      obtain ⟨hb, G2, rfl, hA2, hB2⟩ := hcut
      have hpB : pb < B := by rw [HBE.out, HSV.out]; omega
      have hpx2 := (hB2.block pb hpB).trans HPX.out
      have c2 := cellB hpx2
      have hdt : Y.tdiv X = Y / X := Int.tdiv_eq_ediv_of_nonneg (by omega)
      have hmw : IntKind.u64.wrap (Y / X + 1) = most := by rw [hm1, IntKind.wrap_u64]; omega
      have hmw2 : IntKind.u64.wrap (most + 1) = most + 1 := by rw [IntKind.wrap_u64]; omega
      have hdp : 0 ≤ Y / X := Int.ediv_nonneg (by omega) (by omega)
      have hdw : IntKind.u64.wrap (Y / X) = Y / X := by rw [IntKind.wrap_u64]; omega
      have HA2 := hide hA2
      have HB2 := hide hB2
      clear c1 hA2 hB2 hm1 hdp
      go_wp2_with fail
      refine (HPN.out _).mono ?_
      rintro e w9 ⟨rfl, rfl⟩
      go_wp2_with fail
      have HT := hide ht
      rw [← ht]
      have htr : 1 ≤ t ∧ t ≤ 2000 := by omega
      clear ht u2 hmw hmw2 hdt hdw u1
      have hwB : w.heap.size ≤ B := by rw [HBE.out]; exact HBV.out.size
      have D2 : Dw w w9 hb 0 ⟨1, X, Y, 0, 0⟩ B G2 := ⟨HA2.out, by rw [HBE.out]; exact HB2.out.size, hwB, hlt0, HGL.out, HBV.out.trans (HB2.out.mono hwB)⟩
      clear HA2 HB2 c2 hpx2 HBV HPX HSV HBE
      refine (ask_dw w w9 hb 0 ⟨1, X, Y, 0, 0⟩ B G2 (most + 1) t D2 HZ0.out (by omega) (by omega) (by omega) t z1 _ (by rw [if_pos (by omega)]) HD.out.r1).mono ?_
      rintro e w3 ⟨G3, rfl, D3, _⟩
      have nb3 := D3.new
      have bx3 := heapNew w3 (.cells #[.int .u8 3, .int .u64 18446744073709551615, .int .u64 0] 40)
      have D3' := D3.box (.cells #[.int .u8 3, .int .u64 18446744073709551615, .int .u64 0] 40)
      have HD3 := hide D3'
      have HN3 := hide nb3
      have HX3 := hide bx3
      clear D2 D3 D3' nb3 bx3
      go_wp2_with fail
      refine (ask_dw w _ hb t z1 B G3 most t HD3.out HZ1.out (by omega) (by omega) (by omega) t z2 _ (by rw [if_neg (by omega)]) HD.out.r2).mono ?_
      rintro e w4 ⟨G4, rfl, D4, keep4⟩
      obtain ⟨b34, n34⟩ := keep4 _ _ HX3.out HN3.out
      have nb4 := D4.new
      have bx4 := heapNew w4 (.cells #[.int .u8 2, .int .u64 a2, .int .u64 b2] 40)
      have D4' := D4.box (.cells #[.int .u8 2, .int .u64 a2, .int .u64 b2] 40)
      have HD4 := hide D4'
      have HN4 := hide nb4
      have HX4 := hide bx4
      have HX34 := hide (upB b34 (.cells #[.int .u8 2, .int .u64 a2, .int .u64 b2] 40))
      have HN34 := hide n34
      clear D4 D4' nb4 bx4 b34 n34 keep4 HD3 HX3 HN3
      go_wp2_with fail
      refine (ask_dw w _ hb t z2 B G4 1 t HD4.out HZ2.out (by omega) (by omega) (by omega) t z3 _ (by rw [if_neg (by omega)]) HD.out.r3).mono ?_
      rintro e w5 ⟨G5, rfl, D5, keep5⟩
      obtain ⟨b35, n35⟩ := keep5 _ _ HX34.out HN34.out
      obtain ⟨b45, n45⟩ := keep5 _ _ HX4.out HN4.out
      have e3 := upC b35 (.cells #[.int .u8 3, .int .u64 a3, .int .u64 0] 40)
      have e4 := upC b45 (.cells #[.int .u8 3, .int .u64 a3, .int .u64 0] 40)
      have nb5 := D5.new
      have bx5 := heapNew w5 (.cells #[.int .u8 3, .int .u64 a3, .int .u64 0] 40)
      have D5' := D5.box (.cells #[.int .u8 3, .int .u64 a3, .int .u64 0] 40)
      have HD5 := hide D5'
      have HN5 := hide nb5
      have HX5 := hide bx5
      clear D5 D5' nb5 bx5 b35 b45 n35 n45 keep5 HD4 HX4 HN4 HX34 HN34
      by_cases hm0 : most = 0
      · have ha3 := HD.out.m0 hm0
        subst ha3
        go_wp2_with fail
        go_ret
        exact ⟨rfl, HD5.out.be⟩
      · obtain ⟨g1, g2, g3, g4⟩ := HD.out.m1 hm0
        have HG3 := hide g3
        have HG4 := hide g4
        have ha3n : ¬ a3 = 18446744073709551615 := by omega
        have ha3l : ¬ a3 ≤ t := by omega
        have ha3b : (a3 == 18446744073709551615) = false := by simpa using ha3n
        have hm0b : (most == 0) = false := by simpa using hm0
        have ha3w : IntKind.u64.wrap (a3 - 1) = a3 - 1 := by rw [IntKind.wrap_u64]; omega
        clear g3 g4
        go_wp2_with fail
        refine (ask_dw w _ hb t z3 B G5 1 (a3 - 1) HD5.out HZ3.out (by omega) (by omega) (by omega) (a3 - 1) z3 _ (by split <;> omega) HG3.out).mono ?_
        rintro e w6 ⟨G6, rfl, D6, keep6⟩
        obtain ⟨b56, n56⟩ := keep6 _ _ HX5.out HN5.out
        have e5 := upC b56 (.cells #[.int .u8 3, .int .u64 a3, .int .u64 0] 40)
        have nb6 := D6.new
        have bx6 := heapNew w6 (.cells #[.int .u8 3, .int .u64 a3, .int .u64 0] 40)
        have D6' := D6.box (.cells #[.int .u8 3, .int .u64 a3, .int .u64 0] 40)
        have HD6 := hide D6'
        have HN6 := hide nb6
        have HX6 := hide bx6
        have HX56 := hide (upB b56 (.cells #[.int .u8 3, .int .u64 a3, .int .u64 0] 40))
        have HN56 := hide n56
        obtain ⟨z5, ⟨c5, a5, b5⟩, hr5⟩ : ∃ z5 r5, admM z3 a3 1 = (z5, r5) := ⟨_, _, rfl⟩
        have hrc : c5 = 2 := by have := HG4.out; rw [hr5] at this; exact this
        subst hrc
        have HR5 := hide hr5
        clear D6 D6' nb6 bx6 b56 n56 keep6 HD5 HX5 HN5 e3 e4 hr5
        go_wp2_with fail
        refine (ask_dw w _ hb (a3 - 1) z3 B G6 1 a3 HD6.out HZ3.out (by omega) (by omega) (by omega) a3 z5 ⟨2, a5, b5⟩ (by rw [if_pos (by omega)]) HR5.out).mono ?_
        rintro e w7 ⟨G7, rfl, D7, keep7⟩
        obtain ⟨b57, _⟩ := keep7 _ _ HX56.out HN56.out
        obtain ⟨b67, _⟩ := keep7 _ _ HX6.out HN6.out
        have f5 := upC b57 (.cells #[.int .u8 2, .int .u64 a5, .int .u64 b5] 40)
        have f6 := upC b67 (.cells #[.int .u8 2, .int .u64 a5, .int .u64 b5] 40)
        have D7' := D7.box (.cells #[.int .u8 2, .int .u64 a5, .int .u64 b5] 40)
        have HD7 := hide D7'
        clear D7 D7' keep7 HX56 HX6 HN56 HN6 b57 b67 e5
        go_wp2_with fail
        go_ret
        exact ⟨rfl, HD7.out.be⟩
  · have hm1 : most = X := by have := HMO.out; rw [if_neg (by decide)] at this; exact this
    subst hm1
    go_enter Tryz.func5, Tryz.ntmps5
    go_wp2_with fail
    refine (H12.out _).mono ?_
    rintro e w1 ⟨rfl, hb1⟩
    go_wp2_with fail
    obtain ⟨V, hV⟩ : ∃ V, V = w1.alloc (.cells #[.int .u8 2, .int .u64 most, .int .u64 Y] 30) := ⟨_, rfl⟩
    have hpx : V.heap[w1.heap.size]? = some (.cells #[.int .u8 2, .int .u64 most, .int .u64 Y] 30) := hV ▸ heapNew _ _
    have hBV : Below w.heap.size w V := hV ▸ hb1.alloc hb1.size _
    have hsV : V.heap.size = w1.heap.size + 1 := by rw [hV]; simp
    obtain ⟨pb, hpb⟩ : ∃ pb, pb = w1.heap.size := ⟨_, rfl⟩
    rw [← hV, ← hpb]
    rw [← hpb] at hpx hsV
    clear hV
    have c1 := cellB hpx
    obtain ⟨B, hBe⟩ : ∃ B, B = V.heap.size := ⟨_, rfl⟩
    have h8 := opened_at 2 most Y blk V.drew HSO.out (by omega) (by omega) ((hBV.cell (p := ⟨0, 0, none⟩) hlt0).trans HGL.out)
    have H8 := hide h8
    have HBV := hide hBV
    have HBE := hide hBe
    have HSV := hide hsV
    have HPX := hide hpx
    have HB1 := hide hb1
    clear h8 hBV hBe hsV hpx hb1 hpb
    go_cut [12] (fun o wx => ∃ hb G, o = .pointer (some ⟨hb, 0, none⟩) ∧ AskAt wx hb 0 ⟨2, most, Y, 0, 0⟩ B G ∧ Below B V wx)
    case first =>
      go_region_law (first | (refine step_fn (by rfl) 10 callFunc10 _ _ (by rfl) #[.int .i64 block, .int .i64 300] (by simp only [List.map_toArray, List.map_cons, List.map_nil]; rfl) (HPB.out _) ?_; rintro e w1 ⟨rfl, rfl⟩; refine ⟨_, rfl, ?_⟩) | (refine step_fn (by rfl) 8 callFunc8 _ _ (by rfl) #[.agg #[.int .u8 2, .int .u64 most, .int .u64 Y], .int .u64 blk] (by simp only [List.map_toArray, List.map_cons, List.map_nil]; rfl) H8.out ?_; rintro e w2 ⟨hb, G, rfl, hA2, hB2⟩; refine ⟨_, rfl, ?_⟩))
      all_goals (go_wp2_with fail; go_meet)
      all_goals exact ⟨hb, G, rfl, HBE.out ▸ hA2, HBE.out ▸ ⟨hB2.os, hB2.tape, hB2.output, hB2.size, hB2.block⟩⟩
    case rest =>
      obtain ⟨hb, G2, rfl, hA2, hB2⟩ := hcut
      have hpB : pb < B := by rw [HBE.out, HSV.out]; omega
      have hpx2 := (hB2.block pb hpB).trans HPX.out
      have c2 := cellB hpx2
      have hmw2 : IntKind.u64.wrap (most + 1) = most + 1 := by rw [IntKind.wrap_u64]; omega
      have HA2 := hide hA2
      have HB2 := hide hB2
      clear c1 hA2 hB2
      go_wp2_with fail
      refine (HPN.out _).mono ?_
      rintro e w9 ⟨rfl, rfl⟩
      go_wp2_with fail
      have HT := hide ht
      rw [← ht]
      have htr : 1 ≤ t ∧ t ≤ 2000 := by omega
      clear ht u2 hmw2 u1
      have hwB : w.heap.size ≤ B := by rw [HBE.out]; exact HBV.out.size
      have D2 : Dw w w9 hb 0 ⟨2, most, Y, 0, 0⟩ B G2 := ⟨HA2.out, by rw [HBE.out]; exact HB2.out.size, hwB, hlt0, HGL.out, HBV.out.trans (HB2.out.mono hwB)⟩
      clear HA2 HB2 c2 hpx2 HBV HPX HSV HBE
      refine (ask_dw w w9 hb 0 ⟨2, most, Y, 0, 0⟩ B G2 (most + 1) t D2 HZ0.out (by omega) (by omega) (by omega) t z1 _ (by rw [if_pos (by omega)]) HD.out.r1).mono ?_
      rintro e w3 ⟨G3, rfl, D3, _⟩
      have nb3 := D3.new
      have bx3 := heapNew w3 (.cells #[.int .u8 3, .int .u64 18446744073709551615, .int .u64 0] 40)
      have D3' := D3.box (.cells #[.int .u8 3, .int .u64 18446744073709551615, .int .u64 0] 40)
      have HD3 := hide D3'
      have HN3 := hide nb3
      have HX3 := hide bx3
      clear D2 D3 D3' nb3 bx3
      go_wp2_with fail
      refine (ask_dw w _ hb t z1 B G3 most t HD3.out HZ1.out (by omega) (by omega) (by omega) t z2 _ (by rw [if_neg (by omega)]) HD.out.r2).mono ?_
      rintro e w4 ⟨G4, rfl, D4, keep4⟩
      obtain ⟨b34, n34⟩ := keep4 _ _ HX3.out HN3.out
      have nb4 := D4.new
      have bx4 := heapNew w4 (.cells #[.int .u8 2, .int .u64 a2, .int .u64 b2] 40)
      have D4' := D4.box (.cells #[.int .u8 2, .int .u64 a2, .int .u64 b2] 40)
      have HD4 := hide D4'
      have HN4 := hide nb4
      have HX4 := hide bx4
      have HX34 := hide (upB b34 (.cells #[.int .u8 2, .int .u64 a2, .int .u64 b2] 40))
      have HN34 := hide n34
      clear D4 D4' nb4 bx4 b34 n34 keep4 HD3 HX3 HN3
      go_wp2_with fail
      refine (ask_dw w _ hb t z2 B G4 1 t HD4.out HZ2.out (by omega) (by omega) (by omega) t z3 _ (by rw [if_neg (by omega)]) HD.out.r3).mono ?_
      rintro e w5 ⟨G5, rfl, D5, keep5⟩
      obtain ⟨b35, n35⟩ := keep5 _ _ HX34.out HN34.out
      obtain ⟨b45, n45⟩ := keep5 _ _ HX4.out HN4.out
      have e3 := upC b35 (.cells #[.int .u8 3, .int .u64 a3, .int .u64 0] 40)
      have e4 := upC b45 (.cells #[.int .u8 3, .int .u64 a3, .int .u64 0] 40)
      have nb5 := D5.new
      have bx5 := heapNew w5 (.cells #[.int .u8 3, .int .u64 a3, .int .u64 0] 40)
      have D5' := D5.box (.cells #[.int .u8 3, .int .u64 a3, .int .u64 0] 40)
      have HD5 := hide D5'
      have HN5 := hide nb5
      have HX5 := hide bx5
      clear D5 D5' nb5 bx5 b35 b45 n35 n45 keep5 HD4 HX4 HN4 HX34 HN34
      by_cases hm0 : most = 0
      · have ha3 := HD.out.m0 hm0
        subst ha3
        go_wp2_with fail
        go_ret
        exact ⟨rfl, HD5.out.be⟩
      · obtain ⟨g1, g2, g3, g4⟩ := HD.out.m1 hm0
        have HG3 := hide g3
        have HG4 := hide g4
        have ha3n : ¬ a3 = 18446744073709551615 := by omega
        have ha3l : ¬ a3 ≤ t := by omega
        have ha3b : (a3 == 18446744073709551615) = false := by simpa using ha3n
        have hm0b : (most == 0) = false := by simpa using hm0
        have ha3w : IntKind.u64.wrap (a3 - 1) = a3 - 1 := by rw [IntKind.wrap_u64]; omega
        clear g3 g4
        go_wp2_with fail
        refine (ask_dw w _ hb t z3 B G5 1 (a3 - 1) HD5.out HZ3.out (by omega) (by omega) (by omega) (a3 - 1) z3 _ (by split <;> omega) HG3.out).mono ?_
        rintro e w6 ⟨G6, rfl, D6, keep6⟩
        obtain ⟨b56, n56⟩ := keep6 _ _ HX5.out HN5.out
        have e5 := upC b56 (.cells #[.int .u8 3, .int .u64 a3, .int .u64 0] 40)
        have nb6 := D6.new
        have bx6 := heapNew w6 (.cells #[.int .u8 3, .int .u64 a3, .int .u64 0] 40)
        have D6' := D6.box (.cells #[.int .u8 3, .int .u64 a3, .int .u64 0] 40)
        have HD6 := hide D6'
        have HN6 := hide nb6
        have HX6 := hide bx6
        have HX56 := hide (upB b56 (.cells #[.int .u8 3, .int .u64 a3, .int .u64 0] 40))
        have HN56 := hide n56
        obtain ⟨z5, ⟨c5, a5, b5⟩, hr5⟩ : ∃ z5 r5, admM z3 a3 1 = (z5, r5) := ⟨_, _, rfl⟩
        have hrc : c5 = 2 := by have := HG4.out; rw [hr5] at this; exact this
        subst hrc
        have HR5 := hide hr5
        clear D6 D6' nb6 bx6 b56 n56 keep6 HD5 HX5 HN5 e3 e4 hr5
        go_wp2_with fail
        refine (ask_dw w _ hb (a3 - 1) z3 B G6 1 a3 HD6.out HZ3.out (by omega) (by omega) (by omega) a3 z5 ⟨2, a5, b5⟩ (by rw [if_pos (by omega)]) HR5.out).mono ?_
        rintro e w7 ⟨G7, rfl, D7, keep7⟩
        obtain ⟨b57, _⟩ := keep7 _ _ HX56.out HN56.out
        obtain ⟨b67, _⟩ := keep7 _ _ HX6.out HN6.out
        have f5 := upC b57 (.cells #[.int .u8 2, .int .u64 a5, .int .u64 b5] 40)
        have f6 := upC b67 (.cells #[.int .u8 2, .int .u64 a5, .int .u64 b5] 40)
        have D7' := D7.box (.cells #[.int .u8 2, .int .u64 a5, .int .u64 b5] 40)
        have HD7 := hide D7'
        clear D7 D7' keep7 HX56 HX6 HN56 HN6 b57 b67 e5
        go_wp2_with fail
        go_ret
        exact ⟨rfl, HD7.out.be⟩
end Go.Proofs.YtlamgpeiolfffaaGreatDoor
