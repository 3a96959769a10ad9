import Derived.Test.YtlamgpeiolfffaaGreatDoorZy29
set_option linter.unusedSectionVars false
namespace Go.Proofs.YtlamgpeiolfffaaGreatDoor
open Go.RowKit
variable [dK] [iK]

set_option maxRecDepth 100000 in
set_option maxHeartbeats 2000000 in
theorem spaced111 (bb : Nat) (lv : Value) (T : Int) (l : Ln) (n : Int) (w : World) (hb : w.heap[bb]? = some (.cells #[lv, .int .u64 T] 53)) (ho : l.ok) (hk : 1 ≤ l.x) (hn : 0 ≤ n ∧ n ≤ 18446744073709551615) (hT : 0 ≤ T ∧ T ≤ 18446744073709551615) :
    Calls Tryz.prog 111 #[.pointer (some ⟨bb, 0, none⟩), .agg #[.int .u8 l.k.k0, .int .u8 l.k.k1, .int .u8 l.k.k2, .int .u8 l.k.k3, .int .u8 l.k.k4, .int .u8 l.k.k5, .int .u8 l.k.k6, .int .u8 l.k.k7, .int .u8 l.kd, .int .u64 l.x, .int .u64 l.y, .int .u64 l.at_, .int .u64 l.in_], .int .u64 n] w fun e w' => e = .returned (.tuple #[.int .u64 (spacedM T l n).1, .bool (spacedM T l n).2.1, .int .u64 (spacedM T l n).2.2]) ∧ Below w.heap.size w w' := by
  have hx := ho.x
  have hy := ho.y
  have hat := ho.at_
  by_cases hn0 : n = 0
  · subst hn0
    have e : spacedM T l 0 = (l.at_, true, 0) := by unfold spacedM; rw [if_pos rfl]
    rw [e]
    clear e
    go_enter Tryz.func111, Tryz.ntmps111
    go_wp2
    exact bodyPost_ret (v := .tuple #[.int .u64 l.at_, .bool true, .int .u64 0]) (by simp [results, Tryz.results111, go_sem]) rfl ⟨rfl, (Below.refl _ w).alloc (Nat.le_refl _) _⟩
  · have hnb : (n == 0) = false := by simpa using hn0
    obtain ⟨S, hS⟩ : ∃ S, S = if l.at_ < T then T else l.at_ := ⟨_, rfl⟩
    have hSr : 0 ≤ S ∧ S ≤ 18446744073709551615 ∧ T ≤ S ∧ (S = T ∨ S = l.at_) := by rw [hS]; split <;> omega
    have hn1 : IntKind.u64.wrap (n - 1) = n - 1 := by rw [IntKind.wrap_u64]; omega
    obtain ⟨N1, hN1⟩ : ∃ N1, N1 = (n - 1) * l.x := ⟨_, rfl⟩
    obtain ⟨N2, hN2⟩ : ∃ N2, N2 = n * l.x := ⟨_, rfl⟩
    have hN1r : 0 ≤ N1 := by rw [hN1]; exact Int.mul_nonneg (by omega) (by omega)
    have hN12 : N2 = N1 + l.x := by rw [hN1, hN2, Int.sub_mul]; omega
    have h1 := times127 (n - 1) l.x
    have h2 := times127 n l.x
    rw [← hN1] at h1
    rw [← hN2] at h2
    have hsp : spacedM T l n = if 18446744073709551615 < S + N2 ∨ l.y < N1 then (0, false, 18446744073709551615) else if S + N1 ≤ orNever (T + l.y) then (S + N2, true, 0) else (0, false, l.at_ - (l.y - N1)) := by
      unfold spacedM
      rw [if_neg hn0, ← hS, ← hN1, ← hN2]
    have HSP := hide hsp
    have H1 := hide h1
    have H2 := hide h2
    have HS := hide hS
    have HHB := hide hb
    have b0 := upC hb (.cells #[.int .u8 l.k.k0, .int .u8 l.k.k1, .int .u8 l.k.k2, .int .u8 l.k.k3, .int .u8 l.k.k4, .int .u8 l.k.k5, .int .u8 l.k.k6, .int .u8 l.k.k7, .int .u8 l.kd, .int .u64 l.x, .int .u64 l.y, .int .u64 l.at_, .int .u64 l.in_] 139) 1
    clear hsp h1 h2 hS hN1 hN2 hb
    by_cases hlt : l.at_ < T
    · obtain rfl : T = S := by
        have := HS.out
        rw [if_pos hlt] at this
        exact this.symm
      clear HS
      go_enter Tryz.func111, Tryz.ntmps111
      go_wp2_with fail
      refine (H1.out _ (by omega) (by omega)).mono ?_
      rintro e w1 ⟨rfl, rfl⟩
      go_wp2_with fail
      refine (H2.out _ (by omega) (by omega)).mono ?_
      rintro e w1 ⟨rfl, rfl⟩
      obtain ⟨M1, hM1⟩ : ∃ M1, M1 = orNever N1 := ⟨_, rfl⟩
      obtain ⟨M2, hM2⟩ : ∃ M2, M2 = orNever N2 := ⟨_, rfl⟩
      have hM1r : 0 ≤ M1 ∧ M1 ≤ 18446744073709551615 := by rw [hM1]; unfold orNever; split <;> omega
      have hM2r : 0 ≤ M2 ∧ M2 ≤ 18446744073709551615 := by rw [hM2]; unfold orNever; split <;> omega
      obtain ⟨o1, ho1⟩ : ∃ o1, o1 = decide (N1 ≤ 18446744073709551615) := ⟨_, rfl⟩
      obtain ⟨o2, ho2⟩ : ∃ o2, o2 = decide (N2 ≤ 18446744073709551615) := ⟨_, rfl⟩
      rw [← ho1, ← ho2, ← hM1, ← hM2]
      have HM1 := hide hM1
      have HM2 := hide hM2
      have HO1 := hide ho1
      have HO2 := hide ho2
      clear hM1 hM2 ho1 ho2
      go_wp2_with fail
      refine (plus128 T M1 _ (by omega) hM1r).mono ?_
      rintro e w1 ⟨rfl, rfl⟩
      go_wp2_with fail
      refine (plus128 T M2 _ (by omega) hM2r).mono ?_
      rintro e w1 ⟨rfl, rfl⟩
      obtain ⟨P1, hP1⟩ : ∃ P1, P1 = orNever (T + M1) := ⟨_, rfl⟩
      obtain ⟨P2, hP2⟩ : ∃ P2, P2 = orNever (T + M2) := ⟨_, rfl⟩
      obtain ⟨o3, ho3⟩ : ∃ o3, o3 = decide (T + M1 ≤ 18446744073709551615) := ⟨_, rfl⟩
      obtain ⟨o4, ho4⟩ : ∃ o4, o4 = decide (T + M2 ≤ 18446744073709551615) := ⟨_, rfl⟩
      rw [← ho3, ← ho4, ← hP1, ← hP2]
      have HP1 := hide hP1
      have HP2 := hide hP2
      have HO3 := hide ho3
      have HO4 := hide ho4
      clear hP1 hP2 ho3 ho4
      by_cases hbad : 18446744073709551615 < T + N2 ∨ l.y < N1
      · have e := HSP.out
        rw [if_pos hbad] at e
        have HE := hide e
        have hc : o1 = false ∨ (o1 = true ∧ o2 = false) ∨ (o1 = true ∧ o2 = true ∧ o3 = false) ∨ (o1 = true ∧ o2 = true ∧ o3 = true ∧ o4 = false) ∨ (o1 = true ∧ o2 = true ∧ o3 = true ∧ o4 = true ∧ l.y < M1) := by
          have g1 := HO1.out
          have g2 := HO2.out
          have g3 := HO3.out
          have g4 := HO4.out
          have k1 := HM1.out
          have k2 := HM2.out
          cases o1
          · exact Or.inl rfl
          · cases o2
            · exact Or.inr (Or.inl ⟨rfl, rfl⟩)
            · cases o3
              · exact Or.inr (Or.inr (Or.inl ⟨rfl, rfl, rfl⟩))
              · cases o4
                · exact Or.inr (Or.inr (Or.inr (Or.inl ⟨rfl, rfl, rfl, rfl⟩)))
                · refine Or.inr (Or.inr (Or.inr (Or.inr ⟨rfl, rfl, rfl, rfl, ?_⟩)))
                  have g1' := of_decide_eq_true g1.symm
                  have g2' := of_decide_eq_true g2.symm
                  have g4' := of_decide_eq_true g4.symm
                  unfold orNever at k1 k2
                  rw [if_pos g1'] at k1
                  rw [if_pos g2'] at k2
                  omega
        clear e hbad HO1 HO2 HO3 HO4 HP1 HP2 HM1 HM2 HSP hN12 hSr
        rcases hc with rfl | ⟨rfl, rfl⟩ | ⟨rfl, rfl, rfl⟩ | ⟨rfl, rfl, rfl, rfl⟩ | ⟨rfl, rfl, rfl, rfl, hlm⟩
        all_goals go_wp2
        all_goals exact bodyPost_ret (v := .tuple #[.int .u64 0, .bool false, .int .u64 18446744073709551615]) (by simp [results, Tryz.results111, go_sem]) rfl ⟨by rw [HE.out], (Below.refl _ w).alloc (Nat.le_refl _) _⟩
      · have e := HSP.out
        rw [if_neg hbad] at e
        have hM1e : M1 = N1 := by rw [HM1.out]; unfold orNever; rw [if_pos (by omega)]
        have hM2e : M2 = N2 := by rw [HM2.out]; unfold orNever; rw [if_pos (by omega)]
        have hP1e : P1 = T + N1 := by rw [HP1.out, hM1e]; unfold orNever; rw [if_pos (by omega)]
        have hP2e : P2 = T + N2 := by rw [HP2.out, hM2e]; unfold orNever; rw [if_pos (by omega)]
        have ho1 : o1 = true := by rw [HO1.out]; simp; omega
        have ho2 : o2 = true := by rw [HO2.out]; simp; omega
        have ho3 : o3 = true := by rw [HO3.out, hM1e]; simp; omega
        have ho4 : o4 = true := by rw [HO4.out, hM2e]; simp; omega
        have hny : ¬ l.y < M1 := by omega
        have hpt := plus128 T l.y
        obtain ⟨Q, hQ⟩ : ∃ Q, Q = orNever (T + l.y) := ⟨_, rfl⟩
        rw [← hQ] at hpt e
        have HPT := hide hpt
        have HE := hide e
        have hQ2 : T + l.y ≤ Q ∨ Q = 18446744073709551615 := by rw [hQ]; unfold orNever; split <;> omega
        subst ho1 ho2 ho3 ho4
        clear HO1 HO2 HO3 HO4 HM1 HM2 HP1 HP2 HSP hpt e hQ
        have hT1 : 0 ≤ T ∧ T ≤ 18446744073709551615 := hT
        by_cases hq : T + N1 ≤ Q
        · have e := HE.out
          rw [if_pos hq, ← hP2e] at e
          have HE2 := hide e
          have hq' : P1 ≤ Q := by omega
          clear e HE hq hM1e hM2e hP1e hP2e hSr hQ2 hN12 hbad
          go_wp2_with fail
          go_region_with (go_at_call 128; refine (HPT.out _ hT1 hy).mono ?_; rintro e w1 ⟨rfl, rfl⟩)
          all_goals go_wp2
          all_goals exact bodyPost_ret (v := .tuple #[.int .u64 P2, .bool true, .int .u64 0]) (by simp [results, Tryz.results111, go_sem]) rfl ⟨by rw [HE2.out], ((Below.refl _ w).alloc (Nat.le_refl _) _).drew⟩
        · have e := HE.out
          rw [if_neg hq, ← hM1e] at e
          have HE2 := hide e
          have hq' : ¬ P1 ≤ Q := by omega
          have hw1 : IntKind.u64.wrap (l.y - M1) = l.y - M1 := by rw [IntKind.wrap_u64]; omega
          have hw2 : IntKind.u64.wrap (l.at_ - (l.y - M1)) = l.at_ - (l.y - M1) := by rw [IntKind.wrap_u64]; omega
          clear e HE hq hM1e hM2e hP1e hP2e hSr hQ2 hN12 hbad
          go_wp2_with fail
          go_region_with (go_at_call 128; refine (HPT.out _ hT1 hy).mono ?_; rintro e w1 ⟨rfl, rfl⟩)
          all_goals go_wp2_with fail
          all_goals go_region
          all_goals go_wp2
          all_goals exact bodyPost_ret (v := .tuple #[.int .u64 0, .bool false, .int .u64 (l.at_ - (l.y - M1))]) (by simp [results, Tryz.results111, go_sem]) rfl ⟨by rw [HE2.out], ((Below.refl _ w).alloc (Nat.le_refl _) _).drew.drew⟩
    · obtain rfl : S = l.at_ := by
        have := HS.out
        rw [if_neg hlt] at this
        exact this
      clear HS
      go_enter Tryz.func111, Tryz.ntmps111
      go_wp2_with fail
      refine (H1.out _ (by omega) (by omega)).mono ?_
      rintro e w1 ⟨rfl, rfl⟩
      go_wp2_with fail
      refine (H2.out _ (by omega) (by omega)).mono ?_
      rintro e w1 ⟨rfl, rfl⟩
      obtain ⟨M1, hM1⟩ : ∃ M1, M1 = orNever N1 := ⟨_, rfl⟩
      obtain ⟨M2, hM2⟩ : ∃ M2, M2 = orNever N2 := ⟨_, rfl⟩
      have hM1r : 0 ≤ M1 ∧ M1 ≤ 18446744073709551615 := by rw [hM1]; unfold orNever; split <;> omega
      have hM2r : 0 ≤ M2 ∧ M2 ≤ 18446744073709551615 := by rw [hM2]; unfold orNever; split <;> omega
      obtain ⟨o1, ho1⟩ : ∃ o1, o1 = decide (N1 ≤ 18446744073709551615) := ⟨_, rfl⟩
      obtain ⟨o2, ho2⟩ : ∃ o2, o2 = decide (N2 ≤ 18446744073709551615) := ⟨_, rfl⟩
      rw [← ho1, ← ho2, ← hM1, ← hM2]
      have HM1 := hide hM1
      have HM2 := hide hM2
      have HO1 := hide ho1
      have HO2 := hide ho2
      clear hM1 hM2 ho1 ho2
      go_wp2_with fail
      refine (plus128 l.at_ M1 _ (by omega) hM1r).mono ?_
      rintro e w1 ⟨rfl, rfl⟩
      go_wp2_with fail
      refine (plus128 l.at_ M2 _ (by omega) hM2r).mono ?_
      rintro e w1 ⟨rfl, rfl⟩
      obtain ⟨P1, hP1⟩ : ∃ P1, P1 = orNever (l.at_ + M1) := ⟨_, rfl⟩
      obtain ⟨P2, hP2⟩ : ∃ P2, P2 = orNever (l.at_ + M2) := ⟨_, rfl⟩
      obtain ⟨o3, ho3⟩ : ∃ o3, o3 = decide (l.at_ + M1 ≤ 18446744073709551615) := ⟨_, rfl⟩
      obtain ⟨o4, ho4⟩ : ∃ o4, o4 = decide (l.at_ + M2 ≤ 18446744073709551615) := ⟨_, rfl⟩
      rw [← ho3, ← ho4, ← hP1, ← hP2]
      have HP1 := hide hP1
      have HP2 := hide hP2
      have HO3 := hide ho3
      have HO4 := hide ho4
      clear hP1 hP2 ho3 ho4
      by_cases hbad : 18446744073709551615 < l.at_ + N2 ∨ l.y < N1
      · have e := HSP.out
        rw [if_pos hbad] at e
        have HE := hide e
        have hc : o1 = false ∨ (o1 = true ∧ o2 = false) ∨ (o1 = true ∧ o2 = true ∧ o3 = false) ∨ (o1 = true ∧ o2 = true ∧ o3 = true ∧ o4 = false) ∨ (o1 = true ∧ o2 = true ∧ o3 = true ∧ o4 = true ∧ l.y < M1) := by
          have g1 := HO1.out
          have g2 := HO2.out
          have g3 := HO3.out
          have g4 := HO4.out
          have k1 := HM1.out
          have k2 := HM2.out
          cases o1
          · exact Or.inl rfl
          · cases o2
            · exact Or.inr (Or.inl ⟨rfl, rfl⟩)
            · cases o3
              · exact Or.inr (Or.inr (Or.inl ⟨rfl, rfl, rfl⟩))
              · cases o4
                · exact Or.inr (Or.inr (Or.inr (Or.inl ⟨rfl, rfl, rfl, rfl⟩)))
                · refine Or.inr (Or.inr (Or.inr (Or.inr ⟨rfl, rfl, rfl, rfl, ?_⟩)))
                  have g1' := of_decide_eq_true g1.symm
                  have g2' := of_decide_eq_true g2.symm
                  have g4' := of_decide_eq_true g4.symm
                  unfold orNever at k1 k2
                  rw [if_pos g1'] at k1
                  rw [if_pos g2'] at k2
                  omega
        clear e hbad HO1 HO2 HO3 HO4 HP1 HP2 HM1 HM2 HSP hN12 hSr
        rcases hc with rfl | ⟨rfl, rfl⟩ | ⟨rfl, rfl, rfl⟩ | ⟨rfl, rfl, rfl, rfl⟩ | ⟨rfl, rfl, rfl, rfl, hlm⟩
        all_goals go_wp2
        all_goals exact bodyPost_ret (v := .tuple #[.int .u64 0, .bool false, .int .u64 18446744073709551615]) (by simp [results, Tryz.results111, go_sem]) rfl ⟨by rw [HE.out], (Below.refl _ w).alloc (Nat.le_refl _) _⟩
      · have e := HSP.out
        rw [if_neg hbad] at e
        have hM1e : M1 = N1 := by rw [HM1.out]; unfold orNever; rw [if_pos (by omega)]
        have hM2e : M2 = N2 := by rw [HM2.out]; unfold orNever; rw [if_pos (by omega)]
        have hP1e : P1 = l.at_ + N1 := by rw [HP1.out, hM1e]; unfold orNever; rw [if_pos (by omega)]
        have hP2e : P2 = l.at_ + N2 := by rw [HP2.out, hM2e]; unfold orNever; rw [if_pos (by omega)]
        have ho1 : o1 = true := by rw [HO1.out]; simp; omega
        have ho2 : o2 = true := by rw [HO2.out]; simp; omega
        have ho3 : o3 = true := by rw [HO3.out, hM1e]; simp; omega
        have ho4 : o4 = true := by rw [HO4.out, hM2e]; simp; omega
        have hny : ¬ l.y < M1 := by omega
        have hpt := plus128 T l.y
        obtain ⟨Q, hQ⟩ : ∃ Q, Q = orNever (T + l.y) := ⟨_, rfl⟩
        rw [← hQ] at hpt e
        have HPT := hide hpt
        have HE := hide e
        have hQ2 : T + l.y ≤ Q ∨ Q = 18446744073709551615 := by rw [hQ]; unfold orNever; split <;> omega
        subst ho1 ho2 ho3 ho4
        clear HO1 HO2 HO3 HO4 HM1 HM2 HP1 HP2 HSP hpt e hQ
        have hT1 : 0 ≤ T ∧ T ≤ 18446744073709551615 := hT
        by_cases hq : l.at_ + N1 ≤ Q
        · have e := HE.out
          rw [if_pos hq, ← hP2e] at e
          have HE2 := hide e
          have hq' : P1 ≤ Q := by omega
          clear e HE hq hM1e hM2e hP1e hP2e hSr hQ2 hN12 hbad
          go_wp2_with fail
          go_region_with (go_at_call 128; refine (HPT.out _ hT1 hy).mono ?_; rintro e w1 ⟨rfl, rfl⟩)
          all_goals go_wp2
          all_goals exact bodyPost_ret (v := .tuple #[.int .u64 P2, .bool true, .int .u64 0]) (by simp [results, Tryz.results111, go_sem]) rfl ⟨by rw [HE2.out], ((Below.refl _ w).alloc (Nat.le_refl _) _).drew⟩
        · have e := HE.out
          rw [if_neg hq, ← hM1e] at e
          have HE2 := hide e
          have hq' : ¬ P1 ≤ Q := by omega
          have hw1 : IntKind.u64.wrap (l.y - M1) = l.y - M1 := by rw [IntKind.wrap_u64]; omega
          have hw2 : IntKind.u64.wrap (l.at_ - (l.y - M1)) = l.at_ - (l.y - M1) := by rw [IntKind.wrap_u64]; omega
          clear e HE hq hM1e hM2e hP1e hP2e hSr hQ2 hN12 hbad
          go_wp2_with fail
          go_region_with (go_at_call 128; refine (HPT.out _ hT1 hy).mono ?_; rintro e w1 ⟨rfl, rfl⟩)
          all_goals go_wp2_with fail
          all_goals go_region
          all_goals go_wp2
          all_goals exact bodyPost_ret (v := .tuple #[.int .u64 0, .bool false, .int .u64 (l.at_ - (l.y - M1))]) (by simp [results, Tryz.results111, go_sem]) rfl ⟨by rw [HE2.out], ((Below.refl _ w).alloc (Nat.le_refl _) _).drew.drew⟩
end Go.Proofs.YtlamgpeiolfffaaGreatDoor
