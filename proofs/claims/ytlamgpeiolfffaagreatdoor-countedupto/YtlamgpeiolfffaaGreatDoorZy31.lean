import Derived.Test.YtlamgpeiolfffaaGreatDoorZy29
set_option linter.unusedSectionVars false
namespace Go.Proofs.YtlamgpeiolfffaaGreatDoor
open Go.RowKit
variable [dK] [iK]

set_option maxRecDepth 100000 in
set_option maxHeartbeats 2000000 in
theorem windowed112 (bb base : Nat) (lv : Value) (B : Bk) (i : Nat) (l : Ln) (n : Int) (w : World) (h : BookAt w bb base lv B) (hi : B.ls[i]? = some l) (hl : B.ls.length ≤ 12) (ho : l.ok) (hk : ¬ l.kd = 1) (hn : 0 ≤ n ∧ n ≤ 18446744073709551615) (hT : 0 ≤ B.time ∧ B.time ≤ 18446744073709551615) :
    Calls Tryz.prog 112 #[.pointer (some ⟨bb, 0, none⟩), .int .i64 i, .int .u64 n] w fun e w' => e = .returned (.tuple #[.int .u64 (windowedM B.time l n).1, .bool (windowedM B.time l n).2.1, .int .u64 (windowedM B.time l n).2.2]) ∧ Below w.heap.size w w' := by
  obtain ⟨W0, hW0⟩ : ∃ W0, W0 = w.alloc (.cells #[.int .u8 l.k.k0, .int .u8 l.k.k1, .int .u8 l.k.k2, .int .u8 l.k.k3, .int .u8 l.k.k4, .int .u8 l.k.k5, .int .u8 l.k.k6, .int .u8 l.k.k7, .int .u8 l.kd, .int .u64 l.x, .int .u64 l.y, .int .u64 l.at_, .int .u64 l.in_] 139) := ⟨_, rfl⟩
  have hbx : W0.heap[w.heap.size]? = some (.cells #[.int .u8 l.k.k0, .int .u8 l.k.k1, .int .u8 l.k.k2, .int .u8 l.k.k3, .int .u8 l.k.k4, .int .u8 l.k.k5, .int .u8 l.k.k6, .int .u8 l.k.k7, .int .u8 l.kd, .int .u64 l.x, .int .u64 l.y, .int .u64 l.at_, .int .u64 l.in_] 139) := hW0 ▸ heapNew _ _
  have hB0 : Below w.heap.size w W0 := hW0 ▸ (Below.refl _ w).alloc (Nat.le_refl _) _
  have hA0 := h.below hB0 (Nat.le_refl _)
  have h85 := stands85 bb base lv B i l W0 hA0 hi hl ho hT
  obtain ⟨g, cap, rfl, _, hgl, L, hlt⟩ := h.open hi
  obtain ⟨d0, d1, d2, d3, d4, d5, d6, d7, d8, d9, d10, d11, d12⟩ := L
  have a1 := cellB h.hb 0
  have hlt' : (i : Int) < (B.ls.length : Int) := by omega
  have hl' : (B.ls.length : Int) ≤ 12 := by omega
  have hi0 : (0 : Int) ≤ (i : Int) := by omega
  have hx := ho.x
  have hy := ho.y
  have hyp := ho.yp hk
  have hs2 : (standsM B.time l).2 = B.time / l.y := by unfold standsM; rw [if_neg hk]; split <;> rfl
  have hs1 : 0 ≤ (standsM B.time l).1 ∧ (standsM B.time l).1 ≤ 18446744073709551615 := by
    have := ho.at_
    unfold standsM
    rw [if_neg hk]
    split <;> dsimp only <;> omega
  have hd0 : 0 ≤ B.time / l.y := Int.ediv_nonneg (by omega) (by omega)
  have hd1 : B.time / l.y ≤ B.time := Int.ediv_le_self _ (by omega)
  have hwm : windowedM B.time l n = if (standsM B.time l).1 + n ≤ l.x then ((standsM B.time l).1 + n, true, 0) else if l.x < n then (0, false, 18446744073709551615) else (0, false, orNever (((standsM B.time l).2 + 1) * l.y)) := by
    unfold windowedM; rw [hs2]
  obtain ⟨C, hC⟩ : ∃ C, C = (standsM B.time l).1 := ⟨_, rfl⟩
  obtain ⟨Wn, hWn⟩ : ∃ Wn, Wn = (standsM B.time l).2 := ⟨_, rfl⟩
  rw [← hC, ← hWn] at h85 hwm
  rw [← hC] at hs1
  have hwr : 0 ≤ Wn ∧ Wn ≤ 18446744073709551615 := by rw [hWn, hs2]; omega
  obtain ⟨m, hm⟩ : ∃ m, m = B.ls.length := ⟨_, rfl⟩
  rw [← hm] at hlt' hl' a1
  have hp1 := plus128 C n
  have hp2 := plus128 Wn 1
  have ht1 := times127 (orNever (Wn + 1)) l.y
  have H85 := hide h85
  have HW := hide hwm
  have HB0 := hide hB0
  have HBX := hide hbx
  have HP1 := hide hp1
  have HP2 := hide hp2
  have HT1 := hide ht1
  clear h85 hwm hB0 hbx hp1 hp2 ht1 hC hWn hm hi hl hlt hA0 h ho hs2 hd0 hd1
  go_enter Tryz.func112, Tryz.ntmps112
  go_wp2_with fail
  rw [← hW0]
  clear hW0
  refine H85.out.mono ?_
  rintro e w1 ⟨rfl, hb1⟩
  have hbx1 := (hb1.block _ (ltB HBX.out)).trans HBX.out
  have x1 := cellB hbx1
  have HBW := hide (HB0.out.trans (hb1.mono HB0.out.size))
  clear hb1 hbx1 d0 d1 d2 d3 d4 d5 d6 d7 d8 d9 d10 d11 d12 a1
  go_wp2_with fail
  refine (HP1.out _ hs1 hn).mono ?_
  rintro e w2 ⟨rfl, rfl⟩
  by_cases c1 : C + n ≤ l.x
  · have e := HW.out
    rw [if_pos c1] at e
    have HE := hide e
    have e1 : orNever (C + n) = C + n := by unfold orNever; rw [if_pos (by omega)]
    have e2 : decide (C + n ≤ 18446744073709551615) = true := by simp; omega
    rw [e1, e2]
    clear e e1 e2 HW
    go_wp2
    exact bodyPost_ret (v := .tuple #[.int .u64 (C + n), .bool true, .int .u64 0]) (by simp [results, Tryz.results112, go_sem]) rfl ⟨by rw [HE.out], HBW.out⟩
  · obtain ⟨o1, ho1⟩ : ∃ o1, o1 = decide (C + n ≤ 18446744073709551615) := ⟨_, rfl⟩
    obtain ⟨S1, hS1⟩ : ∃ S1, S1 = orNever (C + n) := ⟨_, rfl⟩
    have hS1n : o1 = true → ¬ S1 ≤ l.x := fun h => by
      rw [ho1] at h
      have := of_decide_eq_true h
      rw [hS1]; unfold orNever; rw [if_pos this]; exact c1
    rw [← ho1, ← hS1]
    clear ho1 hS1
    by_cases c2 : l.x < n
    · have e := HW.out
      rw [if_neg c1, if_pos c2] at e
      have HE := hide e
      clear e HW c1
      cases o1 with
      | true =>
        have hs := hS1n rfl
        clear hS1n
        go_wp2
        exact bodyPost_ret (v := .tuple #[.int .u64 0, .bool false, .int .u64 18446744073709551615]) (by simp [results, Tryz.results112, go_sem]) rfl ⟨by rw [HE.out], HBW.out⟩
      | false =>
        clear hS1n
        go_wp2
        exact bodyPost_ret (v := .tuple #[.int .u64 0, .bool false, .int .u64 18446744073709551615]) (by simp [results, Tryz.results112, go_sem]) rfl ⟨by rw [HE.out], HBW.out⟩
    · have e := HW.out
      rw [if_neg c1, if_neg c2] at e
      have HE := hide e
      have hor : 0 ≤ orNever (Wn + 1) ∧ orNever (Wn + 1) ≤ 18446744073709551615 := by unfold orNever; split <;> omega
      clear e HW c1
      cases o1 with
      | true =>
        have hs := hS1n rfl
        clear hS1n
        go_wp2_with fail
        refine (HP2.out _ hwr (by omega)).mono ?_
        rintro e w3 ⟨rfl, rfl⟩
        go_wp2_with fail
        refine (HT1.out _ hor (by omega)).mono ?_
        rintro e w4 ⟨rfl, rfl⟩
        by_cases c3 : Wn + 1 ≤ 18446744073709551615 ∧ (Wn + 1) * l.y ≤ 18446744073709551615
        · have e1 : orNever (Wn + 1) = Wn + 1 := by unfold orNever; rw [if_pos c3.1]
          have e2 : decide (Wn + 1 ≤ 18446744073709551615) = true := by simpa using c3.1
          have e3 : decide ((Wn + 1) * l.y ≤ 18446744073709551615) = true := by simpa using c3.2
          rw [e1, e2, e3]
          clear e1 e2 e3 c3
          obtain ⟨R, hR⟩ : ∃ R, R = orNever ((Wn + 1) * l.y) := ⟨_, rfl⟩
          have HE2 := HE.out
          rw [← hR] at HE2 ⊢
          have HE3 := hide HE2
          clear HE2 hR
          go_wp2
          exact bodyPost_ret (v := .tuple #[.int .u64 0, .bool false, .int .u64 R]) (by simp [results, Tryz.results112, go_sem]) rfl ⟨by rw [HE3.out], HBW.out⟩
        · have hNV : orNever ((Wn + 1) * l.y) = 18446744073709551615 := by
            unfold orNever
            split
            · rename_i hle
              have hge : (Wn + 1) * 1 ≤ (Wn + 1) * l.y := Int.mul_le_mul_of_nonneg_left hyp (by omega)
              exact absurd ⟨by omega, hle⟩ c3
            · rfl
          have HE2 := HE.out
          rw [hNV] at HE2
          have HE3 := hide HE2
          have hoo : decide (Wn + 1 ≤ 18446744073709551615) = false ∨ (decide (Wn + 1 ≤ 18446744073709551615) = true ∧ decide (orNever (Wn + 1) * l.y ≤ 18446744073709551615) = false) := by
            by_cases h1 : Wn + 1 ≤ 18446744073709551615
            · right
              refine ⟨by simpa using h1, ?_⟩
              have e1 : orNever (Wn + 1) = Wn + 1 := by unfold orNever; rw [if_pos h1]
              rw [e1]
              simpa using fun h2 => c3 ⟨h1, h2⟩
            · left; simpa using h1
          obtain ⟨q1, hq1⟩ : ∃ q1, q1 = decide (Wn + 1 ≤ 18446744073709551615) := ⟨_, rfl⟩
          obtain ⟨q2, hq2⟩ : ∃ q2, q2 = decide (orNever (Wn + 1) * l.y ≤ 18446744073709551615) := ⟨_, rfl⟩
          obtain ⟨R1, hR1⟩ : ∃ R1, R1 = orNever (orNever (Wn + 1) * l.y) := ⟨_, rfl⟩
          obtain ⟨R2, hR2⟩ : ∃ R2, R2 = orNever (Wn + 1) := ⟨_, rfl⟩
          rw [← hq1, ← hq2] at hoo
          rw [← hR1, ← hq2, ← hq1, ← hR2]
          clear hq1 hq2 HE2 hNV c3 hR1 hR2 hor
          rcases hoo with rfl | ⟨rfl, rfl⟩
          all_goals go_wp2
          all_goals exact bodyPost_ret (v := .tuple #[.int .u64 0, .bool false, .int .u64 18446744073709551615]) (by simp [results, Tryz.results112, go_sem]) rfl ⟨by rw [HE3.out], HBW.out⟩
      | false =>
        clear hS1n
        go_wp2_with fail
        refine (HP2.out _ hwr (by omega)).mono ?_
        rintro e w3 ⟨rfl, rfl⟩
        go_wp2_with fail
        refine (HT1.out _ hor (by omega)).mono ?_
        rintro e w4 ⟨rfl, rfl⟩
        by_cases c3 : Wn + 1 ≤ 18446744073709551615 ∧ (Wn + 1) * l.y ≤ 18446744073709551615
        · have e1 : orNever (Wn + 1) = Wn + 1 := by unfold orNever; rw [if_pos c3.1]
          have e2 : decide (Wn + 1 ≤ 18446744073709551615) = true := by simpa using c3.1
          have e3 : decide ((Wn + 1) * l.y ≤ 18446744073709551615) = true := by simpa using c3.2
          rw [e1, e2, e3]
          clear e1 e2 e3 c3
          obtain ⟨R, hR⟩ : ∃ R, R = orNever ((Wn + 1) * l.y) := ⟨_, rfl⟩
          have HE2 := HE.out
          rw [← hR] at HE2 ⊢
          have HE3 := hide HE2
          clear HE2 hR
          go_wp2
          exact bodyPost_ret (v := .tuple #[.int .u64 0, .bool false, .int .u64 R]) (by simp [results, Tryz.results112, go_sem]) rfl ⟨by rw [HE3.out], HBW.out⟩
        · have hNV : orNever ((Wn + 1) * l.y) = 18446744073709551615 := by
            unfold orNever
            split
            · rename_i hle
              have hge : (Wn + 1) * 1 ≤ (Wn + 1) * l.y := Int.mul_le_mul_of_nonneg_left hyp (by omega)
              exact absurd ⟨by omega, hle⟩ c3
            · rfl
          have HE2 := HE.out
          rw [hNV] at HE2
          have HE3 := hide HE2
          have hoo : decide (Wn + 1 ≤ 18446744073709551615) = false ∨ (decide (Wn + 1 ≤ 18446744073709551615) = true ∧ decide (orNever (Wn + 1) * l.y ≤ 18446744073709551615) = false) := by
            by_cases h1 : Wn + 1 ≤ 18446744073709551615
            · right
              refine ⟨by simpa using h1, ?_⟩
              have e1 : orNever (Wn + 1) = Wn + 1 := by unfold orNever; rw [if_pos h1]
              rw [e1]
              simpa using fun h2 => c3 ⟨h1, h2⟩
            · left; simpa using h1
          obtain ⟨q1, hq1⟩ : ∃ q1, q1 = decide (Wn + 1 ≤ 18446744073709551615) := ⟨_, rfl⟩
          obtain ⟨q2, hq2⟩ : ∃ q2, q2 = decide (orNever (Wn + 1) * l.y ≤ 18446744073709551615) := ⟨_, rfl⟩
          obtain ⟨R1, hR1⟩ : ∃ R1, R1 = orNever (orNever (Wn + 1) * l.y) := ⟨_, rfl⟩
          obtain ⟨R2, hR2⟩ : ∃ R2, R2 = orNever (Wn + 1) := ⟨_, rfl⟩
          rw [← hq1, ← hq2] at hoo
          rw [← hR1, ← hq2, ← hq1, ← hR2]
          clear hq1 hq2 HE2 hNV c3 hR1 hR2 hor
          rcases hoo with rfl | ⟨rfl, rfl⟩
          all_goals go_wp2
          all_goals exact bodyPost_ret (v := .tuple #[.int .u64 0, .bool false, .int .u64 18446744073709551615]) (by simp [results, Tryz.results112, go_sem]) rfl ⟨by rw [HE3.out], HBW.out⟩
end Go.Proofs.YtlamgpeiolfffaaGreatDoor
