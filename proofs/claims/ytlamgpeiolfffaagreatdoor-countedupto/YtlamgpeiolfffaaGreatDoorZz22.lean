import Derived.Test.YtlamgpeiolfffaaGreatDoorZz21
import Derived.Deep.RegionLaw
namespace Go.Proofs.YtlamgpeiolfffaaGreatDoor
open Go.RowKit

set_option maxRecDepth 100000 in
set_option maxHeartbeats 2000000 in
theorem windowed112 (bb base : Nat) (lv : Value) (B : Bk) (i : Nat) (l : Ln) (n : Int) (w : World) (h : BookAt w bb base lv B) (hi : B.ls[i]? = some l) (hl : B.ls.length ≤ 12) (ho : l.ok) (hk : ¬ l.kd = 1) (hn : 0 ≤ n ∧ n ≤ 18446744073709551615) (hT : 0 ≤ B.time ∧ B.time ≤ 18446744073709551615) :
    Calls Tryz.prog 112 #[.pointer (some ⟨bb, 0, none⟩), .int .i64 i, .int .u64 n] w fun e w' => e = .returned (.tuple #[.int .u64 (windowedM B.time l n).1, .bool (windowedM B.time l n).2.1, .int .u64 (windowedM B.time l n).2.2]) ∧ Below w.heap.size w w' := by
  obtain ⟨W0, hW0⟩ : ∃ W0, W0 = w.alloc (.cells #[.int .u8 l.k.k0, .int .u8 l.k.k1, .int .u8 l.k.k2, .int .u8 l.k.k3, .int .u8 l.k.k4, .int .u8 l.k.k5, .int .u8 l.k.k6, .int .u8 l.k.k7, .int .u8 l.kd, .int .u64 l.x, .int .u64 l.y, .int .u64 l.at_, .int .u64 l.in_] 139) := ⟨_, rfl⟩
  have hbx : W0.heap[w.heap.size]? = some (.cells #[.int .u8 l.k.k0, .int .u8 l.k.k1, .int .u8 l.k.k2, .int .u8 l.k.k3, .int .u8 l.k.k4, .int .u8 l.k.k5, .int .u8 l.k.k6, .int .u8 l.k.k7, .int .u8 l.kd, .int .u64 l.x, .int .u64 l.y, .int .u64 l.at_, .int .u64 l.in_] 139) := hW0 ▸ heapNew _ _
  have hB0 : Below w.heap.size w W0 := hW0 ▸ (Below.refl _ w).alloc (Nat.le_refl _) _
  have hA0 := h.below hB0 (Nat.le_refl _)
  have h85 := stands85 bb base lv B i l W0 hA0 hi hl ho hT
  obtain ⟨g, cap, rfl, _, hgl, L, hlt⟩ := h.open hi
  obtain ⟨d0, d1, d2, d3, d4, d5, d6, d7, d8, d9, d10, d11, d12⟩ := L
  have a1 := cellB h.hb 0
  have hlt' : (i : Int) < (B.ls.length : Int) := by omega
  have hl' : (B.ls.length : Int) ≤ 12 := by omega
  have hi0 : (0 : Int) ≤ (i : Int) := by omega
  have hx := ho.x
  have hy := ho.y
  have hyp := ho.yp hk
  have hs2 : (standsM B.time l).2 = B.time / l.y := by unfold standsM; rw [if_neg hk]; split <;> rfl
  have hs1 : 0 ≤ (standsM B.time l).1 ∧ (standsM B.time l).1 ≤ 18446744073709551615 := by
    have := ho.at_
    unfold standsM
    rw [if_neg hk]
    split <;> dsimp only <;> omega
  have hd0 : 0 ≤ B.time / l.y := Int.ediv_nonneg (by omega) (by omega)
  have hd1 : B.time / l.y ≤ B.time := Int.ediv_le_self _ (by omega)
  have hwm : windowedM B.time l n = if (standsM B.time l).1 + n ≤ l.x then ((standsM B.time l).1 + n, true, 0) else if l.x < n then (0, false, 18446744073709551615) else (0, false, orNever (((standsM B.time l).2 + 1) * l.y)) := by
    unfold windowedM; rw [hs2]
  obtain ⟨C, hC⟩ : ∃ C, C = (standsM B.time l).1 := ⟨_, rfl⟩
  obtain ⟨Wn, hWn⟩ : ∃ Wn, Wn = (standsM B.time l).2 := ⟨_, rfl⟩
  rw [← hC, ← hWn] at h85 hwm
  rw [← hC] at hs1
  have hwr : 0 ≤ Wn ∧ Wn ≤ 18446744073709551615 := by rw [hWn, hs2]; omega
  obtain ⟨m, hm⟩ : ∃ m, m = B.ls.length := ⟨_, rfl⟩
  rw [← hm] at hlt' hl' a1
  have hp1 := plus128 C n
  have hp2 := plus128 Wn 1
  have ht1 := times127 (orNever (Wn + 1)) l.y
  have H85 := hide h85
  have HW := hide hwm
  have HB0 := hide hB0
  have HBX := hide hbx
  have HP1 := hide hp1
  have HP2 := hide hp2
  have HT1 := hide ht1
  clear h85 hwm hB0 hbx hp1 hp2 ht1 hC hWn hm hi hl hlt hA0 h ho hs2 hd0 hd1
  go_enter Tryz.func112, Tryz.ntmps112
  go_wp2_with fail
  rw [← hW0]
  clear hW0
  refine H85.out.mono ?_
  rintro e w1 ⟨rfl, hb1⟩
  have hbx1 := (hb1.block _ (ltB HBX.out)).trans HBX.out
  have x1 := cellB hbx1
  have HBW := hide (HB0.out.trans (hb1.mono HB0.out.size))
  clear hb1 hbx1 d0 d1 d2 d3 d4 d5 d6 d7 d8 d9 d10 d11 d12 a1
  go_wp2_with fail
  refine (HP1.out _ hs1 hn).mono ?_
  rintro e w2 ⟨rfl, rfl⟩
  by_cases c1 : C + n ≤ l.x
  · have e := HW.out
    rw [if_pos c1] at e
    have HE := hide e
    have e1 : orNever (C + n) = C + n := by unfold orNever; rw [if_pos (by omega)]
    have e2 : decide (C + n ≤ 18446744073709551615) = true := by simp; omega
    rw [e1, e2]
    clear e e1 e2 HW
    go_wp2
    exact bodyPost_ret (v := .tuple #[.int .u64 (C + n), .bool true, .int .u64 0]) (by simp [results, Tryz.results112, go_sem]) rfl ⟨by rw [HE.out], HBW.out⟩
  · obtain ⟨o1, ho1⟩ : ∃ o1, o1 = decide (C + n ≤ 18446744073709551615) := ⟨_, rfl⟩
    obtain ⟨S1, hS1⟩ : ∃ S1, S1 = orNever (C + n) := ⟨_, rfl⟩
    have hS1n : o1 = true → ¬ S1 ≤ l.x := fun h => by
      rw [ho1] at h
      have := of_decide_eq_true h
      rw [hS1]; unfold orNever; rw [if_pos this]; exact c1
    rw [← ho1, ← hS1]
    clear ho1 hS1
    by_cases c2 : l.x < n
    · have e := HW.out
      rw [if_neg c1, if_pos c2] at e
      have HE := hide e
      clear e HW c1
      cases o1 with
      | true =>
        have hs := hS1n rfl
        clear hS1n
        go_wp2
        exact bodyPost_ret (v := .tuple #[.int .u64 0, .bool false, .int .u64 18446744073709551615]) (by simp [results, Tryz.results112, go_sem]) rfl ⟨by rw [HE.out], HBW.out⟩
      | false =>
        clear hS1n
        go_wp2
        exact bodyPost_ret (v := .tuple #[.int .u64 0, .bool false, .int .u64 18446744073709551615]) (by simp [results, Tryz.results112, go_sem]) rfl ⟨by rw [HE.out], HBW.out⟩
    · have e := HW.out
      rw [if_neg c1, if_neg c2] at e
      have HE := hide e
      have hor : 0 ≤ orNever (Wn + 1) ∧ orNever (Wn + 1) ≤ 18446744073709551615 := by unfold orNever; split <;> omega
      clear e HW c1
      cases o1 with
      | true =>
        have hs := hS1n rfl
        clear hS1n
        go_wp2_with fail
        refine (HP2.out _ hwr (by omega)).mono ?_
        rintro e w3 ⟨rfl, rfl⟩
        go_wp2_with fail
        refine (HT1.out _ hor (by omega)).mono ?_
        rintro e w4 ⟨rfl, rfl⟩
        by_cases c3 : Wn + 1 ≤ 18446744073709551615 ∧ (Wn + 1) * l.y ≤ 18446744073709551615
        · have e1 : orNever (Wn + 1) = Wn + 1 := by unfold orNever; rw [if_pos c3.1]
          have e2 : decide (Wn + 1 ≤ 18446744073709551615) = true := by simpa using c3.1
          have e3 : decide ((Wn + 1) * l.y ≤ 18446744073709551615) = true := by simpa using c3.2
          rw [e1, e2, e3]
          clear e1 e2 e3 c3
          obtain ⟨R, hR⟩ : ∃ R, R = orNever ((Wn + 1) * l.y) := ⟨_, rfl⟩
          have HE2 := HE.out
          rw [← hR] at HE2 ⊢
          have HE3 := hide HE2
          clear HE2 hR
          go_wp2
          exact bodyPost_ret (v := .tuple #[.int .u64 0, .bool false, .int .u64 R]) (by simp [results, Tryz.results112, go_sem]) rfl ⟨by rw [HE3.out], HBW.out⟩
        · have hNV : orNever ((Wn + 1) * l.y) = 18446744073709551615 := by
            unfold orNever
            split
            · rename_i hle
              have hge : (Wn + 1) * 1 ≤ (Wn + 1) * l.y := Int.mul_le_mul_of_nonneg_left hyp (by omega)
              exact absurd ⟨by omega, hle⟩ c3
            · rfl
          have HE2 := HE.out
          rw [hNV] at HE2
          have HE3 := hide HE2
          have hoo : decide (Wn + 1 ≤ 18446744073709551615) = false ∨ (decide (Wn + 1 ≤ 18446744073709551615) = true ∧ decide (orNever (Wn + 1) * l.y ≤ 18446744073709551615) = false) := by
            by_cases h1 : Wn + 1 ≤ 18446744073709551615
            · right
              refine ⟨by simpa using h1, ?_⟩
              have e1 : orNever (Wn + 1) = Wn + 1 := by unfold orNever; rw [if_pos h1]
              rw [e1]
              simpa using fun h2 => c3 ⟨h1, h2⟩
            · left; simpa using h1
          obtain ⟨q1, hq1⟩ : ∃ q1, q1 = decide (Wn + 1 ≤ 18446744073709551615) := ⟨_, rfl⟩
          obtain ⟨q2, hq2⟩ : ∃ q2, q2 = decide (orNever (Wn + 1) * l.y ≤ 18446744073709551615) := ⟨_, rfl⟩
          obtain ⟨R1, hR1⟩ : ∃ R1, R1 = orNever (orNever (Wn + 1) * l.y) := ⟨_, rfl⟩
          obtain ⟨R2, hR2⟩ : ∃ R2, R2 = orNever (Wn + 1) := ⟨_, rfl⟩
          rw [← hq1, ← hq2] at hoo
          rw [← hR1, ← hq2, ← hq1, ← hR2]
          clear hq1 hq2 HE2 hNV c3 hR1 hR2 hor
          rcases hoo with rfl | ⟨rfl, rfl⟩
          all_goals go_wp2
          all_goals exact bodyPost_ret (v := .tuple #[.int .u64 0, .bool false, .int .u64 18446744073709551615]) (by simp [results, Tryz.results112, go_sem]) rfl ⟨by rw [HE3.out], HBW.out⟩
      | false =>
        clear hS1n
        go_wp2_with fail
        refine (HP2.out _ hwr (by omega)).mono ?_
        rintro e w3 ⟨rfl, rfl⟩
        go_wp2_with fail
        refine (HT1.out _ hor (by omega)).mono ?_
        rintro e w4 ⟨rfl, rfl⟩
        by_cases c3 : Wn + 1 ≤ 18446744073709551615 ∧ (Wn + 1) * l.y ≤ 18446744073709551615
        · have e1 : orNever (Wn + 1) = Wn + 1 := by unfold orNever; rw [if_pos c3.1]
          have e2 : decide (Wn + 1 ≤ 18446744073709551615) = true := by simpa using c3.1
          have e3 : decide ((Wn + 1) * l.y ≤ 18446744073709551615) = true := by simpa using c3.2
          rw [e1, e2, e3]
          clear e1 e2 e3 c3
          obtain ⟨R, hR⟩ : ∃ R, R = orNever ((Wn + 1) * l.y) := ⟨_, rfl⟩
          have HE2 := HE.out
          rw [← hR] at HE2 ⊢
          have HE3 := hide HE2
          clear HE2 hR
          go_wp2
          exact bodyPost_ret (v := .tuple #[.int .u64 0, .bool false, .int .u64 R]) (by simp [results, Tryz.results112, go_sem]) rfl ⟨by rw [HE3.out], HBW.out⟩
        · have hNV : orNever ((Wn + 1) * l.y) = 18446744073709551615 := by
            unfold orNever
            split
            · rename_i hle
              have hge : (Wn + 1) * 1 ≤ (Wn + 1) * l.y := Int.mul_le_mul_of_nonneg_left hyp (by omega)
              exact absurd ⟨by omega, hle⟩ c3
            · rfl
          have HE2 := HE.out
          rw [hNV] at HE2
          have HE3 := hide HE2
          have hoo : decide (Wn + 1 ≤ 18446744073709551615) = false ∨ (decide (Wn + 1 ≤ 18446744073709551615) = true ∧ decide (orNever (Wn + 1) * l.y ≤ 18446744073709551615) = false) := by
            by_cases h1 : Wn + 1 ≤ 18446744073709551615
            · right
              refine ⟨by simpa using h1, ?_⟩
              have e1 : orNever (Wn + 1) = Wn + 1 := by unfold orNever; rw [if_pos h1]
              rw [e1]
              simpa using fun h2 => c3 ⟨h1, h2⟩
            · left; simpa using h1
          obtain ⟨q1, hq1⟩ : ∃ q1, q1 = decide (Wn + 1 ≤ 18446744073709551615) := ⟨_, rfl⟩
          obtain ⟨q2, hq2⟩ : ∃ q2, q2 = decide (orNever (Wn + 1) * l.y ≤ 18446744073709551615) := ⟨_, rfl⟩
          obtain ⟨R1, hR1⟩ : ∃ R1, R1 = orNever (orNever (Wn + 1) * l.y) := ⟨_, rfl⟩
          obtain ⟨R2, hR2⟩ : ∃ R2, R2 = orNever (Wn + 1) := ⟨_, rfl⟩
          rw [← hq1, ← hq2] at hoo
          rw [← hR1, ← hq2, ← hq1, ← hR2]
          clear hq1 hq2 HE2 hNV c3 hR1 hR2 hor
          rcases hoo with rfl | ⟨rfl, rfl⟩
          all_goals go_wp2
          all_goals exact bodyPost_ret (v := .tuple #[.int .u64 0, .bool false, .int .u64 18446744073709551615]) (by simp [results, Tryz.results112, go_sem]) rfl ⟨by rw [HE3.out], HBW.out⟩
end Go.Proofs.YtlamgpeiolfffaaGreatDoor

namespace Go.Proofs.YtlamgpeiolfffaaGreatDoor
open Go.RowKit

theorem lncs_set (a b : Int) : ∀ (ls : List Ln) (i : Nat) (l : Ln), ls[i]? = some l → lncs (ls.set i ⟨l.k, l.kd, l.x, l.y, a, b⟩) = ((lncs ls).set (i * 13 + 11) (.int .u64 a)).set (i * 13 + 12) (.int .u64 b) := by
  intro ls
  induction ls with
  | nil => intro i l h; simp at h
  | cons q r ih =>
    intro i l h
    cases i with
    | zero =>
      simp at h
      subst h
      simp [lncs, lnc]
    | succ i =>
      have h' : r[i]? = some l := by simpa using h
      have e := ih i l h'
      simp only [List.set_cons_succ]
      unfold lncs at e ⊢
      rw [List.flatMap_cons, List.flatMap_cons, e]
      have hl : (lnc q).length = 13 := rfl
      rw [List.set_append_right _ _ (by rw [hl]; omega), List.set_append_right _ _ (by rw [hl]; omega), hl]
      congr 2
      · congr 1 <;> omega
      · omega
theorem BookAt.store {w : World} {bb base g cap : Nat} {B : Bk} {i : Nat} {l : Ln} (h : BookAt w bb base (.slice (some ⟨g, 0, none⟩) B.ls.length cap) B) (hi : B.ls[i]? = some l) (a b : Int) :
    BookAt ((w.setCell ⟨g, i * 13 + 11, none⟩ (.int .u64 a)).setCell ⟨g, i * 13 + 12, none⟩ (.int .u64 b)) bb base (.slice (some ⟨g, 0, none⟩) B.ls.length cap) ⟨B.time, B.ls.set i ⟨l.k, l.kd, l.x, l.y, a, b⟩⟩ := by
  have hne : bb ≠ g := fun e => own_neE h.ho (g := g) rfl h.hb (by decide) e.symm
  refine ⟨by rw [heapSetO hne, heapSetO hne]; exact h.hb, ?_⟩
  have h1 := (h.ho.stored (i * 13 + 11) (.int .u64 a)).1
  have h2 := (h1.stored (i * 13 + 12) (.int .u64 b)).1
  rw [lncs_set a b B.ls i l hi, List.length_set]
  exact h2

theorem BookAt.box {u : World} {bb base : Nat} {lv : Value} {B : Bk} (h : BookAt u bb base lv B) {R : Nat} (h1 : bb ≠ R) (h2 : ∀ g, lv.ownBlock = some g → g ≠ R) (a0 a1 a2 : Value) : BookAt (((u.setCell ⟨R, 0, none⟩ a0).setCell ⟨R, 1, none⟩ a1).setCell ⟨R, 2, none⟩ a2) bb base lv B :=
  h.kept (fun k hk => by
    have hne : k ≠ R := by
      rcases hk with rfl | hk
      · exact h1
      · exact h2 k hk
    rw [heapSetO hne, heapSetO hne, heapSetO hne])
set_option maxRecDepth 100000 in
set_option maxHeartbeats 2000000 in
theorem admit86 (bb base : Nat) (lv : Value) (B : Bk) (i : Nat) (l : Ln) (n : Int) (w : World) (h : BookAt w bb base lv B) (hi : B.ls[i]? = some l) (hl : B.ls.length ≤ 12) (ho : l.ok) (hn : 0 ≤ n ∧ n ≤ 18446744073709551615) (hT : 0 ≤ B.time ∧ B.time ≤ 18446744073709551615)
    (h111 : Hid (∀ (bb : Nat) (lv : Value) (T : Int) (l : Ln) (n : Int) (w : World), w.heap[bb]? = some (.cells #[lv, .int .u64 T] 53) → l.ok → 1 ≤ l.x → (0 ≤ n ∧ n ≤ 18446744073709551615) → (0 ≤ T ∧ T ≤ 18446744073709551615) →
      Calls Tryz.prog 111 #[.pointer (some ⟨bb, 0, none⟩), .agg #[.int .u8 l.k.k0, .int .u8 l.k.k1, .int .u8 l.k.k2, .int .u8 l.k.k3, .int .u8 l.k.k4, .int .u8 l.k.k5, .int .u8 l.k.k6, .int .u8 l.k.k7, .int .u8 l.kd, .int .u64 l.x, .int .u64 l.y, .int .u64 l.at_, .int .u64 l.in_], .int .u64 n] w fun e w' => e = .returned (.tuple #[.int .u64 (spacedM T l n).1, .bool (spacedM T l n).2.1, .int .u64 (spacedM T l n).2.2]) ∧ Below w.heap.size w w')) :
    Calls Tryz.prog 86 #[.pointer (some ⟨bb, 0, none⟩), .int .i64 i, .int .u64 n] w fun e w' => e = .returned (.agg #[.int .u8 (admitM B i l n).2.c, .int .u64 (admitM B i l n).2.a, .int .u64 (admitM B i l n).2.b]) ∧ BookAt w' bb base lv (admitM B i l n).1 ∧ Keep (fun b => lv.ownBlock = some b) w w' := by
  obtain ⟨W0, hW0⟩ : ∃ W0, W0 = w.alloc (.cells #[.int .u8 0, .int .u64 0, .int .u64 0] 40) := ⟨_, rfl⟩
  have hbx : W0.heap[w.heap.size]? = some (.cells #[.int .u8 0, .int .u64 0, .int .u64 0] 40) := hW0 ▸ heapNew _ _
  have hB0 : Below w.heap.size w W0 := hW0 ▸ (Below.refl _ w).alloc (Nat.le_refl _) _
  have hA0 := h.below hB0 (Nat.le_refl _)
  obtain ⟨g, cap, rfl, _, hgl, L, hlt⟩ := hA0.open hi
  obtain ⟨d0, d1, d2, d3, d4, d5, d6, d7, d8, d9, d10, d11, d12⟩ := L
  have a1 := cellB hA0.hb 0
  have hlt' : (i : Int) < (B.ls.length : Int) := by omega
  have hl' : (B.ls.length : Int) ≤ 12 := by omega
  have hi0 : (0 : Int) ≤ (i : Int) := by omega
  obtain ⟨m, hm⟩ : ∃ m, m = B.ls.length := ⟨_, rfl⟩
  rw [← hm] at hlt' hl' a1
  have HA0 := hide hA0
  have HB0 := hide hB0
  have HBX := hide hbx
  have HH := hide h
  have HI := hide hi
  have HL := hide hl
  clear hA0 hB0 hbx h hi hl hlt hgl
  by_cases hk : l.kd = 1
  · have hkx : 1 ≤ l.x := by rcases ho.kd with h | h <;> omega
    rw [hk] at d8
    have hk8 := hk
    clear hk
    subst hW0
    go_enter Tryz.func86, Tryz.ntmps86
    go_wp2_with fail
    have h1 := h111.out bb _ B.time l n _ HA0.out.hb ho hkx hn hT
    rw [hk8] at h1
    refine h1.mono ?_
    rintro e w1 ⟨rfl, hb1⟩
    have hla : lnAdm B.time l n = spacedM B.time l n := by unfold lnAdm; rw [if_pos hk8]
    have hlw : lnWin B.time l = 0 := by unfold lnWin; rw [if_pos hk8]
    obtain ⟨at_, ok, when, hr⟩ : ∃ at_ ok when, lnAdm B.time l n = (at_, ok, when) := ⟨_, _, _, rfl⟩
    rw [hla] at hr
    rw [hr]
    rw [← hla] at hr
    clear hla h1
    have hB1w := HB0.out.trans (hb1.mono HB0.out.size)
    have hA1 := HA0.out.below hb1 (Nat.le_refl _)
    have hbx1 := (hb1.block _ (ltB HBX.out)).trans HBX.out
    have x1 := cellB hbx1
    have x2 := frozenB hbx1
    have hbb : bb ≠ w.heap.size := Nat.ne_of_lt (ltB HH.out.hb)
    have hbb' : w.heap.size ≠ bb := fun e => hbb e.symm
    have hgb : g ≠ w.heap.size := own_neE hA1.ho (g := g) rfl hbx1 (by decide)
    have hgb' : w.heap.size ≠ g := fun e => hgb e.symm
    have hgbb : g ≠ bb := own_neE hA1.ho (g := g) rfl hA1.hb (by decide)
    have hgbb' : bb ≠ g := fun e => hgbb e.symm
    have y1 := cellB hA1.hb 0
    have y11 := (hA1.line HI.out).c11
    have y12 := (hA1.line HI.out).c12
    have z11 : w1.frozen? ⟨g, i * 13 + 11, none⟩ = false := hA1.ho.frozenAt _
    have z12 : w1.frozen? ⟨g, i * 13 + 12, none⟩ = false := hA1.ho.frozenAt _
    have hown : ∀ z, (Value.slice (some ⟨g, 0, none⟩) B.ls.length cap).ownBlock = some z → z ≠ w.heap.size := fun z hz => by
      simp [Value.ownBlock] at hz
      omega
    have HOW := hide hown
    clear hown
    have HA1 := hide hA1
    have HBW := hide hB1w
    rw [hm] at hlt' hl'
    clear hb1 hA1 hB1w hbx1 d0 d1 d2 d3 d4 d5 d6 d7 d8 d9 d10 d11 d12 a1
    cases ok with
    | false =>
      have em : admitM B i l n = (B, ⟨3, when, 0⟩) := by unfold admitM; rw [hr]; rfl
      have HE := hide em
      clear em hr y11 y12 z11 z12
      go_wp2_with fail
      refine bodyPost_ret (v := .agg #[.int .u8 3, .int .u64 when, .int .u64 0]) (by simp [results, Tryz.results86, go_sem, x1]) rfl ⟨by rw [HE.out], ?_, ?_⟩
      · rw [HE.out]
        exact HA1.out.box hbb HOW.out _ _ _
      · exact (((Keep.of_below HBW.out).set (Or.inr (Nat.le_refl _)) _ _).set (Or.inr (Nat.le_refl _)) _ _).set (Or.inr (Nat.le_refl _)) _ _
    | true =>
      by_cases hn0 : 0 < n
      · have em : admitM B i l n = (⟨B.time, B.ls.set i ⟨l.k, l.kd, l.x, l.y, at_, 0⟩⟩, ⟨2, at_, 0⟩) := by unfold admitM; rw [hr, hlw, if_pos rfl, if_pos hn0]
        have HE := hide em
        clear em hr
        go_wp2_with fail
        refine bodyPost_ret (v := .agg #[.int .u8 2, .int .u64 at_, .int .u64 0]) (by simp [results, Tryz.results86, go_sem, x1]) rfl ⟨by rw [HE.out], ?_, ?_⟩
        · rw [HE.out]
          exact (HA1.out.store HI.out at_ 0).box hbb HOW.out _ _ _
        · exact (((((Keep.of_below (S := fun b => (Value.slice (some ⟨g, 0, none⟩) B.ls.length cap).ownBlock = some b) HBW.out).set (b := g) (Or.inl rfl) _ _).set (b := g) (Or.inl rfl) _ _).set (Or.inr (Nat.le_refl _)) _ _).set (Or.inr (Nat.le_refl _)) _ _).set (Or.inr (Nat.le_refl _)) _ _
      · have em : admitM B i l n = (B, ⟨2, at_, 0⟩) := by unfold admitM; rw [hr, hlw, if_pos rfl, if_neg hn0]
        have HE := hide em
        clear em hr y11 y12 z11 z12
        go_wp2_with fail
        refine bodyPost_ret (v := .agg #[.int .u8 2, .int .u64 at_, .int .u64 0]) (by simp [results, Tryz.results86, go_sem, x1]) rfl ⟨by rw [HE.out], ?_, ?_⟩
        · rw [HE.out]
          exact HA1.out.box hbb HOW.out _ _ _
        · exact (((Keep.of_below HBW.out).set (Or.inr (Nat.le_refl _)) _ _).set (Or.inr (Nat.le_refl _)) _ _).set (Or.inr (Nat.le_refl _)) _ _
  · have hkb : (l.kd == 1) = false := by simpa using hk
    subst hW0
    go_enter Tryz.func86, Tryz.ntmps86
    go_wp2_with fail
    refine (stands85 bb base _ B i l _ HA0.out HI.out HL.out ho hT).mono ?_
    rintro e w0 ⟨rfl, hb0⟩
    have hst : (standsM B.time l).2 = B.time / l.y := by unfold standsM; rw [if_neg hk]; split <;> rfl
    have hla : lnAdm B.time l n = windowedM B.time l n := by unfold lnAdm; rw [if_neg hk]
    obtain ⟨Q, hQ⟩ : ∃ Q, Q = B.time / l.y := ⟨_, rfl⟩
    have hlw : lnWin B.time l = Q := by unfold lnWin; rw [if_neg hk, hQ]
    rw [hst, ← hQ]
    have HHB := hide hb0
    clear hst hQ hb0
    go_wp2_with fail
    refine (windowed112 bb base _ B i l n _ (HA0.out.below HHB.out (Nat.le_refl _)) HI.out HL.out ho hk hn hT).mono ?_
    rintro e w1 ⟨rfl, hb1'⟩
    have hb1 : Below (w.alloc (.cells #[.int .u8 0, .int .u64 0, .int .u64 0] 40)).heap.size (w.alloc (.cells #[.int .u8 0, .int .u64 0, .int .u64 0] 40)) w1 := HHB.out.trans (hb1'.mono HHB.out.size)
    obtain ⟨at_, ok, when, hr⟩ : ∃ at_ ok when, lnAdm B.time l n = (at_, ok, when) := ⟨_, _, _, rfl⟩
    rw [hla] at hr
    rw [hr]
    rw [← hla] at hr
    clear hla hb1'
    have hB1w := HB0.out.trans (hb1.mono HB0.out.size)
    have hA1 := HA0.out.below hb1 (Nat.le_refl _)
    have hbx1 := (hb1.block _ (ltB HBX.out)).trans HBX.out
    have x1 := cellB hbx1
    have x2 := frozenB hbx1
    have hbb : bb ≠ w.heap.size := Nat.ne_of_lt (ltB HH.out.hb)
    have hbb' : w.heap.size ≠ bb := fun e => hbb e.symm
    have hgb : g ≠ w.heap.size := own_neE hA1.ho (g := g) rfl hbx1 (by decide)
    have hgb' : w.heap.size ≠ g := fun e => hgb e.symm
    have hgbb : g ≠ bb := own_neE hA1.ho (g := g) rfl hA1.hb (by decide)
    have hgbb' : bb ≠ g := fun e => hgbb e.symm
    have y1 := cellB hA1.hb 0
    have y11 := (hA1.line HI.out).c11
    have y12 := (hA1.line HI.out).c12
    have z11 : w1.frozen? ⟨g, i * 13 + 11, none⟩ = false := hA1.ho.frozenAt _
    have z12 : w1.frozen? ⟨g, i * 13 + 12, none⟩ = false := hA1.ho.frozenAt _
    have hown : ∀ z, (Value.slice (some ⟨g, 0, none⟩) B.ls.length cap).ownBlock = some z → z ≠ w.heap.size := fun z hz => by
      simp [Value.ownBlock] at hz
      omega
    have HOW := hide hown
    clear hown
    have HA1 := hide hA1
    have HBW := hide hB1w
    rw [hm] at hlt' hl'
    clear hb1 hA1 hB1w hbx1 d0 d1 d2 d3 d4 d5 d6 d7 d8 d9 d10 d11 d12 a1
    cases ok with
    | false =>
      have em : admitM B i l n = (B, ⟨3, when, 0⟩) := by unfold admitM; rw [hr]; rfl
      have HE := hide em
      clear em hr y11 y12 z11 z12
      go_wp2_with fail
      refine bodyPost_ret (v := .agg #[.int .u8 3, .int .u64 when, .int .u64 0]) (by simp [results, Tryz.results86, go_sem, x1]) rfl ⟨by rw [HE.out], ?_, ?_⟩
      · rw [HE.out]
        exact HA1.out.box hbb HOW.out _ _ _
      · exact (((Keep.of_below HBW.out).set (Or.inr (Nat.le_refl _)) _ _).set (Or.inr (Nat.le_refl _)) _ _).set (Or.inr (Nat.le_refl _)) _ _
    | true =>
      by_cases hn0 : 0 < n
      · have em : admitM B i l n = (⟨B.time, B.ls.set i ⟨l.k, l.kd, l.x, l.y, at_, Q⟩⟩, ⟨2, at_, Q⟩) := by unfold admitM; rw [hr, hlw, if_pos rfl, if_pos hn0]
        have HE := hide em
        clear em hr
        go_wp2_with fail
        refine bodyPost_ret (v := .agg #[.int .u8 2, .int .u64 at_, .int .u64 Q]) (by simp [results, Tryz.results86, go_sem, x1]) rfl ⟨by rw [HE.out], ?_, ?_⟩
        · rw [HE.out]
          exact (HA1.out.store HI.out at_ Q).box hbb HOW.out _ _ _
        · exact (((((Keep.of_below (S := fun b => (Value.slice (some ⟨g, 0, none⟩) B.ls.length cap).ownBlock = some b) HBW.out).set (b := g) (Or.inl rfl) _ _).set (b := g) (Or.inl rfl) _ _).set (Or.inr (Nat.le_refl _)) _ _).set (Or.inr (Nat.le_refl _)) _ _).set (Or.inr (Nat.le_refl _)) _ _
      · have em : admitM B i l n = (B, ⟨2, at_, Q⟩) := by unfold admitM; rw [hr, hlw, if_pos rfl, if_neg hn0]
        have HE := hide em
        clear em hr y11 y12 z11 z12
        go_wp2_with fail
        refine bodyPost_ret (v := .agg #[.int .u8 2, .int .u64 at_, .int .u64 Q]) (by simp [results, Tryz.results86, go_sem, x1]) rfl ⟨by rw [HE.out], ?_, ?_⟩
        · rw [HE.out]
          exact HA1.out.box hbb HOW.out _ _ _
        · exact (((Keep.of_below HBW.out).set (Or.inr (Nat.le_refl _)) _ _).set (Or.inr (Nat.le_refl _)) _ _).set (Or.inr (Nat.le_refl _)) _ _
end Go.Proofs.YtlamgpeiolfffaaGreatDoor

namespace Go.Proofs.YtlamgpeiolfffaaGreatDoor
open Go.RowKit

abbrev ZL : Value := .agg #[.int .u8 0, .int .u8 0, .int .u8 0, .int .u8 0, .int .u8 0, .int .u8 0, .int .u8 0, .int .u8 0, .int .u8 0, .int .u64 0, .int .u64 0, .int .u64 0, .int .u64 0]
theorem Tryz.info139 : (Tryz.prog.info? 139).map (fun i => (i.zero, i.size, i.bytes)) = some (some ZL, 13, 48) := by kernel_rfl

theorem lncs_snoc (ls : List Ln) (l : Ln) : lncs (ls ++ [l]) = lncs ls ++ lnc l := by simp [lncs]
/-- One line more. -/
theorem def_end {w V X w4 : World} {bb base m lc : Nat} {la : Option Addr} {v5 : Value} {B : Bk} {l : Ln} {R : Nat} {o : Obj} (hA : BookAt V bb base (.slice la m lc) B) (hm : m = B.ls.length) (hX : ∀ k, k < V.heap.size → X.heap[k]? = V.heap[k]?) (hXs : X.heap.size = V.heap.size + 1) (hXo : X.os = V.os ∧ X.tape = V.tape ∧ X.output = V.output)
    (ho4 : w4.ownsRow base 139 13 v5 (m + 1) (lncs B.ls ++ lnc l)) (hg4 : X.grownBy w4 (Value.slice la m lc).ownBlock) (hl4 : v5.ownBlock = (Value.slice la m lc).ownBlock ∨ v5.ownBlock = some X.heap.size) (hBV : Below w.heap.size w V) (hR : V.heap[R]? = some o) (hRb : R ≠ bb) (hRo : (Value.slice la m lc).ownBlock ≠ some R) :
    BookAt (w4.setCell ⟨bb, 0, none⟩ v5) bb base v5 ⟨B.time, B.ls ++ [l]⟩ ∧ (w4.setCell ⟨bb, 0, none⟩ v5).heap[R]? = some o ∧ Keep (fun b => b = bb ∨ (Value.slice la m lc).ownBlock = some b) w (w4.setCell ⟨bb, 0, none⟩ v5) ∧ (∀ g, v5.ownBlock = some g → (Value.slice la m lc).ownBlock = some g ∨ w.heap.size ≤ g) := by
  have hbl := ltB hA.hb
  have nb : (Value.slice la m lc).ownBlock ≠ some bb := fun e => own_neE hA.ho e hA.hb (by decide) rfl
  have K : ∀ k, k < V.heap.size → (Value.slice la m lc).ownBlock ≠ some k → w4.heap[k]? = V.heap[k]? := fun k hk hn => (hg4.block k (by omega) (fun e => hn e.symm)).trans (hX k hk)
  have hb4 := (K bb hbl nb).trans hA.hb
  have hs4 := hg4.size
  have hsV := hBV.size
  refine ⟨⟨by simpa using heapSet hb4 0 v5, ?_⟩, ?_, ⟨(hg4.os.trans hXo.1).trans hBV.os, (hg4.tape.trans hXo.2.1).trans hBV.tape, (hg4.output.trans hXo.2.2).trans hBV.output, by rw [World.size_setCell]; omega, fun k hk hn => ?_⟩, fun g hg => ?_⟩
  · rw [lncs_snoc, List.length_append, List.length_singleton, ← hm]
    exact own_keptE ho4 (fun g hg => heapSetO (own_neE ho4 hg hb4 (by decide)) _ _)
  · rw [heapSetO hRb]
    exact (K R (ltB hR) hRo).trans hR
  · rw [heapSetO (fun e => hn (Or.inl e))]
    exact (K k (by omega) (fun e => hn (Or.inr e))).trans (hBV.block k hk)
  · rcases hl4 with h | h
    · exact Or.inl (h ▸ hg)
    · rw [h] at hg
      injection hg with hg
      exact Or.inr (by omega)

set_option maxRecDepth 100000 in
set_option maxHeartbeats 2000000 in
/-- Ask: Define, there is no such policy. -/
theorem ask57_bad (bb base : Nat) (lv : Value) (B : Bk) (q : Rq) (w : World) (h : BookAt w bb base lv B) (hB : B.ok) (hq : q.ok) (ho : q.op = 1) (hs : ¬ soundM q.kd q.x q.y) :
    Calls Tryz.prog 57 #[.pointer (some ⟨bb, 0, none⟩), rqv q] w (AskPost bb base lv B q w) := by
  obtain ⟨W, hW⟩ : ∃ W, W = (w.alloc (.cells #[.int .u8 q.op, .int .u8 q.k0, .int .u8 q.k1, .int .u8 q.k2, .int .u8 q.k3, .int .u8 q.k4, .int .u8 q.k5, .int .u8 q.k6, .int .u8 q.k7, .int .u8 q.kd, .int .u64 q.x, .int .u64 q.y, .int .u64 q.n] 58)).alloc (.cells #[.int .u8 0, .int .u64 0, .int .u64 0] 40) := ⟨_, rfl⟩
  have hq0 : W.heap[w.heap.size]? = some (.cells #[.int .u8 q.op, .int .u8 q.k0, .int .u8 q.k1, .int .u8 q.k2, .int .u8 q.k3, .int .u8 q.k4, .int .u8 q.k5, .int .u8 q.k6, .int .u8 q.k7, .int .u8 q.kd, .int .u64 q.x, .int .u64 q.y, .int .u64 q.n] 58) := hW ▸ upB (heapNew _ _) _
  have hr0 : W.heap[w.heap.size + 1]? = some (.cells #[.int .u8 0, .int .u64 0, .int .u64 0] 40) := hW ▸ heapN (by simp)
  have hBW : Below w.heap.size w W := hW ▸ ((Below.refl _ w).alloc (Nat.le_refl _) _).alloc (by simp) _
  have hAW := h.below hBW (Nat.le_refl _)
  have hbl := ltB h.hb
  have hgl : ∀ g, lv.ownBlock = some g → g < w.heap.size := fun g hg => (own_ltE h.ho hg).2
  have h84 := find84 bb base lv B q.key W hAW hB.len
  have hl12 := hB.len
  have hTm := hB.time
  have em : askM B q = (B, ⟨8, 0, 0⟩) := by unfold askM; rw [if_pos ho, if_pos hs]
  have HE := hide em
  have hc : (¬ q.kd = 1 ∧ ¬ q.kd = 2) ∨ (q.kd = 1 ∧ q.x = 0) ∨ (q.kd = 2 ∧ q.y = 0) := by
    have hx := hq.x
    have hy := hq.y
    unfold soundM at hs
    omega
  have HC := hide hc
  clear em hs hc
  have H84 := hide h84
  have HAW := hide hAW
  have HQ0 := hide hq0
  have HR0 := hide hr0
  have HBW := hide hBW
  have HGL := hide hgl
  have HB := hide hB
  have HH := hide h
  clear h84 hAW hq0 hr0 hBW hgl hB h
  have HO := hide ho
  clear ho
  go_enter Tryz.func57, Tryz.ntmps57
  go_wp2_with fail
  have h84 := H84.out
  rw [hW] at h84
  refine h84.mono ?_
  rw [← hW]
  rintro e w1 ⟨rfl, hb1⟩
  have hA1 := HAW.out.below hb1 (Nat.le_refl _)
  have hq1 := (hb1.block _ (ltB HQ0.out)).trans HQ0.out
  have hr1 := (hb1.block _ (ltB HR0.out)).trans HR0.out
  have x0 := cellB hq1
  have x1 := cellB hr1
  have x2 := frozenB hr1
  have y1 := cellB hA1.hb
  have HA1 := hide hA1
  have HR1 := hide hr1
  have HQ1 := hide hq1
  have HBE := hide (HBW.out.trans (hb1.mono HBW.out.size))
  have hbR : bb ≠ w.heap.size + 1 := by omega
  have hbR' : w.heap.size + 1 ≠ bb := by omega
  clear h84 hW hA1 hq1 hr1 hb1
  have ho := HO.out
  obtain ⟨ii, hii⟩ : ∃ ii, ii = idxI q.key B.ls := ⟨_, rfl⟩
  rw [← hii]
  clear hii
  have hr2 := upB HR1.out (.cells #[.int .u8 q.kd, .int .u64 q.x, .int .u64 q.y] 30)
  have z1 := cellB hr2
  have z2 := frozenB hr2
  have HA2 : Hid (BookAt (w1.alloc (.cells #[.int .u8 q.kd, .int .u64 q.x, .int .u64 q.y] 30)) bb base _ B) := hide (HA1.out.below ((Below.refl _ w1).alloc (Nat.le_refl _) _) (Nat.le_refl _))
  have y2 := upC HA1.out.hb (.cells #[.int .u8 q.kd, .int .u64 q.x, .int .u64 q.y] 30)
  have HBE2 : Hid (Below w.heap.size w (w1.alloc (.cells #[.int .u8 q.kd, .int .u64 q.x, .int .u64 q.y] 30))) := hide (HBE.out.alloc HBE.out.size _)
  clear hr2
  rcases HC.out with ⟨c1, c2⟩ | ⟨c1, c2⟩ | ⟨c1, c2⟩
  · have c1b : (q.kd == 1) = false := by simpa using c1
    have c2b : (q.kd == 2) = false := by simpa using c2
    go_wp2_with fail
    exact bodyPost_ret (v := .agg #[.int .u8 8, .int .u64 0, .int .u64 0]) (by simp [results, Tryz.results57, go_sem, z1]) rfl (AskPost.mk' HA2.out HE.out (Nat.le_succ _) hbR (fun g hg => by have := HGL.out g hg; omega) (Keep.of_below HBE2.out) (fun g hg => Or.inl hg))
  · rw [c1, c2] at z1 z2 y2 HA2 HBE2
    rw [c1, c2] at x0
    go_wp2_with fail
    exact bodyPost_ret (v := .agg #[.int .u8 8, .int .u64 0, .int .u64 0]) (by simp [results, Tryz.results57, go_sem, z1]) rfl (AskPost.mk' HA2.out HE.out (Nat.le_succ _) hbR (fun g hg => by have := HGL.out g hg; omega) (Keep.of_below HBE2.out) (fun g hg => Or.inl hg))
  · rw [c1, c2] at z1 z2 y2 HA2 HBE2
    rw [c1, c2] at x0
    go_wp2_with fail
    exact bodyPost_ret (v := .agg #[.int .u8 8, .int .u64 0, .int .u64 0]) (by simp [results, Tryz.results57, go_sem, z1]) rfl (AskPost.mk' HA2.out HE.out (Nat.le_succ _) hbR (fun g hg => by have := HGL.out g hg; omega) (Keep.of_below HBE2.out) (fun g hg => Or.inl hg))
set_option maxRecDepth 100000 in
set_option maxHeartbeats 2000000 in
/-- Ask: Define, the key is there. -/
theorem ask57_exists (bb base : Nat) (lv : Value) (B : Bk) (q : Rq) (w : World) (h : BookAt w bb base lv B) (hB : B.ok) (_hq : q.ok) (ho : q.op = 1) (hs : soundM q.kd q.x q.y) (i : Nat) (hi : idx q.key B.ls = some i) :
    Calls Tryz.prog 57 #[.pointer (some ⟨bb, 0, none⟩), rqv q] w (AskPost bb base lv B q w) := by
  obtain ⟨W, hW⟩ : ∃ W, W = (w.alloc (.cells #[.int .u8 q.op, .int .u8 q.k0, .int .u8 q.k1, .int .u8 q.k2, .int .u8 q.k3, .int .u8 q.k4, .int .u8 q.k5, .int .u8 q.k6, .int .u8 q.k7, .int .u8 q.kd, .int .u64 q.x, .int .u64 q.y, .int .u64 q.n] 58)).alloc (.cells #[.int .u8 0, .int .u64 0, .int .u64 0] 40) := ⟨_, rfl⟩
  have hq0 : W.heap[w.heap.size]? = some (.cells #[.int .u8 q.op, .int .u8 q.k0, .int .u8 q.k1, .int .u8 q.k2, .int .u8 q.k3, .int .u8 q.k4, .int .u8 q.k5, .int .u8 q.k6, .int .u8 q.k7, .int .u8 q.kd, .int .u64 q.x, .int .u64 q.y, .int .u64 q.n] 58) := hW ▸ upB (heapNew _ _) _
  have hr0 : W.heap[w.heap.size + 1]? = some (.cells #[.int .u8 0, .int .u64 0, .int .u64 0] 40) := hW ▸ heapN (by simp)
  have hBW : Below w.heap.size w W := hW ▸ ((Below.refl _ w).alloc (Nat.le_refl _) _).alloc (by simp) _
  have hAW := h.below hBW (Nat.le_refl _)
  have hbl := ltB h.hb
  have hgl : ∀ g, lv.ownBlock = some g → g < w.heap.size := fun g hg => (own_ltE h.ho hg).2
  have h84 := find84 bb base lv B q.key W hAW hB.len
  have hl12 := hB.len
  have hTm := hB.time
  have hsp : (q.kd = 1 ∧ ¬ q.x = 0) ∨ (q.kd = 2 ∧ ¬ q.y = 0) := by
    unfold soundM at hs
    omega
  have HSP := hide hsp
  have em : askM B q = (B, ⟨9, 0, 0⟩) := by unfold askM; rw [if_pos ho, if_neg (fun h => h hs), hi]; rfl
  have HE := hide em
  have hii : idxI q.key B.ls = (i : Int) := by unfold idxI; rw [hi]
  rw [hii] at h84
  have hi0 : (0 : Int) ≤ (i : Int) := by omega
  clear em hs hsp hi hii
  have H84 := hide h84
  have HAW := hide hAW
  have HQ0 := hide hq0
  have HR0 := hide hr0
  have HBW := hide hBW
  have HGL := hide hgl
  have HB := hide hB
  have HH := hide h
  clear h84 hAW hq0 hr0 hBW hgl hB h
  have HO := hide ho
  clear ho
  go_enter Tryz.func57, Tryz.ntmps57
  go_wp2_with fail
  have h84 := H84.out
  rw [hW] at h84
  refine h84.mono ?_
  rw [← hW]
  rintro e w1 ⟨rfl, hb1⟩
  have hA1 := HAW.out.below hb1 (Nat.le_refl _)
  have hq1 := (hb1.block _ (ltB HQ0.out)).trans HQ0.out
  have hr1 := (hb1.block _ (ltB HR0.out)).trans HR0.out
  have x0 := cellB hq1
  have x1 := cellB hr1
  have x2 := frozenB hr1
  have y1 := cellB hA1.hb
  have HA1 := hide hA1
  have HR1 := hide hr1
  have HQ1 := hide hq1
  have HBE := hide (HBW.out.trans (hb1.mono HBW.out.size))
  have hbR : bb ≠ w.heap.size + 1 := by omega
  have hbR' : w.heap.size + 1 ≠ bb := by omega
  clear h84 hW hA1 hq1 hr1 hb1
  have ho := HO.out
  have hr2 := upB HR1.out (.cells #[.int .u8 q.kd, .int .u64 q.x, .int .u64 q.y] 30)
  have z1 := cellB hr2
  have z2 := frozenB hr2
  have HA2 : Hid (BookAt (w1.alloc (.cells #[.int .u8 q.kd, .int .u64 q.x, .int .u64 q.y] 30)) bb base _ B) := hide (HA1.out.below ((Below.refl _ w1).alloc (Nat.le_refl _) _) (Nat.le_refl _))
  have y2 := upC HA1.out.hb (.cells #[.int .u8 q.kd, .int .u64 q.x, .int .u64 q.y] 30)
  have HBE2 : Hid (Below w.heap.size w (w1.alloc (.cells #[.int .u8 q.kd, .int .u64 q.x, .int .u64 q.y] 30))) := hide (HBE.out.alloc HBE.out.size _)
  clear hr2
  rcases HSP.out with ⟨c1, c2⟩ | ⟨c1, c2⟩
  · have c2b : (q.x == 0) = false := by simpa using c2
    rw [c1] at z1 z2 y2 HA2 HBE2 x0
    go_wp2_with fail
    exact bodyPost_ret (v := .agg #[.int .u8 9, .int .u64 0, .int .u64 0]) (by simp [results, Tryz.results57, go_sem, z1]) rfl (AskPost.mk' HA2.out HE.out (Nat.le_succ _) hbR (fun g hg => by have := HGL.out g hg; omega) (Keep.of_below HBE2.out) (fun g hg => Or.inl hg))
  · have c2b : (q.y == 0) = false := by simpa using c2
    rw [c1] at z1 z2 y2 HA2 HBE2 x0
    go_wp2_with fail
    exact bodyPost_ret (v := .agg #[.int .u8 9, .int .u64 0, .int .u64 0]) (by simp [results, Tryz.results57, go_sem, z1]) rfl (AskPost.mk' HA2.out HE.out (Nat.le_succ _) hbR (fun g hg => by have := HGL.out g hg; omega) (Keep.of_below HBE2.out) (fun g hg => Or.inl hg))
set_option maxRecDepth 100000 in
set_option maxHeartbeats 2000000 in
/-- Ask: Define, there are twelve keys. -/
theorem ask57_full (bb base : Nat) (lv : Value) (B : Bk) (q : Rq) (w : World) (h : BookAt w bb base lv B) (hB : B.ok) (_hq : q.ok) (ho : q.op = 1) (hs : soundM q.kd q.x q.y) (hi : idx q.key B.ls = none) (hf : B.ls.length = 12) :
    Calls Tryz.prog 57 #[.pointer (some ⟨bb, 0, none⟩), rqv q] w (AskPost bb base lv B q w) := by
  obtain ⟨W, hW⟩ : ∃ W, W = (w.alloc (.cells #[.int .u8 q.op, .int .u8 q.k0, .int .u8 q.k1, .int .u8 q.k2, .int .u8 q.k3, .int .u8 q.k4, .int .u8 q.k5, .int .u8 q.k6, .int .u8 q.k7, .int .u8 q.kd, .int .u64 q.x, .int .u64 q.y, .int .u64 q.n] 58)).alloc (.cells #[.int .u8 0, .int .u64 0, .int .u64 0] 40) := ⟨_, rfl⟩
  have hq0 : W.heap[w.heap.size]? = some (.cells #[.int .u8 q.op, .int .u8 q.k0, .int .u8 q.k1, .int .u8 q.k2, .int .u8 q.k3, .int .u8 q.k4, .int .u8 q.k5, .int .u8 q.k6, .int .u8 q.k7, .int .u8 q.kd, .int .u64 q.x, .int .u64 q.y, .int .u64 q.n] 58) := hW ▸ upB (heapNew _ _) _
  have hr0 : W.heap[w.heap.size + 1]? = some (.cells #[.int .u8 0, .int .u64 0, .int .u64 0] 40) := hW ▸ heapN (by simp)
  have hBW : Below w.heap.size w W := hW ▸ ((Below.refl _ w).alloc (Nat.le_refl _) _).alloc (by simp) _
  have hAW := h.below hBW (Nat.le_refl _)
  have hbl := ltB h.hb
  have hgl : ∀ g, lv.ownBlock = some g → g < w.heap.size := fun g hg => (own_ltE h.ho hg).2
  have h84 := find84 bb base lv B q.key W hAW hB.len
  have hl12 := hB.len
  have hTm := hB.time
  have hsp : (q.kd = 1 ∧ ¬ q.x = 0) ∨ (q.kd = 2 ∧ ¬ q.y = 0) := by
    unfold soundM at hs
    omega
  have HSP := hide hsp
  have em : askM B q = (B, ⟨5, 0, 0⟩) := by unfold askM; rw [if_pos ho, if_neg (fun h => h hs), hi]; simp only [Option.isSome_none, Bool.false_eq_true, if_false]; rw [if_pos hf]
  have HE := hide em
  have hii : idxI q.key B.ls = -1 := by unfold idxI; rw [hi]
  rw [hii] at h84
  obtain ⟨la, lc, hlv⟩ := own_sliceE h.ho
  rw [hf] at hlv
  subst hlv
  clear em hs hsp hi hii hf
  have H84 := hide h84
  have HAW := hide hAW
  have HQ0 := hide hq0
  have HR0 := hide hr0
  have HBW := hide hBW
  have HGL := hide hgl
  have HB := hide hB
  have HH := hide h
  clear h84 hAW hq0 hr0 hBW hgl hB h
  have HO := hide ho
  clear ho
  go_enter Tryz.func57, Tryz.ntmps57
  go_wp2_with fail
  have h84 := H84.out
  rw [hW] at h84
  refine h84.mono ?_
  rw [← hW]
  rintro e w1 ⟨rfl, hb1⟩
  have hA1 := HAW.out.below hb1 (Nat.le_refl _)
  have hq1 := (hb1.block _ (ltB HQ0.out)).trans HQ0.out
  have hr1 := (hb1.block _ (ltB HR0.out)).trans HR0.out
  have x0 := cellB hq1
  have x1 := cellB hr1
  have x2 := frozenB hr1
  have y1 := cellB hA1.hb
  have HA1 := hide hA1
  have HR1 := hide hr1
  have HQ1 := hide hq1
  have HBE := hide (HBW.out.trans (hb1.mono HBW.out.size))
  have hbR : bb ≠ w.heap.size + 1 := by omega
  have hbR' : w.heap.size + 1 ≠ bb := by omega
  clear h84 hW hA1 hq1 hr1 hb1
  have ho := HO.out
  have hr2 := upB HR1.out (.cells #[.int .u8 q.kd, .int .u64 q.x, .int .u64 q.y] 30)
  have z1 := cellB hr2
  have z2 := frozenB hr2
  have HA2 : Hid (BookAt (w1.alloc (.cells #[.int .u8 q.kd, .int .u64 q.x, .int .u64 q.y] 30)) bb base _ B) := hide (HA1.out.below ((Below.refl _ w1).alloc (Nat.le_refl _) _) (Nat.le_refl _))
  have y2 := upC HA1.out.hb (.cells #[.int .u8 q.kd, .int .u64 q.x, .int .u64 q.y] 30)
  have HBE2 : Hid (Below w.heap.size w (w1.alloc (.cells #[.int .u8 q.kd, .int .u64 q.x, .int .u64 q.y] 30))) := hide (HBE.out.alloc HBE.out.size _)
  clear hr2
  rcases HSP.out with ⟨c1, c2⟩ | ⟨c1, c2⟩
  · have c2b : (q.x == 0) = false := by simpa using c2
    rw [c1] at z1 z2 y2 HA2 HBE2 x0
    go_wp2_with fail
    exact bodyPost_ret (v := .agg #[.int .u8 5, .int .u64 0, .int .u64 0]) (by simp [results, Tryz.results57, go_sem, z1]) rfl (AskPost.mk' HA2.out HE.out (Nat.le_succ _) hbR (fun g hg => by have := HGL.out g hg; omega) (Keep.of_below HBE2.out) (fun g hg => Or.inl hg))
  · have c2b : (q.y == 0) = false := by simpa using c2
    rw [c1] at z1 z2 y2 HA2 HBE2 x0
    go_wp2_with fail
    exact bodyPost_ret (v := .agg #[.int .u8 5, .int .u64 0, .int .u64 0]) (by simp [results, Tryz.results57, go_sem, z1]) rfl (AskPost.mk' HA2.out HE.out (Nat.le_succ _) hbR (fun g hg => by have := HGL.out g hg; omega) (Keep.of_below HBE2.out) (fun g hg => Or.inl hg))
set_option maxRecDepth 100000 in
set_option maxHeartbeats 2000000 in
/-- Ask: Define. -/
theorem ask57_def (bb base : Nat) (lv : Value) (B : Bk) (q : Rq) (w : World) (h : BookAt w bb base lv B) (hB : B.ok) (_hq : q.ok) (ho : q.op = 1) (hs : soundM q.kd q.x q.y) (hin : idx q.key B.ls = none) (hf : ¬ B.ls.length = 12) (hba : base ≤ w.heap.size) :
    Calls Tryz.prog 57 #[.pointer (some ⟨bb, 0, none⟩), rqv q] w (AskPost bb base lv B q w) := by
  obtain ⟨W, hW⟩ : ∃ W, W = (w.alloc (.cells #[.int .u8 q.op, .int .u8 q.k0, .int .u8 q.k1, .int .u8 q.k2, .int .u8 q.k3, .int .u8 q.k4, .int .u8 q.k5, .int .u8 q.k6, .int .u8 q.k7, .int .u8 q.kd, .int .u64 q.x, .int .u64 q.y, .int .u64 q.n] 58)).alloc (.cells #[.int .u8 0, .int .u64 0, .int .u64 0] 40) := ⟨_, rfl⟩
  have hq0 : W.heap[w.heap.size]? = some (.cells #[.int .u8 q.op, .int .u8 q.k0, .int .u8 q.k1, .int .u8 q.k2, .int .u8 q.k3, .int .u8 q.k4, .int .u8 q.k5, .int .u8 q.k6, .int .u8 q.k7, .int .u8 q.kd, .int .u64 q.x, .int .u64 q.y, .int .u64 q.n] 58) := hW ▸ upB (heapNew _ _) _
  have hr0 : W.heap[w.heap.size + 1]? = some (.cells #[.int .u8 0, .int .u64 0, .int .u64 0] 40) := hW ▸ heapN (by simp)
  have hBW : Below w.heap.size w W := hW ▸ ((Below.refl _ w).alloc (Nat.le_refl _) _).alloc (by simp) _
  have hAW := h.below hBW (Nat.le_refl _)
  have hbl := ltB h.hb
  have hgl : ∀ g, lv.ownBlock = some g → g < w.heap.size := fun g hg => (own_ltE h.ho hg).2
  have h84 := find84 bb base lv B q.key W hAW hB.len
  have hl12 := hB.len
  have hTm := hB.time
  have hsp : (q.kd = 1 ∧ ¬ q.x = 0) ∨ (q.kd = 2 ∧ ¬ q.y = 0) := by
    unfold soundM at hs
    omega
  have HSP := hide hsp
  have em : askM B q = (⟨B.time, B.ls ++ [⟨q.key, q.kd, q.x, q.y, 0, 0⟩]⟩, ⟨1, 0, 0⟩) := by unfold askM; rw [if_pos ho, if_neg (fun h => h hs), hin]; simp only [Option.isSome_none, Bool.false_eq_true, if_false]; rw [if_neg hf]
  have HE := hide em
  have hii : idxI q.key B.ls = -1 := by unfold idxI; rw [hin]
  rw [hii] at h84
  obtain ⟨la, lc, hlv⟩ := own_sliceE h.ho
  obtain ⟨m, hm⟩ : ∃ m, m = B.ls.length := ⟨_, rfl⟩
  rw [← hm] at hlv
  have hf2 : ¬ (m : Int) = 12 := by omega
  have hf3 : ((m : Int) == 12) = false := by simpa using hf2
  have hm12 : m ≤ 12 := by omega
  subst hlv
  have HM := hide hm
  have HBA := hide hba
  obtain ⟨i0, hi, hz0, hz1, hz2⟩ := info_parts Tryz.info139
  clear em hs hsp hii hf hm hl12 hba
  have H84 := hide h84
  have HAW := hide hAW
  have HQ0 := hide hq0
  have HR0 := hide hr0
  have HBW := hide hBW
  have HGL := hide hgl
  have HB := hide hB
  have HH := hide h
  clear h84 hAW hq0 hr0 hBW hgl hB h
  have HO := hide ho
  clear ho
  go_enter Tryz.func57, Tryz.ntmps57
  go_wp2_with fail
  have h84 := H84.out
  rw [hW] at h84
  refine h84.mono ?_
  rw [← hW]
  rintro e w1 ⟨rfl, hb1⟩
  have hA1 := HAW.out.below hb1 (Nat.le_refl _)
  have hq1 := (hb1.block _ (ltB HQ0.out)).trans HQ0.out
  have hr1 := (hb1.block _ (ltB HR0.out)).trans HR0.out
  have x0 := cellB hq1
  have x1 := cellB hr1
  have x2 := frozenB hr1
  have y1 := cellB hA1.hb
  have HA1 := hide hA1
  have HR1 := hide hr1
  have HQ1 := hide hq1
  have HBE := hide (HBW.out.trans (hb1.mono HBW.out.size))
  have hbR : bb ≠ w.heap.size + 1 := by omega
  have hbR' : w.heap.size + 1 ≠ bb := by omega
  clear h84 hW hA1 hq1 hr1 hb1
  have ho := HO.out
  have hr2 := upB HR1.out (.cells #[.int .u8 q.kd, .int .u64 q.x, .int .u64 q.y] 30)
  have z1 := cellB hr2
  have z2 := frozenB hr2
  have HA2 : Hid (BookAt (w1.alloc (.cells #[.int .u8 q.kd, .int .u64 q.x, .int .u64 q.y] 30)) bb base _ B) := hide (HA1.out.below ((Below.refl _ w1).alloc (Nat.le_refl _) _) (Nat.le_refl _))
  have y2 := upC HA1.out.hb (.cells #[.int .u8 q.kd, .int .u64 q.x, .int .u64 q.y] 30)
  have HBE2 : Hid (Below w.heap.size w (w1.alloc (.cells #[.int .u8 q.kd, .int .u64 q.x, .int .u64 q.y] 30))) := hide (HBE.out.alloc HBE.out.size _)
  clear hr2
  rcases HSP.out with ⟨c1, c2⟩ | ⟨c1, c2⟩
  · have c2b : (q.x == 0) = false := by simpa using c2
    rw [c1] at z1 z2 y2 HA2 HBE2 x0 HQ1
    go_wp2_with fail
    obtain ⟨V, hV⟩ : ∃ V, V = w1.alloc (.cells #[.int .u8 1, .int .u64 q.x, .int .u64 q.y] 30) := ⟨_, rfl⟩
    have hpx : V.heap[w1.heap.size]? = some (.cells #[.int .u8 1, .int .u64 q.x, .int .u64 q.y] 30) := hV ▸ heapNew _ _
    have hqx : V.heap[w.heap.size]? = w1.heap[w.heap.size]? := hV ▸ heapOld _ _ (ltB HQ1.out)
    have hqx2 := hqx.trans HQ1.out
    have hrx : V.heap[w.heap.size + 1]? = some (.cells #[.int .u8 0, .int .u64 0, .int .u64 0] 40) := hV ▸ upB HR1.out _
    have hAV : BookAt V bb base (.slice la m lc) B := hV ▸ HA2.out
    have hBV : Below w.heap.size w V := hV ▸ HBE2.out
    rw [← hV]
    clear hV z1 z2 y2 x0 x1 x2 y1 hqx
    obtain ⟨pb, hpb⟩ : ∃ pb, pb = w1.heap.size := ⟨_, rfl⟩
    rw [← hpb] at hpx ⊢
    have t0 := cellB hAV.hb 0
    have t1 := cellB hqx2 1
    have t2 := cellB hqx2 2
    have t3 := cellB hqx2 3
    have t4 := cellB hqx2 4
    have t5 := cellB hqx2 5
    have t6 := cellB hqx2 6
    have t7 := cellB hqx2 7
    have t8 := cellB hqx2 8
    have t9 := cellB hpx
    have t10 := upC hAV.hb (.cells #[.int .u8 q.k0, .int .u8 q.k1, .int .u8 q.k2, .int .u8 q.k3, .int .u8 q.k4, .int .u8 q.k5, .int .u8 q.k6, .int .u8 q.k7, .int .u8 1, .int .u64 q.x, .int .u64 q.y, .int .u64 0, .int .u64 0] 139) 0
    have HLT : Hid (bb < (V.alloc (.cells #[.int .u8 q.k0, .int .u8 q.k1, .int .u8 q.k2, .int .u8 q.k3, .int .u8 q.k4, .int .u8 q.k5, .int .u8 q.k6, .int .u8 q.k7, .int .u8 1, .int .u64 q.x, .int .u64 q.y, .int .u64 0, .int .u64 0] 139)).drew.heap.size) := hide (by show bb < (V.alloc _).heap.size; rw [World.size_alloc]; exact Nat.lt_succ_of_lt (ltB hAV.hb))
    have HAV := hide hAV
    have HBV := hide hBV
    have HRX := hide hrx
    have hbN : bb ≠ V.heap.size := Nat.ne_of_lt (ltB hAV.hb)
    have HBN := hide hbN
    have HOWN : Hid ((V.alloc (.cells #[.int .u8 q.k0, .int .u8 q.k1, .int .u8 q.k2, .int .u8 q.k3, .int .u8 q.k4, .int .u8 q.k5, .int .u8 q.k6, .int .u8 q.k7, .int .u8 1, .int .u64 q.x, .int .u64 q.y, .int .u64 0, .int .u64 0] 139)).drew.ownsRow base 139 13 (.slice la m lc) m (lncs B.ls)) := hide (by
      have h0 := hAV.ho
      rw [← HM.out] at h0
      exact own_keptE h0 (fun z hz => heapOld _ _ (own_ltE h0 hz).2))
    have HCL : Hid (∀ j u, (lnc ⟨q.key, 1, q.x, q.y, 0, 0⟩)[j]? = some u → (V.alloc (.cells #[.int .u8 q.k0, .int .u8 q.k1, .int .u8 q.k2, .int .u8 q.k3, .int .u8 q.k4, .int .u8 q.k5, .int .u8 q.k6, .int .u8 q.k7, .int .u8 1, .int .u64 q.x, .int .u64 q.y, .int .u64 0, .int .u64 0] 139)).drew.cell? ((⟨V.heap.size, 0, none⟩ : Addr).add j) = some u) := hide (fun j u hj => by
      rw [Addr.add_lit, Nat.zero_add]
      refine (cellB (heapNew V (.cells #[.int .u8 q.k0, .int .u8 q.k1, .int .u8 q.k2, .int .u8 q.k3, .int .u8 q.k4, .int .u8 q.k5, .int .u8 q.k6, .int .u8 q.k7, .int .u8 1, .int .u64 q.x, .int .u64 q.y, .int .u64 0, .int .u64 0] 139)) j).trans ?_
      rw [← hj]
      simp [lnc, Rq.key])
    have HBS : Hid (base ≤ (V.alloc (.cells #[.int .u8 q.k0, .int .u8 q.k1, .int .u8 q.k2, .int .u8 q.k3, .int .u8 q.k4, .int .u8 q.k5, .int .u8 q.k6, .int .u8 q.k7, .int .u8 1, .int .u64 q.x, .int .u64 q.y, .int .u64 0, .int .u64 0] 139)).drew.heap.size) := hide (by show base ≤ (V.alloc _).heap.size; rw [World.size_alloc]; have := HBA.out; have := hBV.size; omega)
    have hbb4 := HAV.out.hb
    clear hAV hBV hrx hpx hqx2 hpb hbN
    go_cut [] (fun wx => ∃ ya yc, BookAt wx bb base (.slice ya (m + 1) yc) ⟨B.time, B.ls ++ [⟨q.key, 1, q.x, q.y, 0, 0⟩]⟩ ∧ wx.heap[w.heap.size + 1]? = some (.cells #[.int .u8 0, .int .u64 0, .int .u64 0] 40) ∧ Keep (fun b => b = bb ∨ (Value.slice la m lc).ownBlock = some b) w wx ∧ (∀ g, (Value.slice ya (m + 1) yc).ownBlock = some g → (Value.slice la m lc).ownBlock = some g ∨ w.heap.size ≤ g))
    case first =>
      go_region_law (refine step_append_any (by rfl) _ _ 51 139 i0 ZL 13 48 Tryz.underlying51 hi hz0 hz1 hz2 (by rfl) (by decide) (by rfl) base (.slice la m lc) m (lncs B.ls) (by rfl) HOWN.out ⟨V.heap.size, 0, none⟩ 1 1 (lnc ⟨q.key, 1, q.x, q.y, 0, 0⟩) (by rfl) (by rfl) HCL.out (by simp [lnc, Value.oneCell']) (by omega) (by omega) HBS.out ?_; intro v5 w4 hown4 hgr4 hloc4; obtain ⟨ya, yc, hyw⟩ := own_sliceE hown4; subst hyw; have hh4 := ((hgr4.block bb HLT.out (fun e => own_neE HAV.out.ho e.symm hbb4 (by decide) rfl)).trans (heapOld V _ (ltB hbb4))).trans hbb4; have d1 := cellB hh4; have d2 := frozenB hh4)
      all_goals have hend := def_end (V := V) (X := (V.alloc (.cells #[.int .u8 q.k0, .int .u8 q.k1, .int .u8 q.k2, .int .u8 q.k3, .int .u8 q.k4, .int .u8 q.k5, .int .u8 q.k6, .int .u8 q.k7, .int .u8 1, .int .u64 q.x, .int .u64 q.y, .int .u64 0, .int .u64 0] 139)).drew) (R := w.heap.size + 1) HAV.out HM.out (fun k hk => heapOld V _ hk) (World.size_alloc V _) ⟨rfl, rfl, rfl⟩ hown4 hgr4 hloc4 HBV.out HRX.out hbR' (fun e => by have := HGL.out _ e; omega)
      all_goals (go_wp2_with fail; go_meet)
      all_goals exact ⟨_, _, hend⟩
    case rest =>
      obtain ⟨ya, yc, g1, g2, g3, g4⟩ := hcut
      have u1 := cellB g2
      have u2 := frozenB g2
      have HG1 := hide g1
      have HG2 := hide g2
      have HG3 := hide g3
      have HG4 := hide g4
      have HE2 := HE.out
      rw [c1] at HE2
      have HE3 := hide HE2
      clear g1 g2 g3 g4 t0 t1 t2 t3 t4 t5 t6 t7 t8 t9 t10 HE2
      go_wp2_with fail
      exact bodyPost_ret (v := .agg #[.int .u8 1, .int .u64 0, .int .u64 0]) (by simp [results, Tryz.results57, go_sem, u1]) rfl (AskPost.mk' HG1.out HE3.out (Nat.le_succ _) hbR (fun g hg => own_neE HG1.out.ho hg HG2.out (by decide)) HG3.out HG4.out)
  · have c2b : (q.y == 0) = false := by simpa using c2
    rw [c1] at z1 z2 y2 HA2 HBE2 x0 HQ1
    go_wp2_with fail
    obtain ⟨V, hV⟩ : ∃ V, V = w1.alloc (.cells #[.int .u8 2, .int .u64 q.x, .int .u64 q.y] 30) := ⟨_, rfl⟩
    have hpx : V.heap[w1.heap.size]? = some (.cells #[.int .u8 2, .int .u64 q.x, .int .u64 q.y] 30) := hV ▸ heapNew _ _
    have hqx : V.heap[w.heap.size]? = w1.heap[w.heap.size]? := hV ▸ heapOld _ _ (ltB HQ1.out)
    have hqx2 := hqx.trans HQ1.out
    have hrx : V.heap[w.heap.size + 1]? = some (.cells #[.int .u8 0, .int .u64 0, .int .u64 0] 40) := hV ▸ upB HR1.out _
    have hAV : BookAt V bb base (.slice la m lc) B := hV ▸ HA2.out
    have hBV : Below w.heap.size w V := hV ▸ HBE2.out
    rw [← hV]
    clear hV z1 z2 y2 x0 x1 x2 y1 hqx
    obtain ⟨pb, hpb⟩ : ∃ pb, pb = w1.heap.size := ⟨_, rfl⟩
    rw [← hpb] at hpx ⊢
    have t0 := cellB hAV.hb 0
    have t1 := cellB hqx2 1
    have t2 := cellB hqx2 2
    have t3 := cellB hqx2 3
    have t4 := cellB hqx2 4
    have t5 := cellB hqx2 5
    have t6 := cellB hqx2 6
    have t7 := cellB hqx2 7
    have t8 := cellB hqx2 8
    have t9 := cellB hpx
    have t10 := upC hAV.hb (.cells #[.int .u8 q.k0, .int .u8 q.k1, .int .u8 q.k2, .int .u8 q.k3, .int .u8 q.k4, .int .u8 q.k5, .int .u8 q.k6, .int .u8 q.k7, .int .u8 2, .int .u64 q.x, .int .u64 q.y, .int .u64 0, .int .u64 0] 139) 0
    have HLT : Hid (bb < (V.alloc (.cells #[.int .u8 q.k0, .int .u8 q.k1, .int .u8 q.k2, .int .u8 q.k3, .int .u8 q.k4, .int .u8 q.k5, .int .u8 q.k6, .int .u8 q.k7, .int .u8 2, .int .u64 q.x, .int .u64 q.y, .int .u64 0, .int .u64 0] 139)).drew.heap.size) := hide (by show bb < (V.alloc _).heap.size; rw [World.size_alloc]; exact Nat.lt_succ_of_lt (ltB hAV.hb))
    have HAV := hide hAV
    have HBV := hide hBV
    have HRX := hide hrx
    have hbN : bb ≠ V.heap.size := Nat.ne_of_lt (ltB hAV.hb)
    have HBN := hide hbN
    have HOWN : Hid ((V.alloc (.cells #[.int .u8 q.k0, .int .u8 q.k1, .int .u8 q.k2, .int .u8 q.k3, .int .u8 q.k4, .int .u8 q.k5, .int .u8 q.k6, .int .u8 q.k7, .int .u8 2, .int .u64 q.x, .int .u64 q.y, .int .u64 0, .int .u64 0] 139)).drew.ownsRow base 139 13 (.slice la m lc) m (lncs B.ls)) := hide (by
      have h0 := hAV.ho
      rw [← HM.out] at h0
      exact own_keptE h0 (fun z hz => heapOld _ _ (own_ltE h0 hz).2))
    have HCL : Hid (∀ j u, (lnc ⟨q.key, 2, q.x, q.y, 0, 0⟩)[j]? = some u → (V.alloc (.cells #[.int .u8 q.k0, .int .u8 q.k1, .int .u8 q.k2, .int .u8 q.k3, .int .u8 q.k4, .int .u8 q.k5, .int .u8 q.k6, .int .u8 q.k7, .int .u8 2, .int .u64 q.x, .int .u64 q.y, .int .u64 0, .int .u64 0] 139)).drew.cell? ((⟨V.heap.size, 0, none⟩ : Addr).add j) = some u) := hide (fun j u hj => by
      rw [Addr.add_lit, Nat.zero_add]
      refine (cellB (heapNew V (.cells #[.int .u8 q.k0, .int .u8 q.k1, .int .u8 q.k2, .int .u8 q.k3, .int .u8 q.k4, .int .u8 q.k5, .int .u8 q.k6, .int .u8 q.k7, .int .u8 2, .int .u64 q.x, .int .u64 q.y, .int .u64 0, .int .u64 0] 139)) j).trans ?_
      rw [← hj]
      simp [lnc, Rq.key])
    have HBS : Hid (base ≤ (V.alloc (.cells #[.int .u8 q.k0, .int .u8 q.k1, .int .u8 q.k2, .int .u8 q.k3, .int .u8 q.k4, .int .u8 q.k5, .int .u8 q.k6, .int .u8 q.k7, .int .u8 2, .int .u64 q.x, .int .u64 q.y, .int .u64 0, .int .u64 0] 139)).drew.heap.size) := hide (by show base ≤ (V.alloc _).heap.size; rw [World.size_alloc]; have := HBA.out; have := hBV.size; omega)
    have hbb4 := HAV.out.hb
    clear hAV hBV hrx hpx hqx2 hpb hbN
    go_cut [] (fun wx => ∃ ya yc, BookAt wx bb base (.slice ya (m + 1) yc) ⟨B.time, B.ls ++ [⟨q.key, 2, q.x, q.y, 0, 0⟩]⟩ ∧ wx.heap[w.heap.size + 1]? = some (.cells #[.int .u8 0, .int .u64 0, .int .u64 0] 40) ∧ Keep (fun b => b = bb ∨ (Value.slice la m lc).ownBlock = some b) w wx ∧ (∀ g, (Value.slice ya (m + 1) yc).ownBlock = some g → (Value.slice la m lc).ownBlock = some g ∨ w.heap.size ≤ g))
    case first =>
      go_region_law (refine step_append_any (by rfl) _ _ 51 139 i0 ZL 13 48 Tryz.underlying51 hi hz0 hz1 hz2 (by rfl) (by decide) (by rfl) base (.slice la m lc) m (lncs B.ls) (by rfl) HOWN.out ⟨V.heap.size, 0, none⟩ 1 1 (lnc ⟨q.key, 2, q.x, q.y, 0, 0⟩) (by rfl) (by rfl) HCL.out (by simp [lnc, Value.oneCell']) (by omega) (by omega) HBS.out ?_; intro v5 w4 hown4 hgr4 hloc4; obtain ⟨ya, yc, hyw⟩ := own_sliceE hown4; subst hyw; have hh4 := ((hgr4.block bb HLT.out (fun e => own_neE HAV.out.ho e.symm hbb4 (by decide) rfl)).trans (heapOld V _ (ltB hbb4))).trans hbb4; have d1 := cellB hh4; have d2 := frozenB hh4)
      all_goals have hend := def_end (V := V) (X := (V.alloc (.cells #[.int .u8 q.k0, .int .u8 q.k1, .int .u8 q.k2, .int .u8 q.k3, .int .u8 q.k4, .int .u8 q.k5, .int .u8 q.k6, .int .u8 q.k7, .int .u8 2, .int .u64 q.x, .int .u64 q.y, .int .u64 0, .int .u64 0] 139)).drew) (R := w.heap.size + 1) HAV.out HM.out (fun k hk => heapOld V _ hk) (World.size_alloc V _) ⟨rfl, rfl, rfl⟩ hown4 hgr4 hloc4 HBV.out HRX.out hbR' (fun e => by have := HGL.out _ e; omega)
      all_goals (go_wp2_with fail; go_meet)
      all_goals exact ⟨_, _, hend⟩
    case rest =>
      obtain ⟨ya, yc, g1, g2, g3, g4⟩ := hcut
      have u1 := cellB g2
      have u2 := frozenB g2
      have HG1 := hide g1
      have HG2 := hide g2
      have HG3 := hide g3
      have HG4 := hide g4
      have HE2 := HE.out
      rw [c1] at HE2
      have HE3 := hide HE2
      clear g1 g2 g3 g4 t0 t1 t2 t3 t4 t5 t6 t7 t8 t9 t10 HE2
      go_wp2_with fail
      exact bodyPost_ret (v := .agg #[.int .u8 1, .int .u64 0, .int .u64 0]) (by simp [results, Tryz.results57, go_sem, u1]) rfl (AskPost.mk' HG1.out HE3.out (Nat.le_succ _) hbR (fun g hg => own_neE HG1.out.ho hg HG2.out (by decide)) HG3.out HG4.out)
end Go.Proofs.YtlamgpeiolfffaaGreatDoor
