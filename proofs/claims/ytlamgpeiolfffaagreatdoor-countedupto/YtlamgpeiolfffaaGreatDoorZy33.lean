import Derived.Test.YtlamgpeiolfffaaGreatDoorZy30
import Derived.Test.YtlamgpeiolfffaaGreatDoorZy31
set_option linter.unusedSectionVars false
namespace Go.Proofs.YtlamgpeiolfffaaGreatDoor
open Go.RowKit
variable [dK] [iK]

theorem lncs_set (a b : Int) : ∀ (ls : List Ln) (i : Nat) (l : Ln), ls[i]? = some l → lncs (ls.set i ⟨l.k, l.kd, l.x, l.y, a, b⟩) = ((lncs ls).set (i * 13 + 11) (.int .u64 a)).set (i * 13 + 12) (.int .u64 b) := by
  intro ls
  induction ls with
  | nil => intro i l h; simp at h
  | cons q r ih =>
    intro i l h
    cases i with
    | zero =>
      simp at h
      subst h
      simp [lncs, lnc]
    | succ i =>
      have h' : r[i]? = some l := by simpa using h
      have e := ih i l h'
      simp only [List.set_cons_succ]
      unfold lncs at e ⊢
      rw [List.flatMap_cons, List.flatMap_cons, e]
      have hl : (lnc q).length = 13 := rfl
      rw [List.set_append_right _ _ (by rw [hl]; omega), List.set_append_right _ _ (by rw [hl]; omega), hl]
      congr 2
      · congr 1 <;> omega
      · omega
theorem BookAt.store {w : World} {bb base g cap : Nat} {B : Bk} {i : Nat} {l : Ln} (h : BookAt w bb base (.slice (some ⟨g, 0, none⟩) B.ls.length cap) B) (hi : B.ls[i]? = some l) (a b : Int) :
    BookAt ((w.setCell ⟨g, i * 13 + 11, none⟩ (.int .u64 a)).setCell ⟨g, i * 13 + 12, none⟩ (.int .u64 b)) bb base (.slice (some ⟨g, 0, none⟩) B.ls.length cap) ⟨B.time, B.ls.set i ⟨l.k, l.kd, l.x, l.y, a, b⟩⟩ := by
  have hne : bb ≠ g := fun e => own_neE h.ho (g := g) rfl h.hb (by decide) e.symm
  refine ⟨by rw [heapSetO hne, heapSetO hne]; exact h.hb, ?_⟩
  have h1 := (h.ho.stored (i * 13 + 11) (.int .u64 a)).1
  have h2 := (h1.stored (i * 13 + 12) (.int .u64 b)).1
  rw [lncs_set a b B.ls i l hi, List.length_set]
  exact h2

theorem BookAt.box {u : World} {bb base : Nat} {lv : Value} {B : Bk} (h : BookAt u bb base lv B) {R : Nat} (h1 : bb ≠ R) (h2 : ∀ g, lv.ownBlock = some g → g ≠ R) (a0 a1 a2 : Value) : BookAt (((u.setCell ⟨R, 0, none⟩ a0).setCell ⟨R, 1, none⟩ a1).setCell ⟨R, 2, none⟩ a2) bb base lv B :=
  h.kept (fun k hk => by
    have hne : k ≠ R := by
      rcases hk with rfl | hk
      · exact h1
      · exact h2 k hk
    rw [heapSetO hne, heapSetO hne, heapSetO hne])
set_option maxRecDepth 100000 in
set_option maxHeartbeats 2000000 in
theorem admit86 (bb base : Nat) (lv : Value) (B : Bk) (i : Nat) (l : Ln) (n : Int) (w : World) (h : BookAt w bb base lv B) (hi : B.ls[i]? = some l) (hl : B.ls.length ≤ 12) (ho : l.ok) (hn : 0 ≤ n ∧ n ≤ 18446744073709551615) (hT : 0 ≤ B.time ∧ B.time ≤ 18446744073709551615)
    (h111 : Hid (∀ (bb : Nat) (lv : Value) (T : Int) (l : Ln) (n : Int) (w : World), w.heap[bb]? = some (.cells #[lv, .int .u64 T] 53) → l.ok → 1 ≤ l.x → (0 ≤ n ∧ n ≤ 18446744073709551615) → (0 ≤ T ∧ T ≤ 18446744073709551615) →
      Calls Tryz.prog 111 #[.pointer (some ⟨bb, 0, none⟩), .agg #[.int .u8 l.k.k0, .int .u8 l.k.k1, .int .u8 l.k.k2, .int .u8 l.k.k3, .int .u8 l.k.k4, .int .u8 l.k.k5, .int .u8 l.k.k6, .int .u8 l.k.k7, .int .u8 l.kd, .int .u64 l.x, .int .u64 l.y, .int .u64 l.at_, .int .u64 l.in_], .int .u64 n] w fun e w' => e = .returned (.tuple #[.int .u64 (spacedM T l n).1, .bool (spacedM T l n).2.1, .int .u64 (spacedM T l n).2.2]) ∧ Below w.heap.size w w')) :
    Calls Tryz.prog 86 #[.pointer (some ⟨bb, 0, none⟩), .int .i64 i, .int .u64 n] w fun e w' => e = .returned (.agg #[.int .u8 (admitM B i l n).2.c, .int .u64 (admitM B i l n).2.a, .int .u64 (admitM B i l n).2.b]) ∧ BookAt w' bb base lv (admitM B i l n).1 ∧ Keep (fun b => lv.ownBlock = some b) w w' := by
  obtain ⟨W0, hW0⟩ : ∃ W0, W0 = w.alloc (.cells #[.int .u8 0, .int .u64 0, .int .u64 0] 40) := ⟨_, rfl⟩
  have hbx : W0.heap[w.heap.size]? = some (.cells #[.int .u8 0, .int .u64 0, .int .u64 0] 40) := hW0 ▸ heapNew _ _
  have hB0 : Below w.heap.size w W0 := hW0 ▸ (Below.refl _ w).alloc (Nat.le_refl _) _
  have hA0 := h.below hB0 (Nat.le_refl _)
  obtain ⟨g, cap, rfl, _, hgl, L, hlt⟩ := hA0.open hi
  obtain ⟨d0, d1, d2, d3, d4, d5, d6, d7, d8, d9, d10, d11, d12⟩ := L
  have a1 := cellB hA0.hb 0
  have hlt' : (i : Int) < (B.ls.length : Int) := by omega
  have hl' : (B.ls.length : Int) ≤ 12 := by omega
  have hi0 : (0 : Int) ≤ (i : Int) := by omega
  obtain ⟨m, hm⟩ : ∃ m, m = B.ls.length := ⟨_, rfl⟩
  rw [← hm] at hlt' hl' a1
  have HA0 := hide hA0
  have HB0 := hide hB0
  have HBX := hide hbx
  have HH := hide h
  have HI := hide hi
  have HL := hide hl
  clear hA0 hB0 hbx h hi hl hlt hgl
  by_cases hk : l.kd = 1
  · have hkx : 1 ≤ l.x := by rcases ho.kd with h | h <;> omega
    rw [hk] at d8
    have hk8 := hk
    clear hk
    subst hW0
    go_enter Tryz.func86, Tryz.ntmps86
    go_wp2_with fail
    have h1 := h111.out bb _ B.time l n _ HA0.out.hb ho hkx hn hT
    rw [hk8] at h1
    refine h1.mono ?_
    rintro e w1 ⟨rfl, hb1⟩
    have hla : lnAdm B.time l n = spacedM B.time l n := by unfold lnAdm; rw [if_pos hk8]
    have hlw : lnWin B.time l = 0 := by unfold lnWin; rw [if_pos hk8]
    obtain ⟨at_, ok, when, hr⟩ : ∃ at_ ok when, lnAdm B.time l n = (at_, ok, when) := ⟨_, _, _, rfl⟩
    rw [hla] at hr
    rw [hr]
    rw [← hla] at hr
    clear hla h1
    have hB1w := HB0.out.trans (hb1.mono HB0.out.size)
    have hA1 := HA0.out.below hb1 (Nat.le_refl _)
    have hbx1 := (hb1.block _ (ltB HBX.out)).trans HBX.out
    have x1 := cellB hbx1
    have x2 := frozenB hbx1
    have hbb : bb ≠ w.heap.size := Nat.ne_of_lt (ltB HH.out.hb)
    have hbb' : w.heap.size ≠ bb := fun e => hbb e.symm
    have hgb : g ≠ w.heap.size := own_neE hA1.ho (g := g) rfl hbx1 (by decide)
    have hgb' : w.heap.size ≠ g := fun e => hgb e.symm
    have hgbb : g ≠ bb := own_neE hA1.ho (g := g) rfl hA1.hb (by decide)
    have hgbb' : bb ≠ g := fun e => hgbb e.symm
    have y1 := cellB hA1.hb 0
    have y11 := (hA1.line HI.out).c11
    have y12 := (hA1.line HI.out).c12
    have z11 : w1.frozen? ⟨g, i * 13 + 11, none⟩ = false := hA1.ho.frozenAt _
    have z12 : w1.frozen? ⟨g, i * 13 + 12, none⟩ = false := hA1.ho.frozenAt _
    have hown : ∀ z, (Value.slice (some ⟨g, 0, none⟩) B.ls.length cap).ownBlock = some z → z ≠ w.heap.size := fun z hz => by
      simp [Value.ownBlock] at hz
      omega
    have HOW := hide hown
    clear hown
    have HA1 := hide hA1
    have HBW := hide hB1w
    rw [hm] at hlt' hl'
    clear hb1 hA1 hB1w hbx1 d0 d1 d2 d3 d4 d5 d6 d7 d8 d9 d10 d11 d12 a1
    cases ok with
    | false =>
      have em : admitM B i l n = (B, ⟨3, when, 0⟩) := by unfold admitM; rw [hr]; rfl
      have HE := hide em
      clear em hr y11 y12 z11 z12
      go_wp2_with fail
      refine bodyPost_ret (v := .agg #[.int .u8 3, .int .u64 when, .int .u64 0]) (by simp [results, Tryz.results86, go_sem, x1]) rfl ⟨by rw [HE.out], ?_, ?_⟩
      · rw [HE.out]
        exact HA1.out.box hbb HOW.out _ _ _
      · exact (((Keep.of_below HBW.out).set (Or.inr (Nat.le_refl _)) _ _).set (Or.inr (Nat.le_refl _)) _ _).set (Or.inr (Nat.le_refl _)) _ _
    | true =>
      by_cases hn0 : 0 < n
      · have em : admitM B i l n = (⟨B.time, B.ls.set i ⟨l.k, l.kd, l.x, l.y, at_, 0⟩⟩, ⟨2, at_, 0⟩) := by unfold admitM; rw [hr, hlw, if_pos rfl, if_pos hn0]
        have HE := hide em
        clear em hr
        go_wp2_with fail
        refine bodyPost_ret (v := .agg #[.int .u8 2, .int .u64 at_, .int .u64 0]) (by simp [results, Tryz.results86, go_sem, x1]) rfl ⟨by rw [HE.out], ?_, ?_⟩
        · rw [HE.out]
          exact (HA1.out.store HI.out at_ 0).box hbb HOW.out _ _ _
        · exact (((((Keep.of_below (S := fun b => (Value.slice (some ⟨g, 0, none⟩) B.ls.length cap).ownBlock = some b) HBW.out).set (b := g) (Or.inl rfl) _ _).set (b := g) (Or.inl rfl) _ _).set (Or.inr (Nat.le_refl _)) _ _).set (Or.inr (Nat.le_refl _)) _ _).set (Or.inr (Nat.le_refl _)) _ _
      · have em : admitM B i l n = (B, ⟨2, at_, 0⟩) := by unfold admitM; rw [hr, hlw, if_pos rfl, if_neg hn0]
        have HE := hide em
        clear em hr y11 y12 z11 z12
        go_wp2_with fail
        refine bodyPost_ret (v := .agg #[.int .u8 2, .int .u64 at_, .int .u64 0]) (by simp [results, Tryz.results86, go_sem, x1]) rfl ⟨by rw [HE.out], ?_, ?_⟩
        · rw [HE.out]
          exact HA1.out.box hbb HOW.out _ _ _
        · exact (((Keep.of_below HBW.out).set (Or.inr (Nat.le_refl _)) _ _).set (Or.inr (Nat.le_refl _)) _ _).set (Or.inr (Nat.le_refl _)) _ _
  · have hkb : (l.kd == 1) = false := by simpa using hk
    subst hW0
    go_enter Tryz.func86, Tryz.ntmps86
    go_wp2_with fail
    refine (stands85 bb base _ B i l _ HA0.out HI.out HL.out ho hT).mono ?_
    rintro e w0 ⟨rfl, hb0⟩
    have hst : (standsM B.time l).2 = B.time / l.y := by unfold standsM; rw [if_neg hk]; split <;> rfl
    have hla : lnAdm B.time l n = windowedM B.time l n := by unfold lnAdm; rw [if_neg hk]
    obtain ⟨Q, hQ⟩ : ∃ Q, Q = B.time / l.y := ⟨_, rfl⟩
    have hlw : lnWin B.time l = Q := by unfold lnWin; rw [if_neg hk, hQ]
    rw [hst, ← hQ]
    have HHB := hide hb0
    clear hst hQ hb0
    go_wp2_with fail
    refine (windowed112 bb base _ B i l n _ (HA0.out.below HHB.out (Nat.le_refl _)) HI.out HL.out ho hk hn hT).mono ?_
    rintro e w1 ⟨rfl, hb1'⟩
    have hb1 : Below (w.alloc (.cells #[.int .u8 0, .int .u64 0, .int .u64 0] 40)).heap.size (w.alloc (.cells #[.int .u8 0, .int .u64 0, .int .u64 0] 40)) w1 := HHB.out.trans (hb1'.mono HHB.out.size)
    obtain ⟨at_, ok, when, hr⟩ : ∃ at_ ok when, lnAdm B.time l n = (at_, ok, when) := ⟨_, _, _, rfl⟩
    rw [hla] at hr
    rw [hr]
    rw [← hla] at hr
    clear hla hb1'
    have hB1w := HB0.out.trans (hb1.mono HB0.out.size)
    have hA1 := HA0.out.below hb1 (Nat.le_refl _)
    have hbx1 := (hb1.block _ (ltB HBX.out)).trans HBX.out
    have x1 := cellB hbx1
    have x2 := frozenB hbx1
    have hbb : bb ≠ w.heap.size := Nat.ne_of_lt (ltB HH.out.hb)
    have hbb' : w.heap.size ≠ bb := fun e => hbb e.symm
    have hgb : g ≠ w.heap.size := own_neE hA1.ho (g := g) rfl hbx1 (by decide)
    have hgb' : w.heap.size ≠ g := fun e => hgb e.symm
    have hgbb : g ≠ bb := own_neE hA1.ho (g := g) rfl hA1.hb (by decide)
    have hgbb' : bb ≠ g := fun e => hgbb e.symm
    have y1 := cellB hA1.hb 0
    have y11 := (hA1.line HI.out).c11
    have y12 := (hA1.line HI.out).c12
    have z11 : w1.frozen? ⟨g, i * 13 + 11, none⟩ = false := hA1.ho.frozenAt _
    have z12 : w1.frozen? ⟨g, i * 13 + 12, none⟩ = false := hA1.ho.frozenAt _
    have hown : ∀ z, (Value.slice (some ⟨g, 0, none⟩) B.ls.length cap).ownBlock = some z → z ≠ w.heap.size := fun z hz => by
      simp [Value.ownBlock] at hz
      omega
    have HOW := hide hown
    clear hown
    have HA1 := hide hA1
    have HBW := hide hB1w
    rw [hm] at hlt' hl'
    clear hb1 hA1 hB1w hbx1 d0 d1 d2 d3 d4 d5 d6 d7 d8 d9 d10 d11 d12 a1
    cases ok with
    | false =>
      have em : admitM B i l n = (B, ⟨3, when, 0⟩) := by unfold admitM; rw [hr]; rfl
      have HE := hide em
      clear em hr y11 y12 z11 z12
      go_wp2_with fail
      refine bodyPost_ret (v := .agg #[.int .u8 3, .int .u64 when, .int .u64 0]) (by simp [results, Tryz.results86, go_sem, x1]) rfl ⟨by rw [HE.out], ?_, ?_⟩
      · rw [HE.out]
        exact HA1.out.box hbb HOW.out _ _ _
      · exact (((Keep.of_below HBW.out).set (Or.inr (Nat.le_refl _)) _ _).set (Or.inr (Nat.le_refl _)) _ _).set (Or.inr (Nat.le_refl _)) _ _
    | true =>
      by_cases hn0 : 0 < n
      · have em : admitM B i l n = (⟨B.time, B.ls.set i ⟨l.k, l.kd, l.x, l.y, at_, Q⟩⟩, ⟨2, at_, Q⟩) := by unfold admitM; rw [hr, hlw, if_pos rfl, if_pos hn0]
        have HE := hide em
        clear em hr
        go_wp2_with fail
        refine bodyPost_ret (v := .agg #[.int .u8 2, .int .u64 at_, .int .u64 Q]) (by simp [results, Tryz.results86, go_sem, x1]) rfl ⟨by rw [HE.out], ?_, ?_⟩
        · rw [HE.out]
          exact (HA1.out.store HI.out at_ Q).box hbb HOW.out _ _ _
        · exact (((((Keep.of_below (S := fun b => (Value.slice (some ⟨g, 0, none⟩) B.ls.length cap).ownBlock = some b) HBW.out).set (b := g) (Or.inl rfl) _ _).set (b := g) (Or.inl rfl) _ _).set (Or.inr (Nat.le_refl _)) _ _).set (Or.inr (Nat.le_refl _)) _ _).set (Or.inr (Nat.le_refl _)) _ _
      · have em : admitM B i l n = (B, ⟨2, at_, Q⟩) := by unfold admitM; rw [hr, hlw, if_pos rfl, if_neg hn0]
        have HE := hide em
        clear em hr y11 y12 z11 z12
        go_wp2_with fail
        refine bodyPost_ret (v := .agg #[.int .u8 2, .int .u64 at_, .int .u64 Q]) (by simp [results, Tryz.results86, go_sem, x1]) rfl ⟨by rw [HE.out], ?_, ?_⟩
        · rw [HE.out]
          exact HA1.out.box hbb HOW.out _ _ _
        · exact (((Keep.of_below HBW.out).set (Or.inr (Nat.le_refl _)) _ _).set (Or.inr (Nat.le_refl _)) _ _).set (Or.inr (Nat.le_refl _)) _ _
end Go.Proofs.YtlamgpeiolfffaaGreatDoor
