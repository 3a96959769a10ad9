import Derived.Test.YtnlgndpcddngoaaGreatDoorZc25
import Derived.Test.YtnlgndpcddngoaaGreatDoorZc44
set_option linter.unusedSectionVars false
namespace Go.Proofs.YtnlgndpcddngoaaGreatDoor
open Go.RowKit Go.Maps
variable [dK] [iK]

theorem methodRemove (h : Value) (w : World) : (Go.method 510 78 h "Remove").run Tryz.prog w = .ok (257, h) w := by kernel_rfl

set_option maxRecDepth 100000 in
set_option maxHeartbeats 2000000 in
/-- What a sweep does. -/
theorem sweep162 (g db k : Nat) : Sweeps g db k := by
  intro w t fsD fsN F ht hS hD hgF
  obtain ⟨mb, nb, l, f, m1, m2, m3, m4, m5, m6, m7, m8⟩ := hD.mem
  obtain ⟨T, hT⟩ : ∃ T, IntKind.u64.wrap (t - 1) = T := ⟨_, rfl⟩
  have hT0 : 0 ≤ T ∧ T ≤ 18446744073709551615 := by rw [← hT, IntKind.wrap_u64]; omega
  obtain ⟨x, hx⟩ : ∃ x, x = (T % 2 == 1) := ⟨_, rfl⟩
  have HNA := name_any T w hT0.1 hT0.2
  rw [← hx] at HNA
  have HNA := hide HNA
  have HNM := hide (names255 db nb _ _ _ _ fsN w m1 m3)
  have hgl := hS.lt
  have hdl := hD.lt db hD.own
  have hgd : g ≠ db := fun e => hgF (e ▸ hD.own)
  have hgm : g ≠ mb := fun e => hgF (e ▸ m6)
  have hgn : g ≠ nb := fun e => hgF (e ▸ m7)
  have hmd : mb ≠ db := m2.map.ne m1
  have hnd : nb ≠ db := m3.map.ne m1
  have a1 := hS.turn
  have a2 := hS.dsk
  have hmn := methodNames (.pointer (some ⟨db, 0, none⟩))
  have hmr := methodRemove (.pointer (some ⟨db, 0, none⟩))
  have hms := methodSync (.pointer (some ⟨db, 0, none⟩))
  have HM1 := hide m1
  have HM2 := hide m2
  have HM3 := hide m3
  have HM4 := hide (And.intro m4 m5)
  have HD := hide hD
  have HS := hide hS
  have HHT := hide ht
  have HX := hide (hx.trans (by rw [← hT]))
  clear m1 m2 m3 m4 m5 hD hS ht hx hT0
  go_enter Tryz.func162, Tryz.ntmps162
  go_wp2_with fail
  refine HNA.out.mono ?_
  rintro e w' ⟨rfl, he⟩
  have he' := he.symm
  clear he
  subst he'
  go_wp2_with fail
  refine HNM.out.mono ?_
  rintro e w1 ⟨v, bs, rfl, hbs, hnl, hnm, hb1⟩
  have HC := contains146 v bs x w1 hnm hnl
  obtain ⟨r, hr⟩ : ∃ r, r = bs.any (fun y => x == y) := ⟨_, rfl⟩
  rw [← hr] at HC
  have HC := hide HC
  have HBS := hide hbs
  have HR := hide hr
  have hS1 : StoAt w1 g db t := HS.out.kept (hb1.block g hgl)
  have hD1 : DskAt w1 db (k + 2) fsD fsN F := HD.out.kept hb1.size (fun b hb => hb1.block b (HD.out.lt b hb))
  have HS1 := hide hS1
  have HD1 := hide hD1
  have HB1 := hide hb1
  have b1 := hS1.dsk
  clear hbs hr hS1 hD1 hb1 hnm a1 a2 HNA HNM
  cases r
  · go_wp2_with (go_at_call 146; refine HC.out.mono ?_; rintro e w' ⟨rfl, he⟩; have he' := he.symm; clear he; subst he')
    go_ret
    exact ⟨rfl, t, fsD, fsN, F, ⟨HHT.out, rfl, Or.inl rfl⟩, HS1.out, HD1.out.less (by omega), fun b hb => Or.inl hb, Keep.of_below HB1.out⟩
  · have hin : (fndG x fsN).isSome = true := by
      refine (HBS.out x).1 ?_
      obtain ⟨y, hy, hxy⟩ := List.any_eq_true.1 HR.out.symm
      have : x = y := by simpa using hxy
      exact this ▸ hy
    have m1 := (HB1.out.block db hdl).trans HM1.out
    have m3 : DirAt w1 nb fsN := HM3.out.kept (HB1.out.block nb (HD.out.lt nb m7)) (fun p hp => HB1.out.block _ (HD.out.lt _ (HD.out.sN p hp)))
    have m2 : DirAt w1 mb fsD := HM2.out.kept (HB1.out.block mb (HD.out.lt mb m6)) (fun p hp => HB1.out.block _ (HD.out.lt _ (HD.out.sD p hp)))
    have h4 := HM4.out
    have HRM := hide (remove257 db nb (.map (some mb)) fsN x l f w1 m1 m3 (by omega) (by omega) hin)
    have HM21 := hide m2
    have HM31 := hide m3
    have HM11 := hide m1
    clear m1 m2 m3 h4
    go_wp2_with (first | (go_at_call 146; refine HC.out.mono ?_; rintro e w' ⟨rfl, he⟩; have he' := he.symm; clear he; subst he') | fail)
    refine HRM.out.mono ?_
    rintro e w2 ⟨rfl, pv, q1, q2, q3, q4⟩
    have hS2 : StoAt w2 g db t := HS1.out.kept (q4.block g HS1.out.lt (fun h => h.elim hgd hgn))
    have hM2 : DirAt w2 mb fsD := HM21.out.keep q4 (fun h => h.elim hmd m8) (fun p hp h => by
      have h1 := HM21.out.str p hp
      rcases h with h | h
      · rw [h, HM11.out] at h1; simp at h1
      · rw [h] at h1; exact HM31.out.map.ne h1 rfl)
    have h4 := HM4.out
    have HSY := hide (sync258d db mb w1.heap.size (.map (some nb)) pv fsD x ⟨#[]⟩ (l - 1) (f - 1) w2 q1 hM2 (by omega) (by omega) q3)
    have c1 := hS2.dsk
    have HS2 := hide hS2
    have HQ := hide (And.intro q1 (And.intro q2 q4))
    have HM22 := hide hM2
    clear q1 q2 q3 q4 hS2 hM2 h4 b1
    go_wp2_with fail
    refine HSY.out.mono ?_
    rintro e w3 ⟨rfl, gg, r1, r2, r3, r4⟩
    have HRR := hide (And.intro r1 (And.intro r3 r4))
    clear r1 r2 r3 r4
    go_wp2
    go_ret
    obtain ⟨r1, r3, r4⟩ := HRR.out
    obtain ⟨q1, q2, q4⟩ := HQ.out
    have h4 := HM4.out
    have hN3 : DirAt w3 nb (delG x fsN) := q2.keep r4 (fun h => h.elim hnd (fun e => m8 e.symm)) (fun p hp h => by
      have h1 := q2.str p hp
      rcases h with h | h
      · rw [h, q1] at h1; simp at h1
      · rw [h] at h1; exact HM22.out.map.ne h1 rfl)
    have s1 := HB1.out.size
    have s2 := q4.size
    have s3 := r4.size
    refine ⟨rfl, t, delG x fsD, delG x fsN, F, ⟨HHT.out, rfl, Or.inr (by rw [HX.out])⟩, HS2.out.kept (r4.block g HS2.out.lt (fun h => h.elim hgd hgm)), ⟨⟨mb, nb, l - 1 - 1, f - 1 - 1, r1, r3, hN3, by omega, by omega, m6, m7, m8⟩, fun p hp => HD.out.sD p (delG_sub.subset hp), fun p hp => HD.out.sN p (delG_sub.subset hp), HD.out.own, fun b hb => by have := HD.out.lt b hb; omega⟩, fun b hb => Or.inl hb, ?_⟩
    refine ((Keep.of_below HB1.out).then q4 (fun i _ h => ?_)).then r4 (fun i _ h => ?_)
    · rcases h with h | h
      · exact Or.inr (h ▸ HD.out.own)
      · exact Or.inr (h ▸ m7)
    · rcases h with h | h
      · exact Or.inr (h ▸ HD.out.own)
      · exact Or.inr (h ▸ m6)
theorem sweeps (g db k : Nat) : Hid (Sweeps g db k) := hide (sweep162 g db k)
end Go.Proofs.YtnlgndpcddngoaaGreatDoor
