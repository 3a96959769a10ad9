import Derived.Test.YtlamgpeiolfffaaGreatDoorZz24
import Derived.Test.YtlamgpeiolfffaaGreatDoorZz25
import Derived.Test.YtlamgpeiolfffaaGreatDoorZz26
import Derived.Test.YtlamgpeiolfffaaGreatDoorZz27
import Derived.Test.YtlamgpeiolfffaaGreatDoorZz28
import Derived.Test.YtlamgpeiolfffaaGreatDoorZz29
import Derived.Test.YtlamgpeiolfffaaGreatDoorZz33
import Derived.Test.YtlamgpeiolfffaaGreatDoorZz15
import Derived.Test.YtlamgpeiolfffaaGreatDoorZz21
import Derived.Test.YtlamgpeiolfffaaGreatDoorZz18
set_option linter.unusedSectionVars false
namespace Go.Proofs.YtlamgpeiolfffaaGreatDoor
open Go.RowKit
variable [dK] [iK]

/-- A store of a key, as what it leaves of the ledger. -/
theorem Out.put {w w' : World} {st : Int} {sb : Nat} {L L' : Ld} {F : Nat → Prop} {mp : Option Nat} (hS : SrvAt w st sb L F) (hmF : ∀ b, mp = some b → F b) {b' : Nat} (h1 : w'.heap[sb]? = some (.cells #[.int .i32 st, .int .u32 0, .int .u64 L'.time, .map (some b'), .int .u64 L'.adm] 119)) (h2 : MapX w' (some b') L'.ks)
    (h3 : Keep (fun b => b = sb ∨ mp = some b) w w') (h4 : mp = some b' ∨ w.heap.size ≤ b') : Out w st sb L' F w' := by
  refine ⟨fun b => b = sb ∨ b = b', ⟨⟨some b', h1, h2, fun b e => Or.inr (Option.some.inj e).symm⟩, Or.inl rfl, ?_⟩, h3.mono (fun k h _ => h.elim (fun e => e ▸ hS.own) (hmF k)), ?_⟩
  · rintro b (rfl | rfl)
    · exact ltB h1
    · exact MapX.lt h2 b rfl
  · rintro b (rfl | rfl)
    · exact Or.inl hS.own
    · exact h4.imp (hmF b) id

theorem do69 (st : Int) (sb : Nat) (L : Ld) (F : Nat → Prop) (q : Rq) (w : World) (hS : SrvAt w st sb L F) (hL : L.ok) (hq : q.ok) :
    Calls Tryz.prog 69 #[.pointer (some ⟨sb, 0, none⟩), .agg #[.int .u8 q.op, .int .u8 q.k0, .int .u8 q.k1, .int .u8 q.k2, .int .u8 q.k3, .int .u8 q.k4, .int .u8 q.k5, .int .u8 q.k6, .int .u8 q.k7, .int .u8 q.kd, .int .u64 q.x, .int .u64 q.y, .int .u64 q.n]] w fun e w' => e = .returned (.agg #[.int .u8 (doM L q).2.c, .int .u64 (doM L q).2.a, .int .u64 (doM L q).2.b]) ∧ Out w st sb (doM L q).1 F w' := by
  have ht := hL.time
  by_cases o1 : q.op = 1
  · by_cases hso : soundM q.kd q.x q.y
    · cases hf : fnd q.key L.ks with
      | some z =>
        have e : doM L q = (L, ⟨9, 0, 0⟩) := by unfold doM; rw [if_pos o1, if_neg (not_not_intro hso), if_pos (by rw [hf]; rfl)]
        rw [e]
        refine do_define sb st L L L F q 9 0 0 w o1 hS (fun w1 h1 => ?_)
        obtain ⟨mp, m1, m2, m3⟩ := h1.mem
        refine (bdef_exists sb _ _ _ L.time mp L.ks q.key w1 m1 m2 hq.key q.kd q.x q.y hso z hf).mono ?_
        rintro e w' ⟨rfl, hb⟩
        exact ⟨rfl, Out.same h1 hb⟩
      | none =>
        by_cases hl : 12 ≤ L.ks.length
        · have e : doM L q = (L, ⟨5, 0, 0⟩) := by unfold doM; rw [if_pos o1, if_neg (not_not_intro hso), if_neg (by rw [hf]; simp), if_pos hl]
          rw [e]
          refine do_define sb st L L L F q 5 0 0 w o1 hS (fun w1 h1 => ?_)
          obtain ⟨mp, m1, m2, m3⟩ := h1.mem
          refine (bdef_full sb _ _ _ L.time mp L.ks q.key w1 m1 m2 hq.key q.kd q.x q.y hso hf hl).mono ?_
          rintro e w' ⟨rfl, hb⟩
          exact ⟨rfl, Out.same h1 hb⟩
        · have e : doM L q = (⟨L.time, L.adm, L.ks ++ [(q.key, ⟨q.kd, q.x, q.y, 0, 0⟩)]⟩, ⟨1, 0, 0⟩) := by unfold doM; rw [if_pos o1, if_neg (not_not_intro hso), if_neg (by rw [hf]; simp), if_neg hl]
          rw [e]
          refine do_define sb st L _ L F q 1 0 0 w o1 hS (fun w1 h1 => ?_)
          obtain ⟨mp, m1, m2, m3⟩ := h1.mem
          refine (bdef_new sb _ _ _ L.time mp L.ks q.key w1 m1 m2 hq.key q.kd q.x q.y hso hf (by omega)).mono ?_
          rintro e w' ⟨rfl, b', g1, g2, g3, g4, g5⟩
          have ep : putM q.key ⟨q.kd, q.x, q.y, 0, 0⟩ L.ks = L.ks ++ [(q.key, ⟨q.kd, q.x, q.y, 0, 0⟩)] := by unfold putM; rw [if_neg (by rw [hf]; simp)]
          exact ⟨rfl, Out.put h1 m3 g1 (ep ▸ g2) g3 g4⟩
    · have e : doM L q = (L, ⟨8, 0, 0⟩) := by unfold doM; rw [if_pos o1, if_pos hso]
      rw [e]
      refine do_define sb st L L L F q 8 0 0 w o1 hS (fun w1 h1 => ?_)
      obtain ⟨mp, m1, m2, m3⟩ := h1.mem
      cases hf : fnd q.key L.ks with
      | some z =>
        refine (bdef_bad1 sb _ _ _ L.time mp L.ks q.key w1 m1 m2 hq.key q.kd q.x q.y hso z hf).mono ?_
        rintro e w' ⟨rfl, hb⟩
        exact ⟨rfl, Out.same h1 hb⟩
      | none =>
        refine (bdef_bad0 sb _ _ _ L.time mp L.ks q.key w1 m1 m2 hq.key q.kd q.x q.y hso hf).mono ?_
        rintro e w' ⟨rfl, hb⟩
        exact ⟨rfl, Out.same h1 hb⟩
  by_cases o2 : q.op = 2
  · cases hf : fnd q.key L.ks with
    | none =>
      have e : doM L q = (L, ⟨4, 0, 0⟩) := by unfold doM; rw [if_neg o1, if_pos o2, hf]
      rw [e]
      refine do_admit sb st L L L F q 4 0 0 w o2 hS (fun w1 h1 => ?_) (fun w1 F1 h1 => ?_)
      · obtain ⟨mp, m1, m2, m3⟩ := h1.mem
        refine (badmit_none sb _ _ _ L.time mp L.ks q.key w1 m1 m2 hq.key hf q.n).mono ?_
        rintro e w' ⟨rfl, hb⟩
        exact ⟨rfl, Out.same h1 hb⟩
      · refine (scount_out sb q.n 4 0 0 (by decide) w1).mono ?_
        rintro e w' ⟨rfl, hb⟩
        exact ⟨rfl, Out.same h1 hb⟩
    | some z =>
      have hz := hL.qt _ (fnd_mem hf)
      obtain ⟨a1, a2, a3⟩ := admM_ok z L.time q.n hz ht.1 ht.2 hq.n.1
      have e : doM L q = (⟨L.time, if (admM z L.time q.n).2.c = 2 then (L.adm + q.n) % 18446744073709551616 else L.adm, upd q.key (admM z L.time q.n).1 L.ks⟩, (admM z L.time q.n).2) := by unfold doM; rw [if_neg o1, if_pos o2, hf]
      rw [e]
      have hqa := fun w1 => qadmit_any z L.time q.n w1 hz ht.1 ht.2 hq.n.1 hq.n.2 _ rfl
      generalize admM z L.time q.n = zr at a1 a2 a3 hqa
      obtain ⟨zq, zc, za, zb⟩ := zr
      refine do_admit sb st L ⟨L.time, L.adm, upd q.key zq L.ks⟩ _ F q zc za zb w o2 hS (fun w1 h1 => ?_) (fun w1 F1 h1 => ?_)
      · obtain ⟨mp, m1, m2, m3⟩ := h1.mem
        refine (badmit_some sb _ _ _ L.time mp L.ks q.key w1 m1 m2 hq.key hL.len z zq hf q.n zc za zb hqa).mono ?_
        rintro e w' ⟨rfl, b', g1, g2, g3, g4, g5⟩
        have ep : putM q.key zq L.ks = upd q.key zq L.ks := by unfold putM; rw [if_pos (by rw [hf]; rfl)]
        exact ⟨rfl, Out.put h1 m3 g1 (ep ▸ g2) g3 g4⟩
      · rcases a3 with h2 | h3
        · have h2 : zc = 2 := h2
          subst h2
          obtain ⟨mp, m1, m2, m3⟩ := h1.mem
          have hadm := hL.adm
          have hn := hq.n
          refine (scount_in sb _ _ _ _ L.adm q.n ((L.adm + q.n) % 18446744073709551616) za zb (by rw [IntKind.wrap_u64]) w1 m1).mono ?_
          rintro e w' ⟨rfl, g1, g2⟩
          refine ⟨rfl, F1, ⟨⟨mp, ?_, m2.kept fun b eb => g2.block b (m2.lt b eb) ?_, m3⟩, h1.own, fun b hb => Nat.lt_of_lt_of_le (h1.lt b hb) g2.size⟩, g2.mono (fun k hk _ => hk ▸ h1.own), fun b hb => Or.inl hb⟩
          · simpa using g1
          · intro e'
            subst e' eb
            obtain ⟨_, _, ⟨es, clock, g1, _⟩, _⟩ := m2
            rw [m1] at g1; simp at g1
        · have h3 : zc = 3 := h3
          subst h3
          refine (scount_out sb q.n 3 za zb (by decide) w1).mono ?_
          rintro e w' ⟨rfl, hb⟩
          exact ⟨rfl, by simpa using Out.same h1 hb⟩
  by_cases o3 : q.op = 3
  · cases hf : fnd q.key L.ks with
    | none =>
      have e : doM L q = (L, ⟨4, 0, 0⟩) := by unfold doM; rw [if_neg o1, if_neg o2, if_pos o3, hf]
      rw [e]
      refine do_query sb st L L L F q 4 0 0 w o3 hS (fun w1 h1 => ?_)
      obtain ⟨mp, m1, m2, m3⟩ := h1.mem
      refine (bquery_none sb _ _ _ L.time mp L.ks q.key w1 m1 m2 hq.key hf).mono ?_
      rintro e w' ⟨rfl, hb⟩
      exact ⟨rfl, Out.same h1 hb⟩
    | some z =>
      have hz := hL.qt _ (fnd_mem hf)
      have e : doM L q = (L, ⟨1, (turnM z L.time).lv, (turnM z L.time).wn⟩) := by unfold doM; rw [if_neg o1, if_neg o2, if_pos o3, hf]
      rw [e]
      refine do_query sb st L L L F q 1 _ _ w o3 hS (fun w1 h1 => ?_)
      obtain ⟨mp, m1, m2, m3⟩ := h1.mem
      refine (bquery_some sb _ _ _ L.time mp L.ks q.key w1 m1 m2 hq.key z hf 1 _ _ (fun w2 => qquery_any z L.time w2 hz ht.1 ht.2)).mono ?_
      rintro e w' ⟨rfl, hb⟩
      exact ⟨rfl, Out.same h1 hb⟩
  by_cases o4 : q.op = 4
  · cases hf : fnd q.key L.ks with
    | none =>
      have e : doM L q = (L, ⟨4, 0, 0⟩) := by unfold doM; rw [if_neg o1, if_neg o2, if_neg o3, if_pos o4, hf]
      rw [e]
      refine do_remove sb st L L L F q 4 0 0 w o4 hS (fun w1 h1 => ?_)
      obtain ⟨mp, m1, m2, m3⟩ := h1.mem
      refine (bremove_none sb _ _ _ L.time mp L.ks q.key w1 m1 m2 hq.key hf).mono ?_
      rintro e w' ⟨rfl, hb⟩
      exact ⟨rfl, Out.same h1 hb⟩
    | some z =>
      have e : doM L q = (⟨L.time, L.adm, del q.key L.ks⟩, ⟨1, 0, 0⟩) := by unfold doM; rw [if_neg o1, if_neg o2, if_neg o3, if_pos o4, hf]
      rw [e]
      refine do_remove sb st L _ L F q 1 0 0 w o4 hS (fun w1 h1 => ?_)
      obtain ⟨mp, m1, m2, m3⟩ := h1.mem
      refine (bremove_some sb _ _ _ L.time mp L.ks q.key w1 m1 m2 hq.key hL.nd z hf).mono ?_
      rintro e w' ⟨rfl, g1, g2, g3⟩
      exact ⟨rfl, F, ⟨⟨mp, g1, g2, m3⟩, h1.own, fun b hb => Nat.lt_of_lt_of_le (h1.lt b hb) g3.size⟩, g3.mono (fun k hk _ => m3 k hk), fun b hb => Or.inl hb⟩
  by_cases o6 : q.op = 6
  · have e : doM L q = (L, ⟨1, L.time, 0⟩) := by unfold doM; rw [if_neg o1, if_neg o2, if_neg o3, if_neg o4, if_pos o6]
    rw [e]
    exact do_clock sb st L F q w o6 hS
  · have e : doM L q = (L, ⟨1, 0, 0⟩) := by unfold doM; rw [if_neg o1, if_neg o2, if_neg o3, if_neg o4, if_neg o6]
    rw [e]
    exact do_other sb st L F q w o1 o2 o3 o4 o6 hS
end Go.Proofs.YtlamgpeiolfffaaGreatDoor

namespace Go.Proofs.YtlamgpeiolfffaaGreatDoor
open Go.RowKit
variable [dK] [iK]

set_option maxRecDepth 100000 in
theorem pick10 (c n : Int) (w : World) (hn : 0 < n) (hn1 : n ≤ 1000000000) (h0 : -9223372036854775808 ≤ c) (h1 : c ≤ 9223372036854775807) :
    Calls Tryz.prog 10 #[.int .i64 c, .int .i64 n] w fun e w' => e = .returned (.int .i64 (pickM c n)) ∧ w' = w := by
  have hnz : ¬ n = 0 := by omega
  by_cases h : c < 0
  · have e : pickM c n = -((c + 1).tmod n) := by unfold pickM; rw [if_pos h, ← Int.neg_tmod, Int.tmod_eq_emod_of_nonneg (by omega)]
    have k1 : IntKind.i64.wrap (c + 1) = c + 1 := by rw [IntKind.wrap_i64]; omega
    have k2 : IntKind.i64.wrap (-(c + 1)) = -(c + 1) := by rw [IntKind.wrap_i64]; omega
    rw [e]
    clear e
    go_enter Tryz.func10, Tryz.ntmps10
    go_wp2
    go_ret
    exact ⟨rfl, rfl⟩
  · have e : pickM c n = c % n := by unfold pickM; rw [if_neg h]
    rw [e]
    clear e
    go_enter Tryz.func10, Tryz.ntmps10
    go_wp2
    go_ret
    exact ⟨rfl, rfl⟩
theorem pickM_ok (c n : Int) (hn : 0 < n) : 0 ≤ pickM c n ∧ pickM c n < n := by
  unfold pickM
  exact ⟨Int.emod_nonneg _ (by omega), Int.emod_lt_of_pos _ hn⟩

set_option maxRecDepth 100000 in
theorem is17 (hb sb : Nat) (dv cv bv : Value) (w : World) (hh : w.heap[hb]? = some (.cells #[dv, .pointer (some ⟨sb, 0, none⟩), cv, bv] 75)) :
    Calls Tryz.prog 17 #[.pointer (some ⟨hb, 0, none⟩)] w fun e w' => e = .returned (.bool true) ∧ w' = w := by
  have a1 := cellB hh
  go_enter Tryz.func17, Tryz.ntmps17
  go_wp2
  go_ret
  exact ⟨rfl, rfl⟩

set_option maxRecDepth 100000 in
theorem hostadmitted34 (hb sb : Nat) (dv cv bv s0 s1 s2 s3 : Value) (x : Int) (w : World) (hh : w.heap[hb]? = some (.cells #[dv, .pointer (some ⟨sb, 0, none⟩), cv, bv] 75)) (hs : w.heap[sb]? = some (.cells #[s0, s1, s2, s3, .int .u64 x] 119)) :
    Calls Tryz.prog 34 #[.pointer (some ⟨hb, 0, none⟩)] w fun e w' => e = .returned (.int .u64 x) ∧ w' = w := by
  have a1 := cellB hh
  go_enter Tryz.func34, Tryz.ntmps34
  go_wp2_with (go_at_call 54; refine (admitted54 sb s0 s1 s2 s3 x _ hs).mono ?_; rintro e w' ⟨rfl, rfl⟩)
  go_ret
  exact ⟨rfl, rfl⟩

/-- The policy of raw numbers. -/
def polM (kind x y : Int) : Int × Int × Int := if pickM kind 2 = 1 then (2, pickM x 20, 1 + pickM y 100) else (1, 1 + pickM x 50, pickM y 200)

set_option maxRecDepth 100000 in
set_option maxHeartbeats 1000000 in
theorem policy12 (kind x y : Int) (w : World) (k0 : -9223372036854775808 ≤ kind) (k1 : kind ≤ 9223372036854775807) (x0 : -9223372036854775808 ≤ x) (x1 : x ≤ 9223372036854775807) (y0 : -9223372036854775808 ≤ y) (y1 : y ≤ 9223372036854775807) (p : Int × Int × Int) (hp : p = polM kind x y) :
    Calls Tryz.prog 12 #[.int .i64 kind, .int .i64 x, .int .i64 y] w fun e w' => e = .returned (.agg #[.int .u8 p.1, .int .u64 p.2.1, .int .u64 p.2.2]) ∧ Below w.heap.size w w' := by
  have hk := fun w => pick10 kind 2 w (by omega) (by omega) k0 k1
  have hx := fun w => pick10 x 50 w (by omega) (by omega) x0 x1
  have hy := fun w => pick10 y 200 w (by omega) (by omega) y0 y1
  have hx' := fun w => pick10 x 20 w (by omega) (by omega) x0 x1
  have hy' := fun w => pick10 y 100 w (by omega) (by omega) y0 y1
  have r1 := pickM_ok x 50 (by omega)
  have r2 := pickM_ok y 200 (by omega)
  have r3 := pickM_ok x 20 (by omega)
  have r4 := pickM_ok y 100 (by omega)
  unfold polM at hp
  generalize pickM kind 2 = K at *
  generalize pickM x 50 = X at *
  generalize pickM y 200 = Y at *
  generalize pickM x 20 = X' at *
  generalize pickM y 100 = Y' at *
  have u1 : IntKind.u64.wrap (1 + X) = 1 + X := by rw [IntKind.wrap_u64]; omega
  have u2 : IntKind.u64.wrap Y = Y := by rw [IntKind.wrap_u64]; omega
  have u3 : IntKind.u64.wrap X' = X' := by rw [IntKind.wrap_u64]; omega
  have u4 : IntKind.u64.wrap (1 + Y') = 1 + Y' := by rw [IntKind.wrap_u64]; omega
  have HK := hide hk
  have HX := hide hx
  have HY := hide hy
  have HX' := hide hx'
  have HY' := hide hy'
  clear hk hx hy hx' hy'
  by_cases h : K = 1
  · rw [if_pos h] at hp
    subst hp
    subst h
    go_enter Tryz.func12, Tryz.ntmps12
    go_wp2_with fail
    refine (HX.out _).mono ?_
    rintro e w1 ⟨rfl, rfl⟩
    go_wp2_with fail
    refine (HY.out _).mono ?_
    rintro e w1 ⟨rfl, rfl⟩
    go_wp2_with fail
    refine (HK.out _).mono ?_
    rintro e w1 ⟨rfl, rfl⟩
    go_wp2_with fail
    refine (HX'.out _).mono ?_
    rintro e w1 ⟨rfl, rfl⟩
    go_wp2_with fail
    refine (HY'.out _).mono ?_
    rintro e w1 ⟨rfl, rfl⟩
    go_wp2
    exact bodyPost_ret (v := .agg #[.int .u8 2, .int .u64 X', .int .u64 (1 + Y')]) (by simp [results, Tryz.results12, go_sem]) rfl ⟨rfl, ((Below.refl _ w).alloc (Nat.le_refl _) _).alloc (by simp) _⟩
  · rw [if_neg h] at hp
    subst hp
    have h' : (K == 1) = false := by simpa using h
    go_enter Tryz.func12, Tryz.ntmps12
    go_wp2_with fail
    refine (HX.out _).mono ?_
    rintro e w1 ⟨rfl, rfl⟩
    go_wp2_with fail
    refine (HY.out _).mono ?_
    rintro e w1 ⟨rfl, rfl⟩
    go_wp2_with fail
    refine (HK.out _).mono ?_
    rintro e w1 ⟨rfl, rfl⟩
    go_wp2
    exact bodyPost_ret (v := .agg #[.int .u8 1, .int .u64 (1 + X), .int .u64 Y]) (by simp [results, Tryz.results12, go_sem]) rfl ⟨rfl, ((Below.refl _ w).alloc (Nat.le_refl _) _).alloc (by simp) _⟩
end Go.Proofs.YtlamgpeiolfffaaGreatDoor
