import Derived.Test.YtnlgndpcddngoaaGreatDoorZc49
import Derived.Test.YtnlgndpcddngoaaGreatDoorZc00
set_option linter.unusedSectionVars false
namespace Go.Proofs.YtnlgndpcddngoaaGreatDoor
open Go.RowKit Go.Maps
variable [dK] [iK]

theorem polq_ok (kind x y : Int) (p : Int × Int × Int) (hp : p = polM kind x y) : soundM p.1 p.2.1 p.2.2 ∧ (0 ≤ p.2.1 ∧ p.2.1 ≤ 50) ∧ (0 ≤ p.2.2 ∧ p.2.2 ≤ 200) ∧ (p.1 = 1 ∨ p.1 = 2 ∧ 1 ≤ p.2.2) := by
  have r1 := pickM_ok x 50 (by omega)
  have r2 := pickM_ok y 200 (by omega)
  have r3 := pickM_ok x 20 (by omega)
  have r4 := pickM_ok y 100 (by omega)
  unfold polM at hp
  split at hp
  · subst hp
    exact ⟨Or.inr ⟨rfl, by show 1 ≤ 1 + pickM y 100; omega⟩, by dsimp only; omega, by dsimp only; omega, Or.inr ⟨rfl, by dsimp only; omega⟩⟩
  · subst hp
    exact ⟨Or.inl ⟨rfl, by show 1 ≤ 1 + pickM x 50; omega⟩, by dsimp only; omega, by dsimp only; omega, Or.inl rfl⟩
theorem take_more (l : Lt) (i k : Nat) (h1 : i ≤ k) (h2 : k < l.length) : (l.drop i).take (k + 1 - i) = (l.drop i).take (k - i) ++ [l[k]] := by
  have e : k + 1 - i = (k - i) + 1 := by omega
  have e2 : (l.drop i)[k - i]? = some l[k] := by
    rw [List.getElem?_drop, show i + (k - i) = k by omega]
    exact List.getElem?_eq_getElem h2
  rw [e, List.take_add_one, e2]
  rfl
theorem got_at {w : World} {base : Nat} {v : Value} {l : Lt} (h : w.ownsRow base 49 2 v l.length (ltcs l)) : ∃ a c, v = .slice a l.length c ∧ l.length ≤ c ∧ (0 < l.length → ∃ g o, a = some ⟨g, o, none⟩ ∧ g < w.heap.size ∧ ∀ i (h : i < l.length), w.cell? ⟨g, o + i * 2, none⟩ = some (.int .u64 l[i].1) ∧ w.cell? ⟨g, o + i * 2 + 1, none⟩ = some (.int .u64 l[i].2)) := by
  rcases h.2 with ⟨rfl, h0⟩ | ⟨g, cap, cur, hv, hb, hh, hc, _⟩
  · exact ⟨none, 0, by rw [h0], by omega, fun hp => by omega⟩
  · refine ⟨_, cap, hv, hc, fun _ => ⟨g, 0, rfl, ltB hh, fun i hi => ?_⟩⟩
    subst hv
    have := ltcs_get l i hi
    rw [Nat.zero_add, h.cellAt (i * 2) (by omega), h.cellAt (i * 2 + 1) (by omega)]
    exact this
theorem sumN_pos' (l : Lt) (h : LtR l) : 0 ≤ sumN l := sumN_pos l (fun p hp => by have := (h p hp).2.1; omega)

set_option maxRecDepth 100000 in
set_option maxHeartbeats 8000000 in
theorem bounded8 (kind x y block : Int) (ao : Option Addr) (n cap : Nat) (ds : List Dm) (w : World) (hn : ds.length = n) (hnc : n ≤ cap) (hnm : n ≤ maxLen) (hok : ∀ d ∈ ds, d.ok) (k0 : -9223372036854775808 ≤ kind) (k1 : kind ≤ 9223372036854775807) (x0 : -9223372036854775808 ≤ x) (x1 : x ≤ 9223372036854775807) (y0 : -9223372036854775808 ≤ y) (y1 : y ≤ 9223372036854775807) (b0 : -9223372036854775808 ≤ block) (b1 : block ≤ 9223372036854775807)
    (hgl : w.cell? ⟨0, 0, none⟩ = some (.iface 236 (.agg #[.pointer (some ⟨5, 97, none⟩)])))
    (hc : 0 < n → ∃ A o, ao = some ⟨A, o, none⟩ ∧ A < w.heap.size ∧ ∀ i (h : i < ds.length) j, j < 5 → w.cell? ⟨A, o + i * 5 + j, none⟩ = (dmc ds[i])[j]?) :
    Calls Tryz.prog 8 #[.int .i64 kind, .int .i64 x, .int .i64 y, .slice ao n cap, .int .i64 block] w fun e w' => e = .returned (.bool true) ∧ Below w.heap.size w w' := by
  have hlt0 : 0 < w.heap.size := by
    rcases Nat.eq_zero_or_pos w.heap.size with h0 | h
    · simp [World.cell?, h0] at hgl
    · exact h
  have hnI : (n : Int) ≤ 9223372036854775807 := by simp only [maxLen] at hnm; omega
  obtain ⟨p, hp⟩ : ∃ p, p = polM kind x y := ⟨_, rfl⟩
  have H12 := hide (fun w => policy12 kind x y w k0 k1 x0 x1 y0 y1 p hp)
  obtain ⟨q1, q2, q3, q4⟩ := polq_ok kind x y p hp
  obtain ⟨kd, X, Y⟩ := p
  dsimp only at *
  have HGL := hide hgl
  have HC := hide hc
  have HN := hide hn
  have HOK := hide hok
  have HSO := hide q1
  clear hgl hc hn hok hp q1 hnm
  by_cases hbig : 300 < (n : Int)
  · go_enter Tryz.func8, Tryz.ntmps8
    go_wp2_with fail
    refine (H12.out _).mono ?_
    rintro e w1 ⟨rfl, hb1⟩
    go_wp2
    go_ret
    exact ⟨rfl, hb1.alloc hb1.size _⟩
  · go_enter Tryz.func8, Tryz.ntmps8
    go_wp2_with fail
    refine (H12.out _).mono ?_
    rintro e w1 ⟨rfl, hb1⟩
    go_wp2_with fail
    obtain ⟨V, hV⟩ : ∃ V, V = w1.alloc (.cells #[.int .u8 kd, .int .u64 X, .int .u64 Y] 30) := ⟨_, rfl⟩
    have hpx : V.heap[w1.heap.size]? = some (.cells #[.int .u8 kd, .int .u64 X, .int .u64 Y] 30) := hV ▸ heapNew _ _
    have hBV : Below w.heap.size w V := hV ▸ hb1.alloc hb1.size _
    have hsV : V.heap.size = w1.heap.size + 1 := by rw [hV]; simp
    obtain ⟨pb, hpb⟩ : ∃ pb, pb = w1.heap.size := ⟨_, rfl⟩
    rw [← hV, ← hpb]
    rw [← hpb] at hpx hsV
    clear hV hb1 hpb
    have hs1 := hBV.size
    refine (played17 kd X Y block ao n cap ds V HN.out hnc (by omega) HOK.out HSO.out q2 q3 b0 b1 ((hBV.cell (p := ⟨0, 0, none⟩) hlt0).trans HGL.out) (fun h => by
      obtain ⟨A, o, e, hA, hcc⟩ := HC.out h
      exact ⟨A, o, e, by omega, fun i hi j hj => (hBV.cell (p := ⟨A, o + i * 5 + j, none⟩) hA).trans (hcc i hi j hj)⟩)).mono ?_
    rintro e w2 ⟨v, l, T, z, rfl, hown, hbd, hlr, hll, hb2⟩
    obtain ⟨la, lc, rfl, hlc, hcell⟩ := got_at hown
    have hpx2 := (hb2.block pb (by omega)).trans hpx
    have HBW : Hid (Below w.heap.size w w2) := hide (hBV.trans (hb2.mono hs1))
    have HPX := hide hpx2
    have HBD := hide hbd
    have HLR := hide hlr
    have HCE := hide hcell
    obtain ⟨m, hm⟩ : ∃ m, m = l.length := ⟨_, rfl⟩
    rw [← hm] at hlc hll ⊢
    have HM := hide hm
    have hws := HBW.out.size
    clear hpx hpx2 hBV hown hbd hlr hb2 hcell hm H12 hsV hs1
    go_wp2_with fail
    rcases q4 with rfl | ⟨rfl, hY⟩
    · go_loopw [14] (fun s14 wr => ∃ i : Nat, i ≤ m ∧ s14 = .int .i64 i ∧ Below w2.heap.size w2 wr) (fun s14 _ => m - (intOf s14).toNat)
      case atStart => exact ⟨0, Nat.zero_le _, rfl, Below.refl _ _⟩
      case round =>
        obtain ⟨i, him, rfl, hbr⟩ := hrel
        obtain ⟨R, rfl⟩ : ∃ R, R = wr := ⟨_, rfl⟩
        have HBR := hide hbr
        clear hbr
        by_cases hlt : i < m
        · have hltI : (i : Int) < (m : Int) := by omega
          have hi0 : (0 : Int) ≤ (i : Int) := by omega
          obtain ⟨g, o, rfl, hg, hcc⟩ := HCE.out (by have := HM.out; omega)
          have hil : i < l.length := by rw [← HM.out]; exact hlt
          obtain ⟨ai, hai⟩ : ∃ ai, ai = l[i].1 := ⟨_, rfl⟩
          have hri := (HLR.out _ (List.getElem_mem hil)).1
          rw [← hai] at hri
          have HCI : Hid (∀ S, Below w2.heap.size w2 S → S.cell? ⟨g, o + i * 2, none⟩ = some (.int .u64 ai)) := hide (fun S hS => (hS.cell (p := ⟨g, o + i * 2, none⟩) hg).trans (by rw [hai]; exact (hcc i hil).1))
          have HCC := hide hcc
          have HAI := hide hai
          clear hcc hai
          go_wp2_with fail
          go_loopw [15, 16] (fun s15 s16 S => ∃ (k : Nat) (s : Int), i ≤ k ∧ k ≤ m ∧ s16 = .int .i64 k ∧ s15 = .int .u64 s ∧ s = sumN ((l.drop i).take (k - i)) ∧ 0 ≤ s ∧ s ≤ 7 * (k : Int) ∧ Below w2.heap.size w2 S) (fun _ s16 _ => m - (intOf s16).toNat)
          case atStart => exact ⟨i, 0, Nat.le_refl _, by omega, rfl, rfl, by simp [sumN], by omega, by omega, HBR.out⟩
          case round =>
            obtain ⟨k, s, hik, hkm, rfl, rfl, hs, hs0, hs7, hbs⟩ := hrel
            obtain ⟨S, rfl⟩ : ∃ S, S = wr := ⟨_, rfl⟩
            have HBS := hide hbs
            have hpS := (hbs.block pb (ltB HPX.out)).trans HPX.out
            have c0 := cellB hpS
            have ca := HCI.out S hbs
            by_cases hk : k < m
            · have hkI : (k : Int) < (m : Int) := by omega
              have hk0 : (0 : Int) ≤ (k : Int) := by omega
              have hkl : k < l.length := by rw [← HM.out]; exact hk
              obtain ⟨bk, hbk⟩ : ∃ bk, bk = l[k].1 := ⟨_, rfl⟩
              obtain ⟨nk, hnk⟩ : ∃ nk, nk = l[k].2 := ⟨_, rfl⟩
              have hrk := HLR.out _ (List.getElem_mem hkl)
              rw [← hbk, ← hnk] at hrk
              have cb : S.cell? ⟨g, o + k * 2, none⟩ = some (.int .u64 bk) := (hbs.cell (p := ⟨g, o + k * 2, none⟩) hg).trans (by rw [hbk]; exact (HCC.out k hkl).1)
              have cn : S.cell? ⟨g, o + k * 2 + 1, none⟩ = some (.int .u64 nk) := (hbs.cell (p := ⟨g, o + k * 2 + 1, none⟩) hg).trans (by rw [hnk]; exact (HCC.out k hkl).2)
              have hsum : s + nk = sumN ((l.drop i).take (k + 1 - i)) := by
                rw [take_more l i k hik hkl, sumN_app, ← hs, hnk]
                simp [sumN]
              have hsx := HBD.out.sx rfl i k hik hkl
              have e1 : l.getD k (0, 0) = l[k] := by simp [List.getD, List.getElem?_eq_getElem hkl]
              have e2 : l.getD i (0, 0) = l[i] := by simp [List.getD, List.getElem?_eq_getElem hil]
              rw [← hsum, e1, e2, ← hbk, ← HAI.out] at hsx
              have HSU := hide hsum
              clear hs hsum e1 e2 hbk hnk hbs hpS
              by_cases hba : bk < ai
              · go_wp2
                go_roundw
                case rel => exact ⟨i + 1, by omega, by go_num, HBS.out⟩
                case measure => simp [intOf]; omega
              · have w1' : IntKind.u64.wrap (s + nk) = s + nk := by rw [IntKind.wrap_u64]; omega
                have w2' : IntKind.u64.wrap (s + nk - 1) = s + nk - 1 := by rw [IntKind.wrap_u64]; omega
                have w3' : IntKind.u64.wrap (bk - ai) = bk - ai := by rw [IntKind.wrap_u64]; omega
                have w4' : IntKind.u64.wrap (bk - ai + Y) = bk - ai + Y := by rw [IntKind.wrap_u64]; omega
                have hmul : (s + nk - 1) * X = X * (s + nk) - X := by rw [Int.sub_mul, Int.mul_comm]; omega
                have hX0 : 0 ≤ (s + nk - 1) * X := Int.mul_nonneg (by omega) q2.1
                have w5' : IntKind.u64.wrap ((s + nk - 1) * X) = (s + nk - 1) * X := by rw [IntKind.wrap_u64]; omega
                have hcmp : ¬ bk - ai + Y < (s + nk - 1) * X := by omega
                have hpos : 0 < s + nk := by omega
                clear hmul hX0 hsx
                go_wp2
                go_roundw
                case rel => exact ⟨k + 1, s + nk, by omega, by omega, by go_num, rfl, HSU.out, by omega, by omega, HBS.out⟩
                case measure => simp [intOf]; omega
            · have hkI : ¬ (k : Int) < (m : Int) := by omega
              clear hs hbs hpS
              go_wp2
              go_roundw
              case rel => exact ⟨i + 1, by omega, by go_num, HBS.out⟩
              case measure => simp [intOf]; omega
        · have hltI : ¬ (i : Int) < (m : Int) := by omega
          go_wp2
          go_ret
          exact ⟨rfl, HBW.out.trans (HBR.out.mono hws)⟩
    · have hYn : ¬ Y = 0 := by omega
      go_loopw [14] (fun s14 wr => ∃ i : Nat, i ≤ m ∧ s14 = .int .i64 i ∧ Below w2.heap.size w2 wr) (fun s14 _ => m - (intOf s14).toNat)
      case atStart => exact ⟨0, Nat.zero_le _, rfl, Below.refl _ _⟩
      case round =>
        obtain ⟨i, him, rfl, hbr⟩ := hrel
        obtain ⟨R, rfl⟩ : ∃ R, R = wr := ⟨_, rfl⟩
        have HBR := hide hbr
        clear hbr
        by_cases hlt : i < m
        · have hltI : (i : Int) < (m : Int) := by omega
          have hi0 : (0 : Int) ≤ (i : Int) := by omega
          obtain ⟨g, o, rfl, hg, hcc⟩ := HCE.out (by have := HM.out; omega)
          have hil : i < l.length := by rw [← HM.out]; exact hlt
          obtain ⟨ai, hai⟩ : ∃ ai, ai = l[i].1 := ⟨_, rfl⟩
          have hri := (HLR.out _ (List.getElem_mem hil)).1
          rw [← hai] at hri
          have HCI : Hid (∀ S, Below w2.heap.size w2 S → S.cell? ⟨g, o + i * 2, none⟩ = some (.int .u64 ai)) := hide (fun S hS => (hS.cell (p := ⟨g, o + i * 2, none⟩) hg).trans (by rw [hai]; exact (hcc i hil).1))
          have HCC := hide hcc
          obtain ⟨qi, hqi⟩ : ∃ qi, qi = ai / Y := ⟨_, rfl⟩
          have ti : ai.tdiv Y = qi := by rw [hqi]; exact Int.tdiv_eq_ediv_of_nonneg hri.1
          have hqr : 0 ≤ qi ∧ qi ≤ 2000 := by rw [hqi]; exact ⟨Int.ediv_nonneg hri.1 (by omega), Int.le_trans (Int.ediv_le_self _ hri.1) hri.2⟩
          have wi : IntKind.u64.wrap qi = qi := by rw [IntKind.wrap_u64]; omega
          clear hcc hai hqi
          go_wp2_with fail
          go_loopw [15, 16] (fun s15 s16 S => ∃ (k : Nat) (s : Int), i ≤ k ∧ k ≤ m ∧ s16 = .int .i64 k ∧ s15 = .int .u64 s ∧ s = sumW Y qi ((l.drop i).take (k - i)) ∧ 0 ≤ s ∧ s ≤ 7 * (k : Int) ∧ Below w2.heap.size w2 S) (fun _ s16 _ => m - (intOf s16).toNat)
          case atStart => exact ⟨i, 0, Nat.le_refl _, by omega, rfl, rfl, by simp [sumW], by omega, by omega, HBR.out⟩
          case round =>
            obtain ⟨k, s, hik, hkm, rfl, rfl, hs, hs0, hs7, hbs⟩ := hrel
            obtain ⟨S, rfl⟩ : ∃ S, S = wr := ⟨_, rfl⟩
            have HBS := hide hbs
            have hpS := (hbs.block pb (ltB HPX.out)).trans HPX.out
            have c0 := cellB hpS
            have ca := HCI.out S hbs
            by_cases hk : k < m
            · have hkI : (k : Int) < (m : Int) := by omega
              have hk0 : (0 : Int) ≤ (k : Int) := by omega
              have hkl : k < l.length := by rw [← HM.out]; exact hk
              obtain ⟨bk, hbk⟩ : ∃ bk, bk = l[k].1 := ⟨_, rfl⟩
              obtain ⟨nk, hnk⟩ : ∃ nk, nk = l[k].2 := ⟨_, rfl⟩
              have hrk := HLR.out _ (List.getElem_mem hkl)
              rw [← hbk, ← hnk] at hrk
              have cb : S.cell? ⟨g, o + k * 2, none⟩ = some (.int .u64 bk) := (hbs.cell (p := ⟨g, o + k * 2, none⟩) hg).trans (by rw [hbk]; exact (HCC.out k hkl).1)
              have cn : S.cell? ⟨g, o + k * 2 + 1, none⟩ = some (.int .u64 nk) := (hbs.cell (p := ⟨g, o + k * 2 + 1, none⟩) hg).trans (by rw [hnk]; exact (HCC.out k hkl).2)
              obtain ⟨qk, hqk⟩ : ∃ qk, qk = bk / Y := ⟨_, rfl⟩
              have tk : bk.tdiv Y = qk := by rw [hqk]; exact Int.tdiv_eq_ediv_of_nonneg hrk.1.1
              have hqkr : 0 ≤ qk ∧ qk ≤ 2000 := by rw [hqk]; exact ⟨Int.ediv_nonneg hrk.1.1 (by omega), Int.le_trans (Int.ediv_le_self _ hrk.1.1) hrk.1.2⟩
              have wk : IntKind.u64.wrap qk = qk := by rw [IntKind.wrap_u64]; omega
              have hsum : s + (if qk = qi then nk else 0) = sumW Y qi ((l.drop i).take (k + 1 - i)) := by
                rw [take_more l i k hik hkl, sumW_app, ← hs, hnk, hqk, hbk]
                simp [sumW]
              have HSU := hide hsum
              have w1' : IntKind.u64.wrap (s + nk) = s + nk := by rw [IntKind.wrap_u64]; omega
              clear hs hsum hbk hnk hbs hpS hqk
              by_cases hq : qk = qi
              · subst hq
                have HS2 : Hid (s + nk = sumW Y qk ((l.drop i).take (k + 1 - i))) := hide (by have := HSU.out; rw [if_pos rfl] at this; exact this)
                go_wp2_with (go_quiet (fail))
                go_roundw
                case rel => exact ⟨k + 1, s + nk, by omega, by omega, by go_num, rfl, HS2.out, by omega, by omega, below_drewN HBS.out _⟩
                case measure => simp [intOf]; omega
              · have HS2 : Hid (s = sumW Y qi ((l.drop i).take (k + 1 - i))) := hide (by have := HSU.out; rw [if_neg hq, Int.add_zero] at this; exact this)
                have hq' : ¬ qi = qk := fun e => hq e.symm
                go_wp2_with (go_quiet (fail))
                go_roundw
                case rel => exact ⟨k + 1, s, by omega, by omega, by go_num, rfl, HS2.out, by omega, by omega, below_drewN HBS.out _⟩
                case measure => simp [intOf]; omega
            · have hkI : ¬ (k : Int) < (m : Int) := by omega
              have hfin : ¬ X < s := by
                have e : k = m := by omega
                have h1 := HBD.out.wx rfl qi
                have h2 := sumW_drop Y qi l (fun p hp => by have := (HLR.out p hp).2.1; omega) i
                rw [List.take_of_length_le (by rw [List.length_drop, ← HM.out]; omega)] at hs
                omega
              clear hs hbs hpS
              go_wp2
              go_roundw
              case rel => exact ⟨i + 1, by omega, by go_num, HBS.out⟩
              case measure => simp [intOf]; omega
        · have hltI : ¬ (i : Int) < (m : Int) := by omega
          go_wp2
          go_ret
          exact ⟨rfl, HBW.out.trans (HBR.out.mono hws)⟩
end Go.Proofs.YtnlgndpcddngoaaGreatDoor
