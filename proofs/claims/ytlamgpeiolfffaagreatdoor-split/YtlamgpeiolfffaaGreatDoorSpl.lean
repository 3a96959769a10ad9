import Derived.Test.YtlamgpeiolfffaaGreatDoorZz37
import Derived.Test.YtlamgpeiolfffaaGreatDoorPuD
set_option linter.unusedSectionVars false
namespace Go.Proofs.YtlamgpeiolfffaaGreatDoor
open Go.RowKit
variable [dK] [iK]

/-- Requests in memory, as a slice. -/
def RqsAt (w : World) (v : Value) (qs : List Rq) : Prop :=
  (qs = [] ∧ ∃ a c, v = .slice a 0 c) ∨
  (0 < qs.length ∧ ∃ A o cap, v = .slice (some ⟨A, o, none⟩) qs.length cap ∧ qs.length ≤ cap ∧ A < w.heap.size ∧
    ∀ i (h : i < qs.length) j, w.cell? ⟨A, o + i * 13 + j, none⟩ = (#[.int .u8 qs[i].op, .int .u8 qs[i].k0, .int .u8 qs[i].k1, .int .u8 qs[i].k2, .int .u8 qs[i].k3, .int .u8 qs[i].k4, .int .u8 qs[i].k5, .int .u8 qs[i].k6, .int .u8 qs[i].k7, .int .u8 qs[i].kd, .int .u64 qs[i].x, .int .u64 qs[i].y, .int .u64 qs[i].n] : Array Value)[j]? ∨ 13 ≤ j)
set_option maxRecDepth 100000 in
theorem bytes9_nil (a : Option Addr) (c : Nat) (w : World) :
    Calls Tryz.prog 9 #[.slice a 0 c] w fun e w' => e = .returned (.string (strOfNums (encQs []))) ∧ Below w.heap.size w w' := by
  go_enter Tryz.func9, Tryz.ntmps9
  go_wp2
  refine wp_loop_rounds 1 ?_
  rw [rounds_succ]
  go_wp2
  go_ret
  exact ⟨rfl, Below.refl _ _⟩
theorem bytes9_any (v : Value) (qs : List Rq) (w : World) (h : RqsAt w v qs) (hn1 : qs.length ≤ 1000) (hok : ∀ q ∈ qs, q.ok) :
    Calls Tryz.prog 9 #[v] w fun e w' => e = .returned (.string (strOfNums (encQs qs))) ∧ Below w.heap.size w w' := by
  rcases h with ⟨rfl, a, c, rfl⟩ | ⟨hp, A, o, cap, rfl, h1, h2, h3⟩
  · exact bytes9_nil a c w
  · exact bytes9 A o qs.length cap qs w rfl h1 hn1 hok h2 h3
theorem RqsAt.below {w w' : World} {v : Value} {qs : List Rq} (h : RqsAt w v qs) {B : Nat} (hb : Below B w w') (hB : w.heap.size ≤ B) : RqsAt w' v qs := by
  rcases h with h | ⟨hp, A, o, cap, rfl, h1, h2, h3⟩
  · exact Or.inl h
  · refine Or.inr ⟨hp, A, o, cap, rfl, h1, Nat.lt_of_lt_of_le h2 hb.size, fun i hi j => ?_⟩
    rw [hb.cell (p := ⟨A, o + i * 13 + j, none⟩) (Nat.lt_of_lt_of_le h2 hB)]
    exact h3 i hi j
theorem RqsAt.shape {w : World} {v : Value} {qs : List Rq} (h : RqsAt w v qs) : ∃ a c, v = .slice a qs.length c := by
  rcases h with ⟨rfl, a, c, rfl⟩ | ⟨hp, A, o, cap, rfl, _⟩
  · exact ⟨a, c, rfl⟩
  · exact ⟨_, _, rfl⟩

set_option maxRecDepth 100000 in
set_option maxHeartbeats 4000000 in
theorem split4 (v : Value) (qs : List Rq) (raw : ByteArray) (cut now : Int) (w : World) (hv : RqsAt w v qs) (hok : ∀ q ∈ qs, q.ok ∧ q.byt) (hr : raw.size ≤ maxLen) (hql : qs.length ≤ maxLen) (c0 : -9223372036854775808 ≤ cut) (c1 : cut ≤ 9223372036854775807) (n0 : -9223372036854775808 ≤ now) (n1 : now ≤ 9223372036854775807)
    (hgl : w.cell? ⟨0, 0, none⟩ = some (.iface 201 (.agg #[.pointer (some ⟨1, 88, none⟩)]))) :
    Calls Tryz.prog 4 #[v, .string raw, .int .i64 cut, .int .i64 now] w fun e w' => e = .returned (.bool true) ∧ Below w.heap.size w w' := by
  obtain ⟨a, vc, rfl⟩ := hv.shape
  have hr' : (raw.size : Int) ≤ 9223372036854775807 := by simp only [maxLen] at hr; omega
  have hq' : (qs.length : Int) ≤ 9223372036854775807 := by simp only [maxLen] at hql; omega
  have hlt0 : 0 < w.heap.size := by
    rcases Nat.eq_zero_or_pos w.heap.size with h0 | h
    · simp [World.cell?, h0] at hgl
    · exact h
  by_cases hbig : 100 < (qs.length : Int) ∨ 1000 < (raw.size : Int)
  · have HV := hide hv
    clear hv hgl
    go_enter Tryz.func4, Tryz.ntmps4
    go_wp2
    all_goals go_ret
    all_goals exact ⟨rfl, Below.refl _ _⟩
  · have hl1 : ¬ 100 < (qs.length : Int) := fun h => hbig (Or.inl h)
    have hl2 : ¬ 1000 < (raw.size : Int) := fun h => hbig (Or.inr h)
    have HV := hide hv
    have HGL := hide hgl
    have HOK := hide hok
    clear hv hgl hok hbig
    go_enter Tryz.func4, Tryz.ntmps4
    go_wp2_with fail
    obtain ⟨W0, hW0⟩ : ∃ W0, W0 = w.alloc (.cells #[.int .u8 2, .int .u64 5, .int .u64 10] 30) := ⟨_, rfl⟩
    have hbx : W0.heap[w.heap.size]? = some (.cells #[.int .u8 2, .int .u64 5, .int .u64 10] 30) := hW0 ▸ heapNew _ _
    have hB0 : Below w.heap.size w W0 := hW0 ▸ (Below.refl _ w).alloc (Nat.le_refl _) _
    rw [← hW0]
    clear hW0
    refine (opened8 2 5 10 3 W0 (Or.inr ⟨rfl, by decide⟩) (by decide) (by decide) ((hB0.cell (p := ⟨0, 0, none⟩) hlt0).trans HGL.out)).mono ?_
    rintro e w1 ⟨ha, da, na, sa, ma, Fa, va, ca, rfl, Ha, hB1⟩
    have hs0 := hB0.size
    have hs1 := hB1.size
    have hw1 : Below w.heap.size w w1 := hB0.trans (hB1.mono hs0)
    have hbx1 := (hB1.block _ (ltB hbx)).trans hbx
    have a1 := cellB hbx1
    have HHa := hide Ha
    have HW1 := hide hw1
    have HS1 := hide hs1
    have HS00 := hide hs0
    clear Ha hw1 hbx hB0 hB1 hs0 hs1 hbx1
    go_wp2_with fail
    refine (opened8 2 5 10 3 w1 (Or.inr ⟨rfl, by decide⟩) (by decide) (by decide) ((HW1.out.cell (p := ⟨0, 0, none⟩) hlt0).trans HGL.out)).mono ?_
    rintro e w2 ⟨hh, dh, nh, sh, mh, Fh, vh, ch, rfl, Hh, hB2⟩
    have hw2 : Below w.heap.size w w2 := HW1.out.trans (hB2.mono HW1.out.size)
    have Ha2 := HHa.out.kept hB2.size (fun k hk => hB2.block k hk)
    have hlo : ∀ b, HG ha da Fa va 3 ca b → b < w1.heap.size := HHa.out.lt
    have HHa2 := hide Ha2
    have HHh := hide Hh
    have HW2 := hide hw2
    have HLO := hide hlo
    have HB2 := hide hB2
    clear Hh hw2 Ha2 hlo hB2 a1
    go_wp2_with fail
    refine (bytes9_any _ qs w2 (HV.out.below HW2.out (Nat.le_refl _)) (by omega) (fun q hq => (HOK.out q hq).1)).mono ?_
    rintro e w3 ⟨rfl, hb3⟩
    have hw3 : Below w.heap.size w w3 := HW2.out.trans (hb3.mono HW2.out.size)
    have Ha3 := HHa2.out.kept hb3.size (fun k hk => hb3.block k hk)
    have Hh3 := HHh.out.kept hb3.size (fun k hk => hb3.block k hk)
    have hsz3 : w1.heap.size ≤ w3.heap.size := Nat.le_trans HB2.out.size hb3.size
    obtain ⟨st, hst⟩ : ∃ st, st = strOfNums (encQs qs) := ⟨_, rfl⟩
    have hstz : st.size ≤ 2700 := by rw [hst, strOfNums_size]; have := encQs_len qs; omega
    have hnst : numsOf st = encQs qs := by rw [hst]; exact numsOf_str _ (encQs_bytes qs HOK.out)
    rw [← hst]
    have HN := hide hnst
    have HHa3 := hide Ha3
    have HHh3 := hide Hh3
    have HW3 := hide hw3
    have HSZ3 := hide hsz3
    clear hst hnst Ha3 Hh3 hw3 hsz3 hb3 HHa HHa2 HHh HW2 HW1 HB2
    go_wp2_with fail
    obtain ⟨sr, hsr⟩ : ∃ sr, sr = st ++ raw := ⟨_, rfl⟩
    have hszr : (st.size : Int) + (raw.size : Int) = (sr.size : Int) := by rw [hsr]; simp
    have hszn : sr.size ≤ 3700 := by omega
    have hnsr : Bytes (numsOf sr) := numsOf_bytes sr
    have hnl := numsOf_length sr
    rw [← hsr, hszr]
    obtain ⟨n, hn, hnle⟩ : ∃ n : Nat, pickM cut ((sr.size : Int) + 1) = (n : Int) ∧ n ≤ sr.size := by
      have h := pickM_ok cut ((sr.size : Int) + 1) (by omega)
      exact ⟨(pickM cut ((sr.size : Int) + 1)).toNat, by omega, by omega⟩
    have hp1 := pick10 cut ((sr.size : Int) + 1) w3 (by omega) (by omega) c0 c1
    rw [hn] at hp1
    have hp2 := fun w => pick10 now 1000 w (by omega) (by omega) n0 n1
    obtain ⟨t, ht⟩ : ∃ t, t = pickM now 1000 := ⟨_, rfl⟩
    have htr := pickM_ok now 1000 (by omega)
    rw [← ht] at hp2 htr
    have HP1 := hide hp1
    have HP2 := hide hp2
    have utw : IntKind.u64.wrap t = t := by rw [IntKind.wrap_u64]; omega
    clear hp1 hp2 hsr hszr ht hn hnsr
    refine HP1.out.mono ?_
    rintro e w9 ⟨rfl, rfl⟩
    go_wp2_with fail
    refine (HP2.out _).mono ?_
    rintro e w10 ⟨rfl, rfl⟩
    go_wp2_with fail
    have hLok : Ld.ok ⟨0, 0, [(kK, ⟨2, 5, 10, 0, 0⟩)]⟩ := ⟨by decide, by decide, fun p hp => by simp at hp; rw [hp]; exact ⟨by simp [kK], by simp [kK], by simp [kK], by simp [kK], by simp [kK], by simp [kK], by simp [kK], by simp [kK]⟩, fun p hp => by simp at hp; rw [hp]; exact ⟨Or.inr ⟨rfl, by decide⟩, by simp, by simp, by simp, by simp⟩, by simp, by simp⟩
    have hA := feed11 ha da na sa ma 3 ⟨0, 0, [(kK, ⟨2, 5, 10, 0, 0⟩)]⟩ Fa W0.heap.size va 3 ca (fun _ => ⟨[], false⟩) 1 t sr w10 HHa3.out (by decide) (Nat.le_trans HS1.out HSZ3.out) (fun h => absurd h (by decide)) 1 (by decide) (by decide) (by decide) hLok (by omega) (by omega) (by intro b hb; simp at hb) (by rw [hnl]; simp; omega)
    have HA := hide hA
    have HLOK := hide hLok
    clear hA hLok
    refine HA.out.mono ?_
    rintro e w4 ⟨F4, v4, c4, rfl, _, hK4, _⟩
    have Hh4 := HHh3.out.quiet (fun _ => rfl) hK4.size (fun k hk => hK4.block k (HHh3.out.lt k hk) (fun h => by have := HLO.out k h; have := HHh3.out.lo k hk; omega))
    have hB4 : Below w.heap.size w w4 := HW3.out.trans (hK4.below HW3.out.size (fun k hk => Nat.le_trans HS00.out (HHa3.out.lo k hk)))
    obtain ⟨oa, hoa⟩ : ∃ oa, oa = strOfNums (encs (feedM ⟨0, 0, [(kK, ⟨2, 5, 10, 0, 0⟩)]⟩ ⟨[], false⟩ t (numsOf sr)).2.2) := ⟨_, rfl⟩
    have HOA := hide hoa
    have HHh4 := hide Hh4
    have HB4 := hide hB4
    have HZ4 : Hid (w1.heap.size ≤ w4.heap.size) := hide (Nat.le_trans HSZ3.out hK4.size)
    dsimp only
    rw [← hoa]
    clear hoa Hh4 hB4 hK4 HA HHa3 HHh3 HLO HSZ3
    go_wp2_with fail
    have hns1 := numsOf_take sr n
    obtain ⟨A, hA⟩ : ∃ A, A = feedM ⟨0, 0, [(kK, ⟨2, 5, 10, 0, 0⟩)]⟩ ⟨[], false⟩ t (numsOf (sr.extract 0 n)) := ⟨_, rfl⟩
    have hAok := feedM_ok ⟨0, 0, [(kK, ⟨2, 5, 10, 0, 0⟩)]⟩ ⟨[], false⟩ t (numsOf (sr.extract 0 n)) HLOK.out (by omega) (by omega) (by intro b hb; simp at hb) (numsOf_bytes _)
    have hF1 := feed11 hh dh nh sh mh 3 ⟨0, 0, [(kK, ⟨2, 5, 10, 0, 0⟩)]⟩ Fh w1.heap.size vh 3 ch (fun _ => ⟨[], false⟩) 1 t (sr.extract 0 n) w4 HHh4.out (by decide) HZ4.out (fun h => absurd h (by decide)) 1 (by decide) (by decide) (by decide) HLOK.out (by omega) (by omega) (by intro b hb; simp at hb) (by rw [hns1, List.length_take]; simp; omega)
    rw [← hA] at hF1 hAok
    rw [hns1, List.length_take] at hAok
    obtain ⟨hA1, hA2, hA3⟩ := hAok
    have hA3' : A.2.1.waits.length ≤ 3700 := by simp at hA3; omega
    have HF1 := hide hF1
    have HAe := hide hA
    have HA1 := hide hA1
    have HA2 := hide hA2
    clear hF1 hA hA1 hA2 hA3 hns1
    refine HF1.out.mono ?_
    rintro e w5 ⟨F5, v5, c5, rfl, H5, hK5, _⟩
    have hw1w : w.heap.size ≤ w1.heap.size := Nat.le_trans HS00.out HS1.out
    have hB5 : Below w.heap.size w w5 := HB4.out.trans (hK5.below HB4.out.size (fun k hk => Nat.le_trans hw1w (HHh4.out.lo k hk)))
    obtain ⟨ob, hob⟩ : ∃ ob, ob = strOfNums (encs A.2.2) := ⟨_, rfl⟩
    obtain ⟨cc, hcc⟩ : ∃ cc : Nat → Cn, cc = fun j => if j = 1 then A.2.1 else ⟨[], false⟩ := ⟨_, rfl⟩
    have hcc1 : cc 1 = A.2.1 := by rw [hcc]; rfl
    have hcc2 : cc 2 = ⟨[], false⟩ := by rw [hcc]; rfl
    rw [← hcc] at H5
    have HOB := hide hob
    have HH5 := hide H5
    have HB5 := hide hB5
    have HZ5 : Hid (w1.heap.size ≤ w5.heap.size) := hide (Nat.le_trans HZ4.out hK5.size)
    have HC1 := hide hcc1
    have HC2 := hide hcc2
    dsimp only
    rw [← hob]
    clear hob H5 hB5 hK5 HF1 HHh4 HZ4 hcc hcc1 hcc2
    go_wp2_with fail
    have hn1 : numsOf { data := #[1] } = [1] := by simp [numsOf]
    obtain ⟨X, hX⟩ : ∃ X, X = feedM A.1 ⟨[], false⟩ t [1] := ⟨_, rfl⟩
    have hXok := feedM_ok A.1 ⟨[], false⟩ t [1] HA1.out (by omega) (by omega) (by intro b hb; simp at hb) (by intro b hb; simp at hb; omega)
    have hF2 := feed11 hh dh nh sh mh 3 A.1 F5 w1.heap.size v5 3 c5 cc 2 t { data := #[1] } w5 HH5.out (by decide) HZ5.out (fun h => absurd h (by decide)) 2 (by decide) (by decide) (by decide) HA1.out (by omega) (by omega) (by rw [HC2.out]; intro b hb; simp at hb) (by rw [HC2.out, hn1]; simp)
    rw [HC2.out, hn1, ← hX] at hF2
    rw [← hX] at hXok
    have HF2 := hide hF2
    have HXe := hide hX
    have HX1 := hide hXok.1
    clear hF2 hX hXok hn1
    refine HF2.out.mono ?_
    rintro e w6 ⟨F6, v6, c6, rfl, H6, hK6, _⟩
    have hB6 : Below w.heap.size w w6 := HB5.out.trans (hK6.below HB5.out.size (fun k hk => Nat.le_trans hw1w (HH5.out.lo k hk)))
    obtain ⟨cd, hcd⟩ : ∃ cd : Nat → Cn, cd = fun j => if j = 2 then X.2.1 else cc j := ⟨_, rfl⟩
    have hcd1 : cd 1 = A.2.1 := by rw [hcd]; exact HC1.out
    rw [← hcd] at H6
    have HH6 := hide H6
    have HB6 := hide hB6
    have HZ6 : Hid (w1.heap.size ≤ w6.heap.size) := hide (Nat.le_trans HZ5.out hK6.size)
    have HD1 := hide hcd1
    dsimp only
    clear H6 hB6 hK6 HF2 HH5 HZ5 hcd hcd1 HC1 HC2
    go_wp2_with fail
    have hns2 := numsOf_drop sr n
    have hF3 := feed11 hh dh nh sh mh 3 X.1 F6 w1.heap.size v6 3 c6 cd 1 t (sr.extract n sr.size) w6 HH6.out (by decide) HZ6.out (fun h => absurd h (by decide)) 1 (by decide) (by decide) (by decide) HX1.out (by omega) (by omega) (by rw [HD1.out]; exact HA2.out) (by rw [HD1.out, hns2, List.length_drop]; omega)
    rw [HD1.out] at hF3
    have hsp := split_reckon ⟨0, 0, [(kK, ⟨2, 5, 10, 0, 0⟩)]⟩ t ((numsOf sr).take n) ((numsOf sr).drop n) ⟨[], false⟩ rfl ⟨[], false⟩ rfl A (by rw [HAe.out, numsOf_take]) X HXe.out
    rw [List.take_append_drop, ← hns2] at hsp
    have HF3 := hide hF3
    have HSP := hide hsp
    clear hF3 hsp hns2
    refine HF3.out.mono ?_
    rintro e w7 ⟨F7, v7, c7, rfl, _, hK7, _⟩
    have hB7 : Below w.heap.size w w7 := HB6.out.trans (hK7.below HB6.out.size (fun k hk => Nat.le_trans hw1w (HH6.out.lo k hk)))
    obtain ⟨oc, hoc⟩ : ∃ oc, oc = strOfNums (encs (feedM X.1 A.2.1 t (numsOf (sr.extract n sr.size))).2.2) := ⟨_, rfl⟩
    have heq : oa = ob ++ oc := by rw [HOA.out, HOB.out, hoc, HSP.out, strOf_app]
    have hobz : ob.size ≤ 100000 := by
      have h1 := feedM_len ⟨0, 0, [(kK, ⟨2, 5, 10, 0, 0⟩)]⟩ ⟨[], false⟩ t (numsOf (sr.extract 0 n))
      rw [← HAe.out, numsOf_take, List.length_take] at h1
      rw [HOB.out, strOfNums_size, encs_length]
      simp at h1
      omega
    have hocz : oc.size ≤ 200000 := by
      have h1 := feedM_len X.1 A.2.1 t (numsOf (sr.extract n sr.size))
      rw [numsOf_drop, List.length_drop] at h1
      rw [hoc, strOfNums_size, encs_length, numsOf_drop]
      omega
    dsimp only
    rw [← hoc]
    have HB7 := hide hB7
    clear hoc hB7 hK7 HF3 HH6 HZ6 HD1 HSP HOA HOB
    go_wp2_with fail
    go_ret
    exact ⟨rfl, HB7.out⟩
end Go.Proofs.YtlamgpeiolfffaaGreatDoor
