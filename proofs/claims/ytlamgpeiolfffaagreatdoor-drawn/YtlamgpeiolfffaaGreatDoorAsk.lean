import Derived.Test.YtlamgpeiolfffaaGreatDoorZz37
set_option linter.unusedSectionVars false
namespace Go.Proofs.YtlamgpeiolfffaaGreatDoor
open Go.RowKit
variable [dK] [iK]

set_option maxRecDepth 100000 in
set_option maxHeartbeats 4000000 in
theorem ask13 (hb db nb sb : Nat) (mb : Option Nat) (blk T A : Int) (z : Qt) (F : Nat → Prop) (B : Nat) (cv : Value) (cb : Nat → Nat) (n at_ : Int) (w : World) (H : HostAt w hb db nb sb mb blk ⟨T, A, [(kK, z)]⟩ F B cv 3 cb (fun _ => ⟨[], false⟩)) (hB : B ≤ w.heap.size) (hB0 : 0 < B)
    (hn : 0 ≤ n ∧ n ≤ 18446744073709551615) (ha : 0 ≤ at_ ∧ at_ ≤ 18446744073709551615) (hL : Ld.ok ⟨T, A, [(kK, z)]⟩) (hgl : w.cell? ⟨0, 0, none⟩ = some (.iface 201 (.agg #[.pointer (some ⟨1, 88, none⟩)])))
    (T' A' : Int) (z' : Qt) (r : Rp) (hT : T' = if T < at_ then at_ else T) (hA : A' = if r.c = 2 then (A + n) % 18446744073709551616 else A) (hr : admM z T' n = (z', r)) (htd : r.told) :
    Calls Tryz.prog 13 #[.pointer (some ⟨hb, 0, none⟩), .int .u64 n, .int .u64 at_] w fun e w' => ∃ F' cv' cb', e = .returned (.tuple #[.agg #[.int .u8 r.c, .int .u64 r.a, .int .u64 r.b], .bool true]) ∧ HostAt w' hb db nb sb mb blk ⟨T', A', [(kK, z')]⟩ F' B cv' 3 cb' (fun _ => ⟨[], false⟩) ∧ Keep (HG hb db F cv 3 cb) w w' ∧ ∀ b, HG hb db F' cv' 3 cb' b → HG hb db F cv 3 cb b ∨ w.heap.size ≤ b := by
  have hqo : (qAdm n).ok := ⟨⟨by simp [qAdm, Rq.key], by simp [qAdm, Rq.key], by simp [qAdm, Rq.key], by simp [qAdm, Rq.key], by simp [qAdm, Rq.key], by simp [qAdm, Rq.key], by simp [qAdm, Rq.key], by simp [qAdm, Rq.key]⟩, by simp [qAdm], by simp [qAdm], hn⟩
  have hqb : (qAdm n).byt := ⟨by simp [qAdm], by simp [qAdm]⟩
  have hfq : feedM ⟨T, A, [(kK, z)]⟩ ⟨[], false⟩ at_ (encQs [qAdm n]) = (⟨T', A', [(kK, z')]⟩, ⟨[], false⟩, [r]) := by
    rw [ask_reckon T A at_ n z hn, ← hT, hr, hA]
  have HFQ := hide hfq
  have HQO := hide hqo
  have HQB := hide hqb
  have HL := hide hL
  have HGL := hide hgl
  have HH := hide H
  have HTD := hide htd
  clear hfq hqo hqb hL hgl H hT hA hr htd
  obtain ⟨W0, hW0⟩ : ∃ W0, W0 = w.alloc (.cells #[.int .u8 0, .int .u64 0, .int .u64 0] 40) := ⟨_, rfl⟩
  have hbx : W0.heap[w.heap.size]? = some (.cells #[.int .u8 0, .int .u64 0, .int .u64 0] 40) := hW0 ▸ heapNew _ _
  have hB0w : Below w.heap.size w W0 := hW0 ▸ (Below.refl _ w).alloc (Nat.le_refl _) _
  have hs0 : w.heap.size + 1 = W0.heap.size := by rw [hW0]; simp
  have HS0 := hide hs0
  have HB0 := hide hB0w
  have HBX := hide hbx
  clear hs0 hB0w hbx
  go_enter Tryz.func13, Tryz.ntmps13
  go_wp2_with fail
  rw [← hW0, HS0.out]
  clear hW0
  obtain ⟨R, hR⟩ : ∃ R, R = w.heap.size := ⟨_, rfl⟩
  obtain ⟨W, hW⟩ : ∃ W, W = W0.alloc (.cells (([qAdm n] : List Rq).flatMap rqcl).toArray 58) := ⟨_, rfl⟩
  have hWA : W.heap[W0.heap.size]? = some (.cells (([qAdm n] : List Rq).flatMap rqcl).toArray 58) := hW ▸ heapNew _ _
  have hWB : Below W0.heap.size W0 W := hW ▸ (Below.refl _ W0).alloc (Nat.le_refl _) _
  have h9 := bytes9' W0.heap.size 1 [qAdm n] W 58 (0, 0) (by simp) (by simp) (fun q hq => by simp at hq; rw [hq]; exact HQO.out) hWA
  rw [hW] at h9
  refine h9.mono ?_
  rw [← hW]
  rintro e w3 ⟨rfl, hb3⟩
  have hk3 : ∀ k, k < W0.heap.size → w3.heap[k]? = W0.heap[k]? := fun k hk => (hb3.block k (Nat.lt_of_lt_of_le hk hWB.size)).trans (hWB.block k hk)
  have hs3 : W0.heap.size ≤ w3.heap.size := Nat.le_trans hWB.size hb3.size
  have hs0 := HS0.out
  have H3 := (HH.out.kept HB0.out.size (fun k hk => HB0.out.block k hk)).kept hs3 hk3
  have hB3 : Below w.heap.size w w3 := HB0.out.trans ⟨hb3.os.trans hWB.os, hb3.tape.trans hWB.tape, hb3.output.trans hWB.output, hs3, fun k hk => hk3 k (by omega)⟩
  have hbx3 : w3.heap[R]? = some (.cells #[.int .u8 0, .int .u64 0, .int .u64 0] 40) := by rw [hR]; exact (hk3 _ (by omega)).trans HBX.out
  have hRn : ¬ HG hb db F cv 3 cb R := fun h => by have := HH.out.lt R h; omega
  obtain ⟨st, hst⟩ : ∃ st, st = strOfNums (encQs [qAdm n]) := ⟨_, rfl⟩
  have hnum : numsOf st = encQs [qAdm n] := by rw [hst]; exact numsOf_str _ (encQs_bytes _ (fun q hq => by simp at hq; rw [hq]; exact ⟨HQO.out, HQB.out⟩))
  have hfm : feedM ⟨T, A, [(kK, z)]⟩ ⟨[], false⟩ at_ (numsOf st) = (⟨T', A', [(kK, z')]⟩, ⟨[], false⟩, [r]) := by rw [hnum]; exact HFQ.out
  have h11 := feed11 hb db nb sb mb blk ⟨T, A, [(kK, z)]⟩ F B cv 3 cb (fun _ => ⟨[], false⟩) 1 at_ st w3 H3 (by decide) (by omega) (fun h => absurd h (by decide)) 1 (by decide) (by decide) (by decide) HL.out ha.1 ha.2 (by intro b hb; simp at hb) (by rw [hnum]; have := encQs_len [qAdm n]; simp at this ⊢; omega)
  simp only [hfm] at h11
  have H11 := hide h11
  have HBW3 := hide hB3
  have HLO3 := hide H3.lo
  have HBX3 := hide hbx3
  have HRN := hide hRn
  have HWR : Hid (w.heap.size ≤ w3.heap.size ∧ R < w3.heap.size) := hide ⟨by omega, by omega⟩
  rw [← hst, ← hR]
  have HR := hide hR
  clear hst hnum hfm h11 hB3 H3 hk3 hs3 h9 hW hWA hWB hb3 hs0 hbx3 hRn hR HS0 HB0 HBX
  go_wp2_with fail
  refine H11.out.mono ?_
  rintro e w4 ⟨F4, cv4, cb4, rfl, H4, hK4, hG4⟩
  have hbx4 := (hK4.block R HWR.out.2 HRN.out).trans HBX3.out
  have hRn4 : ¬ HG hb db F4 cv4 3 cb4 R := fun h => (hG4 R h).elim HRN.out (fun h => by have := HWR.out.2; omega)
  have hB4 : Below B w w4 := (HBW3.out.mono hB).trans (hK4.below (Nat.le_trans hB HBW3.out.size) HLO3.out)
  obtain ⟨st2, hst2⟩ : ∃ st2, st2 = strOfNums (encs [r]) := ⟨_, rfl⟩
  have htd : ∀ r' ∈ ([r] : List Rp), r'.told := fun r' hr => by
    simp at hr; rw [hr]; exact HTD.out
  have h23 := replies23 st2 [r] w4 (by rw [hst2]; exact numsOf_str _ (encs_bytes _ htd)) htd (by simp) ((hB4.cell (p := ⟨0, 0, none⟩) hB0).trans HGL.out)
  have H23 := hide h23
  rw [← hst2]
  have HB4 := hide hB4
  have HK4 : Hid (Keep (HG hb db F cv 3 cb) w w4) := hide ((Keep.of_below HBW3.out).trans hK4)
  have HG4 : Hid (∀ b, HG hb db F4 cv4 3 cb4 b → HG hb db F cv 3 cb b ∨ w.heap.size ≤ b) := hide (fun b h => (hG4 b h).imp id (fun h => Nat.le_trans HWR.out.1 h))
  have HH4 := hide H4
  have HBX4 := hide hbx4
  have HRN4 := hide hRn4
  clear hst2 h23 hB4 H4 hK4 hG4 H11 HLO3 htd hbx4 hRn4
  go_wp2_with fail
  refine H23.out.mono ?_
  rintro e w5 ⟨lv, rfl, hown5, hb5⟩
  obtain ⟨g, gc, rfl, _, hg5⟩ := hown5.form (by simp)
  have k0 := hown5.cellAt 0 (by simp)
  have k1 := hown5.cellAt 1 (by simp)
  have k2 := hown5.cellAt 2 (by simp)
  simp [rpcs, rpc] at k0 k1 k2
  have hbx5 := (hb5.block R (ltB HBX4.out)).trans HBX4.out
  have d1 := cellB hbx5
  have d2 := frozenB hbx5
  clear hown5 H23
  go_wp2_with fail
  refine bodyPost_ret (v := .tuple #[.agg #[.int .u8 r.c, .int .u64 r.a, .int .u64 r.b], .bool true]) (by simp [results, Tryz.results13, go_sem, d1]) rfl ⟨F4, cv4, cb4, rfl, ?_, ?_, HG4.out⟩
  · have hce : (fun j : Nat => if j = 1 then (⟨[], false⟩ : Cn) else ⟨[], false⟩) = fun _ => ⟨[], false⟩ := by
      funext j
      split <;> rfl
    have H4 := HH4.out
    rw [hce] at H4
    refine (H4.kept hb5.size (fun k hk => hb5.block k hk)).quiet (fun _ => rfl) (by simp) (fun k hk => ?_)
    have hkR : k ≠ R := fun e => HRN4.out (e ▸ hk)
    rw [heapSetO hkR, heapSetO hkR, heapSetO hkR]
  · have hwR : w.heap.size ≤ R := Nat.le_of_eq HR.out.symm
    exact (((HK4.out.trans (Keep.of_below hb5)).set (Or.inr hwR) _ _).set (Or.inr hwR) _ _).set (Or.inr hwR) _ _
end Go.Proofs.YtlamgpeiolfffaaGreatDoor
