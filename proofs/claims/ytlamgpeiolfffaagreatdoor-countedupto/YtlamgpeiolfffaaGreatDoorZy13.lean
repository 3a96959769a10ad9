import Derived.Test.YtlamgpeiolfffaaGreatDoorZy00
import Derived.Deep.DeepCutAuto
set_option linter.unusedSectionVars false
namespace Go.Proofs.YtlamgpeiolfffaaGreatDoor
open Go.RowKit
variable [dK] [iK]

theorem judge2 (w : World) : (Instr.index 247 (.agg #[.nilFunc, .nilFunc, .func (.func 134) #[] #[], .func (.func 135) #[] #[], .func (.func 136) #[] #[], .func (.func 137) #[] #[]]) (.int .u8 2)).run Tryz.prog w = .ok (.agg #[.func (.func 136) #[] #[], .func (.func 137) #[] #[]]) w := by kernel_rfl

set_option maxRecDepth 100000 in
set_option maxHeartbeats 4000000 in
theorem qadmit2 (x y lv wn now n kd1 x1 y1 lv1 wn1 kd' x' y' lv' wn' c a b : Int) (w : World)
    (hturn : Hid (∀ w1, Calls Tryz.prog 136 #[.agg #[.int .u8 2, .int .u64 x, .int .u64 y, .int .u64 lv, .int .u64 wn], .int .u64 now] w1 fun e w' => e = .returned (.agg #[.int .u8 kd1, .int .u64 x1, .int .u64 y1, .int .u64 lv1, .int .u64 wn1]) ∧ Below w1.heap.size w1 w'))
    (hadm : Hid (∀ w1, Calls Tryz.prog 137 #[.agg #[.int .u8 kd1, .int .u64 x1, .int .u64 y1, .int .u64 lv1, .int .u64 wn1], .int .u64 now, .int .u64 n] w1 fun e w' => e = .returned (.tuple #[.agg #[.int .u8 kd', .int .u64 x', .int .u64 y', .int .u64 lv', .int .u64 wn'], .agg #[.int .u8 c, .int .u64 a, .int .u64 b]]) ∧ Below w1.heap.size w1 w')) :
    Calls Tryz.prog 125 #[.agg #[.int .u8 2, .int .u64 x, .int .u64 y, .int .u64 lv, .int .u64 wn], .int .u64 now, .int .u64 n] w fun e w' => e = .returned (.tuple #[.agg #[.int .u8 kd', .int .u64 x', .int .u64 y', .int .u64 lv', .int .u64 wn'], .agg #[.int .u8 c, .int .u64 a, .int .u64 b]]) ∧ Below w.heap.size w w' := by
  have hj := judge2
  go_enter Tryz.func125, Tryz.ntmps125
  go_upto_region 1 with fail
  go_cut [8] (fun s8 wx => ∃ B, s8 = .pointer (some ⟨B, 0, none⟩) ∧ wx.heap[w.heap.size]? = some (.cells #[.int .u8 2, .int .u64 x, .int .u64 y, .int .u64 lv, .int .u64 wn] 231) ∧ wx.heap[w.heap.size + 1]? = some (.cells #[.int .u8 0, .int .u64 0, .int .u64 0, .int .u64 0, .int .u64 0] 231) ∧ wx.heap[w.heap.size + 2]? = some (.cells #[.int .u8 0, .int .u64 0, .int .u64 0] 40) ∧ wx.heap[B]? = some (.cells #[.func (.func 136) #[] #[], .func (.func 137) #[] #[]] 246) ∧ Below w.heap.size w wx)
  case first =>
    go_region_with (go_at_call 132; refine (qjudges _).mono ?_; rintro e w1 ⟨rfl, rfl⟩)
    all_goals (go_wp2_with fail; go_meet)
    all_goals (
      refine ⟨_, rfl, ?_, ?_, ?_, ?_, ?_⟩
      · repeat (first | exact heapN (by simp) | (refine (heapDrew _ _).trans ?_) | (refine (heapOld _ _ (by simp <;> omega)).trans ?_))
      · repeat (first | exact heapN (by simp) | (refine (heapDrew _ _).trans ?_) | (refine (heapOld _ _ (by simp <;> omega)).trans ?_))
      · repeat (first | exact heapN (by simp) | (refine (heapDrew _ _).trans ?_) | (refine (heapOld _ _ (by simp <;> omega)).trans ?_))
      · repeat (first | exact heapN (by simp) | (refine (heapDrew _ _).trans ?_) | (refine (heapOld _ _ (by simp <;> omega)).trans ?_))
      · exact (((((Below.refl _ w).alloc (by simp) _).alloc (by simp) _).alloc (by simp <;> omega) _).alloc (by simp <;> omega) _).alloc (by simp <;> omega) _ |>.drew)
  case rest =>
    obtain ⟨B, rfl, h0, h1, h2, h3, hb⟩ := hcut
    have c0 := cellB h0
    have c3 := cellB h3
    have l0 := ltB h0
    have l1 := ltB h1
    have l2 := ltB h2
    have l3 := ltB h3
    go_wp2_with fail
    go_region_with (first | (go_at_call 136; refine (hturn.out _).mono ?_; rintro e w1 ⟨rfl, hb1⟩; have d3 := fun j => (hb1.cell (p := ⟨B, j, none⟩) l3).trans (c3 j)) | (go_at_call 137; refine (hadm.out _).mono ?_; rintro e w2 ⟨rfl, hb2⟩; have L1 := Nat.lt_of_lt_of_le l1 hb1.size; have L2 := Nat.lt_of_lt_of_le l2 hb1.size; have f1 := fun j => (hb2.cell (p := ⟨w.heap.size + 1, j, none⟩) L1).trans ((hb1.cell (p := ⟨w.heap.size + 1, j, none⟩) l1).trans (cellB h1 j)); have f2 := fun j => (hb2.cell (p := ⟨w.heap.size + 2, j, none⟩) L2).trans ((hb1.cell (p := ⟨w.heap.size + 2, j, none⟩) l2).trans (cellB h2 j)); have g1 := fun j => (hb2.frozen (p := ⟨w.heap.size + 1, j, none⟩) L1).trans ((hb1.frozen (p := ⟨w.heap.size + 1, j, none⟩) l1).trans (frozenB h1 j)); have g2 := fun j => (hb2.frozen (p := ⟨w.heap.size + 2, j, none⟩) L2).trans ((hb1.frozen (p := ⟨w.heap.size + 2, j, none⟩) l2).trans (frozenB h2 j))))
    all_goals go_wp2
    all_goals (
      refine bodyPost_ret (v := .tuple #[.agg #[.int .u8 kd', .int .u64 x', .int .u64 y', .int .u64 lv', .int .u64 wn'], .agg #[.int .u8 c, .int .u64 a, .int .u64 b]]) (by simp [results, Tryz.results125, go_sem, f1, f2]) rfl ⟨rfl, ?_⟩
      repeat (refine Below.setCell ?_ (by simp <;> omega) _)
      exact hb.drew.trans (((Below.mono hb1 (Nat.le_of_lt l0)).trans (Below.mono hb2 (Nat.le_of_lt (Nat.lt_of_lt_of_le l0 hb1.size))))))

end Go.Proofs.YtlamgpeiolfffaaGreatDoor
