import Derived.Test.YtlamgpeiolfffaaGreatDoorZy00
set_option linter.unusedSectionVars false
namespace Go.Proofs.YtlamgpeiolfffaaGreatDoor
open Go.RowKit
variable [dK] [iK]

theorem judgeq1 (w : World) : (Instr.index 247 (.agg #[.nilFunc, .nilFunc, .func (.func 134) #[] #[], .func (.func 135) #[] #[], .func (.func 136) #[] #[], .func (.func 137) #[] #[]]) (.int .u8 1)).run Tryz.prog w = .ok (.agg #[.func (.func 134) #[] #[], .func (.func 135) #[] #[]]) w := by kernel_rfl
theorem judgeq2 (w : World) : (Instr.index 247 (.agg #[.nilFunc, .nilFunc, .func (.func 134) #[] #[], .func (.func 135) #[] #[], .func (.func 136) #[] #[], .func (.func 137) #[] #[]]) (.int .u8 2)).run Tryz.prog w = .ok (.agg #[.func (.func 136) #[] #[], .func (.func 137) #[] #[]]) w := by kernel_rfl
theorem judgef1 (w : World) : (Instr.field 246 (.agg #[.func (.func 134) #[] #[], .func (.func 135) #[] #[]]) 0).run Tryz.prog w = .ok (.func (.func 134) #[] #[]) w := by kernel_rfl
theorem judgef2 (w : World) : (Instr.field 246 (.agg #[.func (.func 136) #[] #[], .func (.func 137) #[] #[]]) 0).run Tryz.prog w = .ok (.func (.func 136) #[] #[]) w := by kernel_rfl
theorem qreplyB (kd x y lv wn c : Int) (w : World) :
    Calls Tryz.prog 133 #[.agg #[.int .u8 kd, .int .u64 x, .int .u64 y, .int .u64 lv, .int .u64 wn], .int .u8 c] w fun e w' => e = .returned (.agg #[.int .u8 c, .int .u64 lv, .int .u64 wn]) ∧ Below w.heap.size w w' := by
  refine (qreply kd x y lv wn c w).mono ?_
  rintro e w' ⟨rfl, rfl⟩
  exact ⟨rfl, ((Below.refl _ w).alloc (Nat.le_refl _) _).alloc (by simp) _⟩

set_option maxRecDepth 100000 in
set_option maxHeartbeats 2000000 in
theorem qquery1 (x y lv wn now kd1 x1 y1 lv1 wn1 : Int) (w : World)
    (hturn : Hid (∀ w1, Calls Tryz.prog 134 #[.agg #[.int .u8 1, .int .u64 x, .int .u64 y, .int .u64 lv, .int .u64 wn], .int .u64 now] w1 fun e w' => e = .returned (.agg #[.int .u8 kd1, .int .u64 x1, .int .u64 y1, .int .u64 lv1, .int .u64 wn1]) ∧ Below w1.heap.size w1 w')) :
    Calls Tryz.prog 126 #[.agg #[.int .u8 1, .int .u64 x, .int .u64 y, .int .u64 lv, .int .u64 wn], .int .u64 now] w fun e w' => e = .returned (.agg #[.int .u8 1, .int .u64 lv1, .int .u64 wn1]) ∧ Below w.heap.size w w' := by
  have hj := judgeq1
  have hjf := judgef1
  go_enter Tryz.func126, Tryz.ntmps126
  go_wp2_with fail
  obtain ⟨W, hW⟩ : ∃ W, W = (w.alloc (.cells #[.int .u8 1, .int .u64 x, .int .u64 y, .int .u64 lv, .int .u64 wn] 231)).alloc (.cells #[.int .u8 0, .int .u64 0, .int .u64 0] 40) := ⟨_, rfl⟩
  rw [← hW]
  have hB : Below w.heap.size w W := hW ▸ ((Below.refl _ w).alloc (Nat.le_refl _) _).alloc (by simp) _
  have hk0 : W.heap[w.heap.size]? = some (.cells #[.int .u8 1, .int .u64 x, .int .u64 y, .int .u64 lv, .int .u64 wn] 231) := hW ▸ upB (heapNew _ _) _
  have hr0 : W.heap[w.heap.size + 1]? = some (.cells #[.int .u8 0, .int .u64 0, .int .u64 0] 40) := hW ▸ heapN (by simp)
  clear hW
  have a1 := cellB hk0
  have a2 := upC hk0 (.cells #[.nilFunc, .nilFunc, .func (.func 134) #[] #[], .func (.func 135) #[] #[], .func (.func 136) #[] #[], .func (.func 137) #[] #[]] 247)
  have l0 := ltB hk0
  have l1 := ltB hr0
  go_region_with (first | (go_at_call 132; refine (qjudges _).mono ?_; rintro e w1 ⟨rfl, rfl⟩) | (go_at_call 134; refine (hturn.out _).mono ?_; rintro e w1 ⟨rfl, hb1⟩) | (go_at_call 133; refine (qreplyB _ _ _ _ _ _ _).mono ?_; rintro e w2 ⟨rfl, hb2⟩; have L1 : w.heap.size + 1 < w1.heap.size := Nat.lt_of_lt_of_le (by simp; omega) hb1.size; have f1 := fun j => (hb2.cell (p := ⟨w.heap.size + 1, j, none⟩) L1).trans ((hb1.cell (p := ⟨w.heap.size + 1, j, none⟩) (by simp; omega)).trans (upC hr0 (.cells #[.nilFunc, .nilFunc, .func (.func 134) #[] #[], .func (.func 135) #[] #[], .func (.func 136) #[] #[], .func (.func 137) #[] #[]] 247) j)); have g1 := fun j => (hb2.frozen (p := ⟨w.heap.size + 1, j, none⟩) L1).trans ((hb1.frozen (p := ⟨w.heap.size + 1, j, none⟩) (by simp; omega)).trans (upF hr0 (.cells #[.nilFunc, .nilFunc, .func (.func 134) #[] #[], .func (.func 135) #[] #[], .func (.func 136) #[] #[], .func (.func 137) #[] #[]] 247) j))))
  all_goals go_wp2
  all_goals (
    refine bodyPost_ret (v := .agg #[.int .u8 1, .int .u64 lv1, .int .u64 wn1]) (by simp [results, Tryz.results126, go_sem, f1]) rfl ⟨rfl, ?_⟩
    repeat (refine Below.setCell ?_ (by simp <;> omega) _)
    exact (hB.alloc hB.size _).drew.trans ((hb1.mono (by simp; omega)).trans (hb2.mono (by omega))))

set_option maxRecDepth 100000 in
set_option maxHeartbeats 2000000 in
theorem qquery2 (x y lv wn now kd1 x1 y1 lv1 wn1 : Int) (w : World)
    (hturn : Hid (∀ w1, Calls Tryz.prog 136 #[.agg #[.int .u8 2, .int .u64 x, .int .u64 y, .int .u64 lv, .int .u64 wn], .int .u64 now] w1 fun e w' => e = .returned (.agg #[.int .u8 kd1, .int .u64 x1, .int .u64 y1, .int .u64 lv1, .int .u64 wn1]) ∧ Below w1.heap.size w1 w')) :
    Calls Tryz.prog 126 #[.agg #[.int .u8 2, .int .u64 x, .int .u64 y, .int .u64 lv, .int .u64 wn], .int .u64 now] w fun e w' => e = .returned (.agg #[.int .u8 1, .int .u64 lv1, .int .u64 wn1]) ∧ Below w.heap.size w w' := by
  have hj := judgeq2
  have hjf := judgef2
  go_enter Tryz.func126, Tryz.ntmps126
  go_wp2_with fail
  obtain ⟨W, hW⟩ : ∃ W, W = (w.alloc (.cells #[.int .u8 2, .int .u64 x, .int .u64 y, .int .u64 lv, .int .u64 wn] 231)).alloc (.cells #[.int .u8 0, .int .u64 0, .int .u64 0] 40) := ⟨_, rfl⟩
  rw [← hW]
  have hB : Below w.heap.size w W := hW ▸ ((Below.refl _ w).alloc (Nat.le_refl _) _).alloc (by simp) _
  have hk0 : W.heap[w.heap.size]? = some (.cells #[.int .u8 2, .int .u64 x, .int .u64 y, .int .u64 lv, .int .u64 wn] 231) := hW ▸ upB (heapNew _ _) _
  have hr0 : W.heap[w.heap.size + 1]? = some (.cells #[.int .u8 0, .int .u64 0, .int .u64 0] 40) := hW ▸ heapN (by simp)
  clear hW
  have a1 := cellB hk0
  have a2 := upC hk0 (.cells #[.nilFunc, .nilFunc, .func (.func 134) #[] #[], .func (.func 135) #[] #[], .func (.func 136) #[] #[], .func (.func 137) #[] #[]] 247)
  have l0 := ltB hk0
  have l1 := ltB hr0
  go_region_with (first | (go_at_call 132; refine (qjudges _).mono ?_; rintro e w1 ⟨rfl, rfl⟩) | (go_at_call 136; refine (hturn.out _).mono ?_; rintro e w1 ⟨rfl, hb1⟩) | (go_at_call 133; refine (qreplyB _ _ _ _ _ _ _).mono ?_; rintro e w2 ⟨rfl, hb2⟩; have L1 : w.heap.size + 1 < w1.heap.size := Nat.lt_of_lt_of_le (by simp; omega) hb1.size; have f1 := fun j => (hb2.cell (p := ⟨w.heap.size + 1, j, none⟩) L1).trans ((hb1.cell (p := ⟨w.heap.size + 1, j, none⟩) (by simp; omega)).trans (upC hr0 (.cells #[.nilFunc, .nilFunc, .func (.func 134) #[] #[], .func (.func 135) #[] #[], .func (.func 136) #[] #[], .func (.func 137) #[] #[]] 247) j)); have g1 := fun j => (hb2.frozen (p := ⟨w.heap.size + 1, j, none⟩) L1).trans ((hb1.frozen (p := ⟨w.heap.size + 1, j, none⟩) (by simp; omega)).trans (upF hr0 (.cells #[.nilFunc, .nilFunc, .func (.func 134) #[] #[], .func (.func 135) #[] #[], .func (.func 136) #[] #[], .func (.func 137) #[] #[]] 247) j))))
  all_goals go_wp2
  all_goals (
    refine bodyPost_ret (v := .agg #[.int .u8 1, .int .u64 lv1, .int .u64 wn1]) (by simp [results, Tryz.results126, go_sem, f1]) rfl ⟨rfl, ?_⟩
    repeat (refine Below.setCell ?_ (by simp <;> omega) _)
    exact (hB.alloc hB.size _).drew.trans ((hb1.mono (by simp; omega)).trans (hb2.mono (by omega))))

end Go.Proofs.YtlamgpeiolfffaaGreatDoor
