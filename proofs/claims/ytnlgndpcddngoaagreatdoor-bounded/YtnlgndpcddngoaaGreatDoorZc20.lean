import Derived.Test.YtnlgndpcddngoaaGreatDoorZc18
import Derived.Test.YtnlgndpcddngoaaGreatDoorZc17
set_option linter.unusedSectionVars false
namespace Go.Proofs.YtnlgndpcddngoaaGreatDoor
open Go.RowKit
variable [dK] [iK]

theorem judgea1 (w : World) : (Instr.field 299 (.agg #[.func (.func 174) #[] #[], .func (.func 175) #[] #[], .func (.func 176) #[] #[]]) 2).run Tryz.prog w = .ok (.func (.func 176) #[] #[]) w := by kernel_rfl
theorem judgea2 (w : World) : (Instr.field 299 (.agg #[.func (.func 177) #[] #[], .func (.func 178) #[] #[], .func (.func 179) #[] #[]]) 2).run Tryz.prog w = .ok (.func (.func 179) #[] #[]) w := by kernel_rfl
/-- What is reserved ahead. -/
def aheadM (q : Qt) (blk : Int) : Qt := if q.kd = 1 then ⟨q.kd, q.x, q.y, orNever (q.lv + blk), q.wn⟩ else ⟨q.kd, q.x, q.y, if orNever (q.lv + blk) < q.x then orNever (q.lv + blk) else q.x, q.wn⟩
/-- Is what was let in covered? -/
def coversM (h s : Qt) : Bool := decide (s.wn = h.wn) && decide (s.lv ≤ h.lv)

set_option maxRecDepth 100000 in
theorem qcovers (h s : Qt) (w : World) :
    Calls Tryz.prog 138 #[.agg #[.int .u8 h.kd, .int .u64 h.x, .int .u64 h.y, .int .u64 h.lv, .int .u64 h.wn], .agg #[.int .u8 s.kd, .int .u64 s.x, .int .u64 s.y, .int .u64 s.lv, .int .u64 s.wn]] w fun e w' => e = .returned (.bool (coversM h s)) ∧ Below w.heap.size w w' := by
  by_cases e1 : s.wn = h.wn
  · have n1 : (s.wn == h.wn) = true := by simp [e1]
    have e2 : coversM h s = decide (s.lv ≤ h.lv) := by unfold coversM; simp [e1]
    rw [e2]
    clear e1 e2
    go_enter Tryz.func138, Tryz.ntmps138
    go_wp2
    go_ret
    exact ⟨rfl, ((Below.refl _ w).alloc (Nat.le_refl _) _).alloc (by simp) _⟩
  · have n1 : (s.wn == h.wn) = false := by simp [e1]
    have e2 : coversM h s = false := by unfold coversM; simp [e1]
    rw [e2]
    clear e1 e2
    go_enter Tryz.func138, Tryz.ntmps138
    go_wp2
    go_ret
    exact ⟨rfl, ((Below.refl _ w).alloc (Nat.le_refl _) _).alloc (by simp) _⟩

set_option maxRecDepth 100000 in
set_option maxHeartbeats 2000000 in
theorem qahead1 (x y lv wn blk lv1 : Int) (w : World)
    (hah : Hid (∀ w1, Calls Tryz.prog 176 #[.agg #[.int .u8 1, .int .u64 x, .int .u64 y, .int .u64 lv, .int .u64 wn], .int .u64 blk] w1 fun e w' => e = .returned (.agg #[.int .u8 1, .int .u64 x, .int .u64 y, .int .u64 lv1, .int .u64 wn]) ∧ Below w1.heap.size w1 w')) :
    Calls Tryz.prog 139 #[.agg #[.int .u8 1, .int .u64 x, .int .u64 y, .int .u64 lv, .int .u64 wn], .int .u64 blk] w fun e w' => e = .returned (.agg #[.int .u8 1, .int .u64 x, .int .u64 y, .int .u64 lv1, .int .u64 wn]) ∧ Below w.heap.size w w' := by
  have hj := judgeq1
  have hjf := judgea1
  go_enter Tryz.func139, Tryz.ntmps139
  go_wp2_with fail
  obtain ⟨W, hW⟩ : ∃ W, W = (w.alloc (.cells #[.int .u8 1, .int .u64 x, .int .u64 y, .int .u64 lv, .int .u64 wn] 173)).alloc (.cells #[.int .u8 0, .int .u64 0, .int .u64 0, .int .u64 0, .int .u64 0] 173) := ⟨_, rfl⟩
  rw [← hW]
  have hB : Below w.heap.size w W := hW ▸ ((Below.refl _ w).alloc (Nat.le_refl _) _).alloc (by simp) _
  have hk0 : W.heap[w.heap.size]? = some (.cells #[.int .u8 1, .int .u64 x, .int .u64 y, .int .u64 lv, .int .u64 wn] 173) := hW ▸ upB (heapNew _ _) _
  have hr0 : W.heap[w.heap.size + 1]? = some (.cells #[.int .u8 0, .int .u64 0, .int .u64 0, .int .u64 0, .int .u64 0] 173) := hW ▸ heapN (by simp)
  clear hW
  have a1 := cellB hk0
  have a2 := upC hk0 (.cells #[.nilFunc, .nilFunc, .nilFunc, .func (.func 174) #[] #[], .func (.func 175) #[] #[], .func (.func 176) #[] #[], .func (.func 177) #[] #[], .func (.func 178) #[] #[], .func (.func 179) #[] #[]] 300)
  have l0 := ltB hk0
  have l1 := ltB hr0
  go_region_with (first | (go_at_call 157; refine (qjudges _).mono ?_; rintro e w1 ⟨rfl, rfl⟩) | (go_at_call 176; refine (hah.out _).mono ?_; rintro e w1 ⟨rfl, hb1⟩; have f1 := fun j => (hb1.cell (p := ⟨w.heap.size + 1, j, none⟩) (by simp; omega)).trans (upC hr0 (.cells #[.nilFunc, .nilFunc, .nilFunc, .func (.func 174) #[] #[], .func (.func 175) #[] #[], .func (.func 176) #[] #[], .func (.func 177) #[] #[], .func (.func 178) #[] #[], .func (.func 179) #[] #[]] 300) j); have f2 := fun j => (hb1.frozen (p := ⟨w.heap.size + 1, j, none⟩) (by simp; omega)).trans (upF hr0 (.cells #[.nilFunc, .nilFunc, .nilFunc, .func (.func 174) #[] #[], .func (.func 175) #[] #[], .func (.func 176) #[] #[], .func (.func 177) #[] #[], .func (.func 178) #[] #[], .func (.func 179) #[] #[]] 300) j)))
  all_goals go_wp2
  all_goals (
    refine bodyPost_ret (v := .agg #[.int .u8 1, .int .u64 x, .int .u64 y, .int .u64 lv1, .int .u64 wn]) (by simp [results, Tryz.results139, go_sem, f1]) rfl ⟨rfl, ?_⟩
    repeat (refine Below.setCell ?_ (by simp <;> omega) _)
    exact (hB.alloc hB.size _).drew.trans (hb1.mono (by simp; omega)))


set_option maxRecDepth 100000 in
set_option maxHeartbeats 2000000 in
theorem qahead2 (x y lv wn blk lv1 : Int) (w : World)
    (hah : Hid (∀ w1, Calls Tryz.prog 179 #[.agg #[.int .u8 2, .int .u64 x, .int .u64 y, .int .u64 lv, .int .u64 wn], .int .u64 blk] w1 fun e w' => e = .returned (.agg #[.int .u8 2, .int .u64 x, .int .u64 y, .int .u64 lv1, .int .u64 wn]) ∧ Below w1.heap.size w1 w')) :
    Calls Tryz.prog 139 #[.agg #[.int .u8 2, .int .u64 x, .int .u64 y, .int .u64 lv, .int .u64 wn], .int .u64 blk] w fun e w' => e = .returned (.agg #[.int .u8 2, .int .u64 x, .int .u64 y, .int .u64 lv1, .int .u64 wn]) ∧ Below w.heap.size w w' := by
  have hj := judgeq2
  have hjf := judgea2
  go_enter Tryz.func139, Tryz.ntmps139
  go_wp2_with fail
  obtain ⟨W, hW⟩ : ∃ W, W = (w.alloc (.cells #[.int .u8 2, .int .u64 x, .int .u64 y, .int .u64 lv, .int .u64 wn] 173)).alloc (.cells #[.int .u8 0, .int .u64 0, .int .u64 0, .int .u64 0, .int .u64 0] 173) := ⟨_, rfl⟩
  rw [← hW]
  have hB : Below w.heap.size w W := hW ▸ ((Below.refl _ w).alloc (Nat.le_refl _) _).alloc (by simp) _
  have hk0 : W.heap[w.heap.size]? = some (.cells #[.int .u8 2, .int .u64 x, .int .u64 y, .int .u64 lv, .int .u64 wn] 173) := hW ▸ upB (heapNew _ _) _
  have hr0 : W.heap[w.heap.size + 1]? = some (.cells #[.int .u8 0, .int .u64 0, .int .u64 0, .int .u64 0, .int .u64 0] 173) := hW ▸ heapN (by simp)
  clear hW
  have a1 := cellB hk0
  have a2 := upC hk0 (.cells #[.nilFunc, .nilFunc, .nilFunc, .func (.func 174) #[] #[], .func (.func 175) #[] #[], .func (.func 176) #[] #[], .func (.func 177) #[] #[], .func (.func 178) #[] #[], .func (.func 179) #[] #[]] 300)
  have l0 := ltB hk0
  have l1 := ltB hr0
  go_region_with (first | (go_at_call 157; refine (qjudges _).mono ?_; rintro e w1 ⟨rfl, rfl⟩) | (go_at_call 179; refine (hah.out _).mono ?_; rintro e w1 ⟨rfl, hb1⟩; have f1 := fun j => (hb1.cell (p := ⟨w.heap.size + 1, j, none⟩) (by simp; omega)).trans (upC hr0 (.cells #[.nilFunc, .nilFunc, .nilFunc, .func (.func 174) #[] #[], .func (.func 175) #[] #[], .func (.func 176) #[] #[], .func (.func 177) #[] #[], .func (.func 178) #[] #[], .func (.func 179) #[] #[]] 300) j); have f2 := fun j => (hb1.frozen (p := ⟨w.heap.size + 1, j, none⟩) (by simp; omega)).trans (upF hr0 (.cells #[.nilFunc, .nilFunc, .nilFunc, .func (.func 174) #[] #[], .func (.func 175) #[] #[], .func (.func 176) #[] #[], .func (.func 177) #[] #[], .func (.func 178) #[] #[], .func (.func 179) #[] #[]] 300) j)))
  all_goals go_wp2
  all_goals (
    refine bodyPost_ret (v := .agg #[.int .u8 2, .int .u64 x, .int .u64 y, .int .u64 lv1, .int .u64 wn]) (by simp [results, Tryz.results139, go_sem, f1]) rfl ⟨rfl, ?_⟩
    repeat (refine Below.setCell ?_ (by simp <;> omega) _)
    exact (hB.alloc hB.size _).drew.trans (hb1.mono (by simp; omega)))

end Go.Proofs.YtnlgndpcddngoaaGreatDoor
