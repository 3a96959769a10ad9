import Derived.Test.YtnlgndpcddngoaaGreatDoorZc30
import Derived.Test.YtnlgndpcddngoaaGreatDoorZc07
set_option linter.unusedSectionVars false
namespace Go.Proofs.YtnlgndpcddngoaaGreatDoor
open Go.RowKit Go.Maps
variable [dK] [iK]

theorem wpList_len_run {P : Program} (w : World) {ops : Array Oper} {rest : List Oper} {o : Oper} {a : Act} {Q : Exit → Act → World → Prop} (hg : o.guard = none) (m : Operand) (t : TypeId) (hop : o.op = Op.call { callee := Callee.builtin Builtin.len, args := #[m], argTypes := #[t] })
    (vm : Value) (hm : a.eval m = vm) (r : Value) (hrun : (Builtin.len_ #[t] o.type #[vm]).run P w = .ok r w) (hK : wpList P ops Q rest (a.put o.dst r) w) :
    wpList P ops Q (o :: rest) a w := by
  refine wpList_plain hg fun K' hK' => ?_
  unfold Oper.wp
  simp [execOp, hop, resolve, invoke, builtin, hm, hrun, Result.andThen]
  exact hK' _ _ hK

set_option maxRecDepth 100000 in
set_option maxHeartbeats 4000000 in
theorem bdef_bad0 (sb mp : Nat) (s0 s1 sp adm : Value) (time blk : Int) (es : Es) (k : Ky) (w : World) (hs : w.heap[sb]? = some (.cells #[s0, s1, .int .u64 time, .int .u64 blk, .map (some mp), sp, adm] 130)) (hm : MapE w mp es) (hk : k.ok) (kd x y : Int) (hso : ¬ ((kd = 1 ∧ 1 ≤ x) ∨ (kd = 2 ∧ 1 ≤ y))) (hf : fndG k es = none) :
    Calls Tryz.prog 109 #[.pointer (some ⟨sb, 2, none⟩), .agg #[.int .u8 k.k0, .int .u8 k.k1, .int .u8 k.k2, .int .u8 k.k3, .int .u8 k.k4, .int .u8 k.k5, .int .u8 k.k6, .int .u8 k.k7], .agg #[.int .u8 kd, .int .u64 x, .int .u64 y]] w fun e w' => e = .returned (.agg #[.int .u8 8, .int .u64 0, .int .u64 0]) ∧ Below w.heap.size w w' := by
  have hmlt := MapG.lt hm
  have hsb := ltB hs
  go_enter Tryz.func109, Tryz.ntmps109
  go_wp2_with fail
  refine (qnew_bad kd x y _ hso).mono ?_
  rintro e w1 ⟨rfl, hb1⟩
  have hb1' : Below w.heap.size w w1 := ((((Below.refl _ w).alloc (Nat.le_refl _) _).alloc (by simp) _).alloc (by simp <;> omega) _).trans (hb1.mono (by simp <;> omega))
  have hk9 : w1.heap[w.heap.size]? = some (.cells #[.int .u8 k.k0, .int .u8 k.k1, .int .u8 k.k2, .int .u8 k.k3, .int .u8 k.k4, .int .u8 k.k5, .int .u8 k.k6, .int .u8 k.k7] 63) := (hb1.block _ (by simp <;> omega)).trans (upB (upB (heapNew _ _) _) _)
  have hr9 : w1.heap[w.heap.size + 2]? = some (.cells #[.int .u8 0, .int .u64 0, .int .u64 0] 40) := (hb1.block _ (by simp <;> omega)).trans (heapN (by simp))
  have hs9 : w1.heap[sb]? = some (.cells #[s0, s1, .int .u64 time, .int .u64 blk, .map (some mp), sp, adm] 130) := (hb1.block _ (by simp <;> omega)).trans (upB (upB (upB hs _) _) _)
  have hm9 : MapE w1 mp es := MapG.kept hm (hb1'.block mp hmlt)
  clear hb1 hs hm
  go_upto_region 2 with fail
  obtain ⟨W, hW⟩ : ∃ W, W = w1.alloc (.cells #[.int .u8 0, .int .u64 0, .int .u64 0, .int .u64 0, .int .u64 0] 173) := ⟨_, rfl⟩
  rw [← hW]
  have hB : Below w.heap.size w W := hW ▸ hb1'.alloc hb1'.size _
  have hk0 : W.heap[w.heap.size]? = some (.cells #[.int .u8 k.k0, .int .u8 k.k1, .int .u8 k.k2, .int .u8 k.k3, .int .u8 k.k4, .int .u8 k.k5, .int .u8 k.k6, .int .u8 k.k7] 63) := hW ▸ upB hk9 _
  have hr0 : W.heap[w.heap.size + 2]? = some (.cells #[.int .u8 0, .int .u64 0, .int .u64 0] 40) := hW ▸ upB hr9 _
  have hs0 : W.heap[sb]? = some (.cells #[s0, s1, .int .u64 time, .int .u64 blk, .map (some mp), sp, adm] 130) := hW ▸ upB hs9 _
  have hq0 : W.heap[w1.heap.size]? = some (.cells #[.int .u8 0, .int .u64 0, .int .u64 0, .int .u64 0, .int .u64 0] 173) := hW ▸ heapNew _ _
  have hm0 : MapE W mp es := hW ▸ MapG.kept hm9 (heapOld _ _ (MapG.lt hm9))
  have lr9 := ltB hr9
  clear hW hb1' hk9 hr9 hs9 hm9
  have a1 := cellB hk0
  have a2 := upC hk0 (.cells #[.int .u8 0, .int .u64 0, .int .u64 0, .int .u64 0, .int .u64 0, .int .u8 0, .int .u64 0, .int .u64 0, .int .u64 0, .int .u64 0] 177)
  have a3 := cellB hs0
  have a4 := upC hs0 (.cells #[.int .u8 0, .int .u64 0, .int .u64 0, .int .u64 0, .int .u64 0, .int .u8 0, .int .u64 0, .int .u64 0, .int .u64 0, .int .u64 0] 177)
  have a5 := lookE0 (w := W.drew) (MapG.kept hm0 rfl) hk hf
  have a6 := lookE0 (w := (W.alloc (.cells #[.int .u8 0, .int .u64 0, .int .u64 0, .int .u64 0, .int .u64 0, .int .u8 0, .int .u64 0, .int .u64 0, .int .u64 0, .int .u64 0] 177)).drew) (MapG.kept hm0 (heapOld _ _ (MapG.lt hm0))) hk hf
  go_cut [9, 10] (fun s5 s6 wx => s5 = .pointer (some ⟨W.heap.size, 0, none⟩) ∧ s6 = .bool false ∧ wx = (W.alloc (.cells #[.int .u8 0, .int .u64 0, .int .u64 0, .int .u64 0, .int .u64 0, .int .u8 0, .int .u64 0, .int .u64 0, .int .u64 0, .int .u64 0] 177)).drew)
  case first =>
    go_region
    all_goals (go_wp2_with fail; go_meet)
    all_goals exact ⟨rfl, rfl, rfl⟩
  case rest =>
    obtain ⟨rfl, rfl, rfl⟩ := hcut
    have hk1 := upB hk0 (.cells #[.int .u8 0, .int .u64 0, .int .u64 0, .int .u64 0, .int .u64 0, .int .u8 0, .int .u64 0, .int .u64 0, .int .u64 0, .int .u64 0] 177)
    have hr1 := upB hr0 (.cells #[.int .u8 0, .int .u64 0, .int .u64 0, .int .u64 0, .int .u64 0, .int .u8 0, .int .u64 0, .int .u64 0, .int .u64 0, .int .u64 0] 177)
    have hs1 := upB hs0 (.cells #[.int .u8 0, .int .u64 0, .int .u64 0, .int .u64 0, .int .u64 0, .int .u8 0, .int .u64 0, .int .u64 0, .int .u64 0, .int .u64 0] 177)
    have hq1 := upB hq0 (.cells #[.int .u8 0, .int .u64 0, .int .u64 0, .int .u64 0, .int .u64 0, .int .u8 0, .int .u64 0, .int .u64 0, .int .u64 0, .int .u64 0] 177)
    have hm1 : MapE (W.alloc (.cells #[.int .u8 0, .int .u64 0, .int .u64 0, .int .u64 0, .int .u64 0, .int .u8 0, .int .u64 0, .int .u64 0, .int .u64 0, .int .u64 0] 177)) mp es := MapG.kept hm0 (heapOld _ _ (MapG.lt hm0))
    have hB1 := hB.alloc hB.size (.cells #[.int .u8 0, .int .u64 0, .int .u64 0, .int .u64 0, .int .u64 0, .int .u8 0, .int .u64 0, .int .u64 0, .int .u64 0, .int .u64 0] 177)
    have hB0 := hB.size
    clear a1 a2 a3 a4 a5 a6 hk0 hr0 hs0 hm0 hq0
    have b1 := cellB hr1
    have b2 := frozenB hr1
    go_wp2
    refine bodyPost_ret (v := .agg #[.int .u8 8, .int .u64 0, .int .u64 0]) (by simp [results, Tryz.results109, go_sem, b1]) rfl ⟨rfl, Below.drew ?_⟩
    repeat (refine Below.setCell ?_ (by simp <;> omega) _)
    exact hB1

set_option maxRecDepth 100000 in
set_option maxHeartbeats 4000000 in
theorem bdef_bad1 (sb mp : Nat) (s0 s1 sp adm : Value) (time blk : Int) (es : Es) (k : Ky) (w : World) (hs : w.heap[sb]? = some (.cells #[s0, s1, .int .u64 time, .int .u64 blk, .map (some mp), sp, adm] 130)) (hm : MapE w mp es) (hk : k.ok) (kd x y : Int) (hso : ¬ ((kd = 1 ∧ 1 ≤ x) ∨ (kd = 2 ∧ 1 ≤ y))) (p1 p2 : Qt) (hf : fndG k es = some (p1, p2)) :
    Calls Tryz.prog 109 #[.pointer (some ⟨sb, 2, none⟩), .agg #[.int .u8 k.k0, .int .u8 k.k1, .int .u8 k.k2, .int .u8 k.k3, .int .u8 k.k4, .int .u8 k.k5, .int .u8 k.k6, .int .u8 k.k7], .agg #[.int .u8 kd, .int .u64 x, .int .u64 y]] w fun e w' => e = .returned (.agg #[.int .u8 8, .int .u64 0, .int .u64 0]) ∧ Below w.heap.size w w' := by
  have hmlt := MapG.lt hm
  have hsb := ltB hs
  go_enter Tryz.func109, Tryz.ntmps109
  go_wp2_with fail
  refine (qnew_bad kd x y _ hso).mono ?_
  rintro e w1 ⟨rfl, hb1⟩
  have hb1' : Below w.heap.size w w1 := ((((Below.refl _ w).alloc (Nat.le_refl _) _).alloc (by simp) _).alloc (by simp <;> omega) _).trans (hb1.mono (by simp <;> omega))
  have hk9 : w1.heap[w.heap.size]? = some (.cells #[.int .u8 k.k0, .int .u8 k.k1, .int .u8 k.k2, .int .u8 k.k3, .int .u8 k.k4, .int .u8 k.k5, .int .u8 k.k6, .int .u8 k.k7] 63) := (hb1.block _ (by simp <;> omega)).trans (upB (upB (heapNew _ _) _) _)
  have hr9 : w1.heap[w.heap.size + 2]? = some (.cells #[.int .u8 0, .int .u64 0, .int .u64 0] 40) := (hb1.block _ (by simp <;> omega)).trans (heapN (by simp))
  have hs9 : w1.heap[sb]? = some (.cells #[s0, s1, .int .u64 time, .int .u64 blk, .map (some mp), sp, adm] 130) := (hb1.block _ (by simp <;> omega)).trans (upB (upB (upB hs _) _) _)
  have hm9 : MapE w1 mp es := MapG.kept hm (hb1'.block mp hmlt)
  clear hb1 hs hm
  go_upto_region 2 with fail
  obtain ⟨W, hW⟩ : ∃ W, W = w1.alloc (.cells #[.int .u8 0, .int .u64 0, .int .u64 0, .int .u64 0, .int .u64 0] 173) := ⟨_, rfl⟩
  rw [← hW]
  have hB : Below w.heap.size w W := hW ▸ hb1'.alloc hb1'.size _
  have hk0 : W.heap[w.heap.size]? = some (.cells #[.int .u8 k.k0, .int .u8 k.k1, .int .u8 k.k2, .int .u8 k.k3, .int .u8 k.k4, .int .u8 k.k5, .int .u8 k.k6, .int .u8 k.k7] 63) := hW ▸ upB hk9 _
  have hr0 : W.heap[w.heap.size + 2]? = some (.cells #[.int .u8 0, .int .u64 0, .int .u64 0] 40) := hW ▸ upB hr9 _
  have hs0 : W.heap[sb]? = some (.cells #[s0, s1, .int .u64 time, .int .u64 blk, .map (some mp), sp, adm] 130) := hW ▸ upB hs9 _
  have hq0 : W.heap[w1.heap.size]? = some (.cells #[.int .u8 0, .int .u64 0, .int .u64 0, .int .u64 0, .int .u64 0] 173) := hW ▸ heapNew _ _
  have hm0 : MapE W mp es := hW ▸ MapG.kept hm9 (heapOld _ _ (MapG.lt hm9))
  have lr9 := ltB hr9
  clear hW hb1' hk9 hr9 hs9 hm9
  have a1 := cellB hk0
  have a2 := upC hk0 (.cells #[.int .u8 0, .int .u64 0, .int .u64 0, .int .u64 0, .int .u64 0, .int .u8 0, .int .u64 0, .int .u64 0, .int .u64 0, .int .u64 0] 177)
  have a3 := cellB hs0
  have a4 := upC hs0 (.cells #[.int .u8 0, .int .u64 0, .int .u64 0, .int .u64 0, .int .u64 0, .int .u8 0, .int .u64 0, .int .u64 0, .int .u64 0, .int .u64 0] 177)
  have a5 := lookE1 (w := W.drew) (MapG.kept hm0 rfl) hk hf
  have a6 := lookE1 (w := (W.alloc (.cells #[.int .u8 0, .int .u64 0, .int .u64 0, .int .u64 0, .int .u64 0, .int .u8 0, .int .u64 0, .int .u64 0, .int .u64 0, .int .u64 0] 177)).drew) (MapG.kept hm0 (heapOld _ _ (MapG.lt hm0))) hk hf
  go_cut [9, 10] (fun s5 s6 wx => s5 = .pointer (some ⟨W.heap.size, 0, none⟩) ∧ s6 = .bool true ∧ wx = (W.alloc (.cells #[.int .u8 p1.kd, .int .u64 p1.x, .int .u64 p1.y, .int .u64 p1.lv, .int .u64 p1.wn, .int .u8 p2.kd, .int .u64 p2.x, .int .u64 p2.y, .int .u64 p2.lv, .int .u64 p2.wn] 177)).drew)
  case first =>
    go_region
    all_goals (go_wp2_with fail; go_meet)
    all_goals exact ⟨rfl, rfl, rfl⟩
  case rest =>
    obtain ⟨rfl, rfl, rfl⟩ := hcut
    have hk1 := upB hk0 (.cells #[.int .u8 p1.kd, .int .u64 p1.x, .int .u64 p1.y, .int .u64 p1.lv, .int .u64 p1.wn, .int .u8 p2.kd, .int .u64 p2.x, .int .u64 p2.y, .int .u64 p2.lv, .int .u64 p2.wn] 177)
    have hr1 := upB hr0 (.cells #[.int .u8 p1.kd, .int .u64 p1.x, .int .u64 p1.y, .int .u64 p1.lv, .int .u64 p1.wn, .int .u8 p2.kd, .int .u64 p2.x, .int .u64 p2.y, .int .u64 p2.lv, .int .u64 p2.wn] 177)
    have hs1 := upB hs0 (.cells #[.int .u8 p1.kd, .int .u64 p1.x, .int .u64 p1.y, .int .u64 p1.lv, .int .u64 p1.wn, .int .u8 p2.kd, .int .u64 p2.x, .int .u64 p2.y, .int .u64 p2.lv, .int .u64 p2.wn] 177)
    have hq1 := upB hq0 (.cells #[.int .u8 p1.kd, .int .u64 p1.x, .int .u64 p1.y, .int .u64 p1.lv, .int .u64 p1.wn, .int .u8 p2.kd, .int .u64 p2.x, .int .u64 p2.y, .int .u64 p2.lv, .int .u64 p2.wn] 177)
    have hm1 : MapE (W.alloc (.cells #[.int .u8 p1.kd, .int .u64 p1.x, .int .u64 p1.y, .int .u64 p1.lv, .int .u64 p1.wn, .int .u8 p2.kd, .int .u64 p2.x, .int .u64 p2.y, .int .u64 p2.lv, .int .u64 p2.wn] 177)) mp es := MapG.kept hm0 (heapOld _ _ (MapG.lt hm0))
    have hB1 := hB.alloc hB.size (.cells #[.int .u8 p1.kd, .int .u64 p1.x, .int .u64 p1.y, .int .u64 p1.lv, .int .u64 p1.wn, .int .u8 p2.kd, .int .u64 p2.x, .int .u64 p2.y, .int .u64 p2.lv, .int .u64 p2.wn] 177)
    have hB0 := hB.size
    clear a1 a2 a3 a4 a5 a6 hk0 hr0 hs0 hm0 hq0
    have b1 := cellB hr1
    have b2 := frozenB hr1
    go_wp2
    refine bodyPost_ret (v := .agg #[.int .u8 8, .int .u64 0, .int .u64 0]) (by simp [results, Tryz.results109, go_sem, b1]) rfl ⟨rfl, Below.drew ?_⟩
    repeat (refine Below.setCell ?_ (by simp <;> omega) _)
    exact hB1

set_option maxRecDepth 100000 in
set_option maxHeartbeats 4000000 in
theorem bdef_exists (sb mp : Nat) (s0 s1 sp adm : Value) (time blk : Int) (es : Es) (k : Ky) (w : World) (hs : w.heap[sb]? = some (.cells #[s0, s1, .int .u64 time, .int .u64 blk, .map (some mp), sp, adm] 130)) (hm : MapE w mp es) (hk : k.ok) (kd x y : Int) (hso : ((kd = 1 ∧ 1 ≤ x) ∨ (kd = 2 ∧ 1 ≤ y))) (p1 p2 : Qt) (hf : fndG k es = some (p1, p2)) :
    Calls Tryz.prog 109 #[.pointer (some ⟨sb, 2, none⟩), .agg #[.int .u8 k.k0, .int .u8 k.k1, .int .u8 k.k2, .int .u8 k.k3, .int .u8 k.k4, .int .u8 k.k5, .int .u8 k.k6, .int .u8 k.k7], .agg #[.int .u8 kd, .int .u64 x, .int .u64 y]] w fun e w' => e = .returned (.agg #[.int .u8 9, .int .u64 0, .int .u64 0]) ∧ Below w.heap.size w w' := by
  have hmlt := MapG.lt hm
  have hsb := ltB hs
  go_enter Tryz.func109, Tryz.ntmps109
  go_wp2_with fail
  refine (qnew_ok kd x y _ hso).mono ?_
  rintro e w1 ⟨rfl, hb1⟩
  have hb1' : Below w.heap.size w w1 := ((((Below.refl _ w).alloc (Nat.le_refl _) _).alloc (by simp) _).alloc (by simp <;> omega) _).trans (hb1.mono (by simp <;> omega))
  have hk9 : w1.heap[w.heap.size]? = some (.cells #[.int .u8 k.k0, .int .u8 k.k1, .int .u8 k.k2, .int .u8 k.k3, .int .u8 k.k4, .int .u8 k.k5, .int .u8 k.k6, .int .u8 k.k7] 63) := (hb1.block _ (by simp <;> omega)).trans (upB (upB (heapNew _ _) _) _)
  have hr9 : w1.heap[w.heap.size + 2]? = some (.cells #[.int .u8 0, .int .u64 0, .int .u64 0] 40) := (hb1.block _ (by simp <;> omega)).trans (heapN (by simp))
  have hs9 : w1.heap[sb]? = some (.cells #[s0, s1, .int .u64 time, .int .u64 blk, .map (some mp), sp, adm] 130) := (hb1.block _ (by simp <;> omega)).trans (upB (upB (upB hs _) _) _)
  have hm9 : MapE w1 mp es := MapG.kept hm (hb1'.block mp hmlt)
  clear hb1 hs hm
  go_upto_region 2 with fail
  obtain ⟨W, hW⟩ : ∃ W, W = w1.alloc (.cells #[.int .u8 kd, .int .u64 x, .int .u64 y, .int .u64 0, .int .u64 0] 173) := ⟨_, rfl⟩
  rw [← hW]
  have hB : Below w.heap.size w W := hW ▸ hb1'.alloc hb1'.size _
  have hk0 : W.heap[w.heap.size]? = some (.cells #[.int .u8 k.k0, .int .u8 k.k1, .int .u8 k.k2, .int .u8 k.k3, .int .u8 k.k4, .int .u8 k.k5, .int .u8 k.k6, .int .u8 k.k7] 63) := hW ▸ upB hk9 _
  have hr0 : W.heap[w.heap.size + 2]? = some (.cells #[.int .u8 0, .int .u64 0, .int .u64 0] 40) := hW ▸ upB hr9 _
  have hs0 : W.heap[sb]? = some (.cells #[s0, s1, .int .u64 time, .int .u64 blk, .map (some mp), sp, adm] 130) := hW ▸ upB hs9 _
  have hq0 : W.heap[w1.heap.size]? = some (.cells #[.int .u8 kd, .int .u64 x, .int .u64 y, .int .u64 0, .int .u64 0] 173) := hW ▸ heapNew _ _
  have hm0 : MapE W mp es := hW ▸ MapG.kept hm9 (heapOld _ _ (MapG.lt hm9))
  have lr9 := ltB hr9
  clear hW hb1' hk9 hr9 hs9 hm9
  have a1 := cellB hk0
  have a2 := upC hk0 (.cells #[.int .u8 0, .int .u64 0, .int .u64 0, .int .u64 0, .int .u64 0, .int .u8 0, .int .u64 0, .int .u64 0, .int .u64 0, .int .u64 0] 177)
  have a3 := cellB hs0
  have a4 := upC hs0 (.cells #[.int .u8 0, .int .u64 0, .int .u64 0, .int .u64 0, .int .u64 0, .int .u8 0, .int .u64 0, .int .u64 0, .int .u64 0, .int .u64 0] 177)
  have a5 := lookE1 (w := W.drew) (MapG.kept hm0 rfl) hk hf
  have a6 := lookE1 (w := (W.alloc (.cells #[.int .u8 0, .int .u64 0, .int .u64 0, .int .u64 0, .int .u64 0, .int .u8 0, .int .u64 0, .int .u64 0, .int .u64 0, .int .u64 0] 177)).drew) (MapG.kept hm0 (heapOld _ _ (MapG.lt hm0))) hk hf
  go_cut [9, 10] (fun s5 s6 wx => s5 = .pointer (some ⟨W.heap.size, 0, none⟩) ∧ s6 = .bool true ∧ wx = (W.alloc (.cells #[.int .u8 p1.kd, .int .u64 p1.x, .int .u64 p1.y, .int .u64 p1.lv, .int .u64 p1.wn, .int .u8 p2.kd, .int .u64 p2.x, .int .u64 p2.y, .int .u64 p2.lv, .int .u64 p2.wn] 177)).drew)
  case first =>
    go_region
    all_goals (go_wp2_with fail; go_meet)
    all_goals exact ⟨rfl, rfl, rfl⟩
  case rest =>
    obtain ⟨rfl, rfl, rfl⟩ := hcut
    have hk1 := upB hk0 (.cells #[.int .u8 p1.kd, .int .u64 p1.x, .int .u64 p1.y, .int .u64 p1.lv, .int .u64 p1.wn, .int .u8 p2.kd, .int .u64 p2.x, .int .u64 p2.y, .int .u64 p2.lv, .int .u64 p2.wn] 177)
    have hr1 := upB hr0 (.cells #[.int .u8 p1.kd, .int .u64 p1.x, .int .u64 p1.y, .int .u64 p1.lv, .int .u64 p1.wn, .int .u8 p2.kd, .int .u64 p2.x, .int .u64 p2.y, .int .u64 p2.lv, .int .u64 p2.wn] 177)
    have hs1 := upB hs0 (.cells #[.int .u8 p1.kd, .int .u64 p1.x, .int .u64 p1.y, .int .u64 p1.lv, .int .u64 p1.wn, .int .u8 p2.kd, .int .u64 p2.x, .int .u64 p2.y, .int .u64 p2.lv, .int .u64 p2.wn] 177)
    have hq1 := upB hq0 (.cells #[.int .u8 p1.kd, .int .u64 p1.x, .int .u64 p1.y, .int .u64 p1.lv, .int .u64 p1.wn, .int .u8 p2.kd, .int .u64 p2.x, .int .u64 p2.y, .int .u64 p2.lv, .int .u64 p2.wn] 177)
    have hm1 : MapE (W.alloc (.cells #[.int .u8 p1.kd, .int .u64 p1.x, .int .u64 p1.y, .int .u64 p1.lv, .int .u64 p1.wn, .int .u8 p2.kd, .int .u64 p2.x, .int .u64 p2.y, .int .u64 p2.lv, .int .u64 p2.wn] 177)) mp es := MapG.kept hm0 (heapOld _ _ (MapG.lt hm0))
    have hB1 := hB.alloc hB.size (.cells #[.int .u8 p1.kd, .int .u64 p1.x, .int .u64 p1.y, .int .u64 p1.lv, .int .u64 p1.wn, .int .u8 p2.kd, .int .u64 p2.x, .int .u64 p2.y, .int .u64 p2.lv, .int .u64 p2.wn] 177)
    have hB0 := hB.size
    clear a1 a2 a3 a4 a5 a6 hk0 hr0 hs0 hm0 hq0
    have b1 := cellB hr1
    have b2 := frozenB hr1
    go_wp2
    refine bodyPost_ret (v := .agg #[.int .u8 9, .int .u64 0, .int .u64 0]) (by simp [results, Tryz.results109, go_sem, b1]) rfl ⟨rfl, Below.drew ?_⟩
    repeat (refine Below.setCell ?_ (by simp <;> omega) _)
    exact hB1

set_option maxRecDepth 100000 in
set_option maxHeartbeats 4000000 in
theorem bdef_full (sb mp : Nat) (s0 s1 sp adm : Value) (time blk : Int) (es : Es) (k : Ky) (w : World) (hs : w.heap[sb]? = some (.cells #[s0, s1, .int .u64 time, .int .u64 blk, .map (some mp), sp, adm] 130)) (hm : MapE w mp es) (hk : k.ok) (kd x y : Int) (hso : ((kd = 1 ∧ 1 ≤ x) ∨ (kd = 2 ∧ 1 ≤ y))) (hf : fndG k es = none) (hl : 12 ≤ es.length) :
    Calls Tryz.prog 109 #[.pointer (some ⟨sb, 2, none⟩), .agg #[.int .u8 k.k0, .int .u8 k.k1, .int .u8 k.k2, .int .u8 k.k3, .int .u8 k.k4, .int .u8 k.k5, .int .u8 k.k6, .int .u8 k.k7], .agg #[.int .u8 kd, .int .u64 x, .int .u64 y]] w fun e w' => e = .returned (.agg #[.int .u8 5, .int .u64 0, .int .u64 0]) ∧ Below w.heap.size w w' := by
  have hmlt := MapG.lt hm
  have hsb := ltB hs
  go_enter Tryz.func109, Tryz.ntmps109
  go_wp2_with fail
  refine (qnew_ok kd x y _ hso).mono ?_
  rintro e w1 ⟨rfl, hb1⟩
  have hb1' : Below w.heap.size w w1 := ((((Below.refl _ w).alloc (Nat.le_refl _) _).alloc (by simp) _).alloc (by simp <;> omega) _).trans (hb1.mono (by simp <;> omega))
  have hk9 : w1.heap[w.heap.size]? = some (.cells #[.int .u8 k.k0, .int .u8 k.k1, .int .u8 k.k2, .int .u8 k.k3, .int .u8 k.k4, .int .u8 k.k5, .int .u8 k.k6, .int .u8 k.k7] 63) := (hb1.block _ (by simp <;> omega)).trans (upB (upB (heapNew _ _) _) _)
  have hr9 : w1.heap[w.heap.size + 2]? = some (.cells #[.int .u8 0, .int .u64 0, .int .u64 0] 40) := (hb1.block _ (by simp <;> omega)).trans (heapN (by simp))
  have hs9 : w1.heap[sb]? = some (.cells #[s0, s1, .int .u64 time, .int .u64 blk, .map (some mp), sp, adm] 130) := (hb1.block _ (by simp <;> omega)).trans (upB (upB (upB hs _) _) _)
  have hm9 : MapE w1 mp es := MapG.kept hm (hb1'.block mp hmlt)
  clear hb1 hs hm
  go_upto_region 2 with fail
  obtain ⟨W, hW⟩ : ∃ W, W = w1.alloc (.cells #[.int .u8 kd, .int .u64 x, .int .u64 y, .int .u64 0, .int .u64 0] 173) := ⟨_, rfl⟩
  rw [← hW]
  have hB : Below w.heap.size w W := hW ▸ hb1'.alloc hb1'.size _
  have hk0 : W.heap[w.heap.size]? = some (.cells #[.int .u8 k.k0, .int .u8 k.k1, .int .u8 k.k2, .int .u8 k.k3, .int .u8 k.k4, .int .u8 k.k5, .int .u8 k.k6, .int .u8 k.k7] 63) := hW ▸ upB hk9 _
  have hr0 : W.heap[w.heap.size + 2]? = some (.cells #[.int .u8 0, .int .u64 0, .int .u64 0] 40) := hW ▸ upB hr9 _
  have hs0 : W.heap[sb]? = some (.cells #[s0, s1, .int .u64 time, .int .u64 blk, .map (some mp), sp, adm] 130) := hW ▸ upB hs9 _
  have hq0 : W.heap[w1.heap.size]? = some (.cells #[.int .u8 kd, .int .u64 x, .int .u64 y, .int .u64 0, .int .u64 0] 173) := hW ▸ heapNew _ _
  have hm0 : MapE W mp es := hW ▸ MapG.kept hm9 (heapOld _ _ (MapG.lt hm9))
  have lr9 := ltB hr9
  clear hW hb1' hk9 hr9 hs9 hm9
  have a1 := cellB hk0
  have a2 := upC hk0 (.cells #[.int .u8 0, .int .u64 0, .int .u64 0, .int .u64 0, .int .u64 0, .int .u8 0, .int .u64 0, .int .u64 0, .int .u64 0, .int .u64 0] 177)
  have a3 := cellB hs0
  have a4 := upC hs0 (.cells #[.int .u8 0, .int .u64 0, .int .u64 0, .int .u64 0, .int .u64 0, .int .u8 0, .int .u64 0, .int .u64 0, .int .u64 0, .int .u64 0] 177)
  have a5 := lookE0 (w := W.drew) (MapG.kept hm0 rfl) hk hf
  have a6 := lookE0 (w := (W.alloc (.cells #[.int .u8 0, .int .u64 0, .int .u64 0, .int .u64 0, .int .u64 0, .int .u8 0, .int .u64 0, .int .u64 0, .int .u64 0, .int .u64 0] 177)).drew) (MapG.kept hm0 (heapOld _ _ (MapG.lt hm0))) hk hf
  go_cut [9, 10] (fun s5 s6 wx => s5 = .pointer (some ⟨W.heap.size, 0, none⟩) ∧ s6 = .bool false ∧ wx = (W.alloc (.cells #[.int .u8 0, .int .u64 0, .int .u64 0, .int .u64 0, .int .u64 0, .int .u8 0, .int .u64 0, .int .u64 0, .int .u64 0, .int .u64 0] 177)).drew)
  case first =>
    go_region
    all_goals (go_wp2_with fail; go_meet)
    all_goals exact ⟨rfl, rfl, rfl⟩
  case rest =>
    obtain ⟨rfl, rfl, rfl⟩ := hcut
    have hk1 := upB hk0 (.cells #[.int .u8 0, .int .u64 0, .int .u64 0, .int .u64 0, .int .u64 0, .int .u8 0, .int .u64 0, .int .u64 0, .int .u64 0, .int .u64 0] 177)
    have hr1 := upB hr0 (.cells #[.int .u8 0, .int .u64 0, .int .u64 0, .int .u64 0, .int .u64 0, .int .u8 0, .int .u64 0, .int .u64 0, .int .u64 0, .int .u64 0] 177)
    have hs1 := upB hs0 (.cells #[.int .u8 0, .int .u64 0, .int .u64 0, .int .u64 0, .int .u64 0, .int .u8 0, .int .u64 0, .int .u64 0, .int .u64 0, .int .u64 0] 177)
    have hq1 := upB hq0 (.cells #[.int .u8 0, .int .u64 0, .int .u64 0, .int .u64 0, .int .u64 0, .int .u8 0, .int .u64 0, .int .u64 0, .int .u64 0, .int .u64 0] 177)
    have hm1 : MapE (W.alloc (.cells #[.int .u8 0, .int .u64 0, .int .u64 0, .int .u64 0, .int .u64 0, .int .u8 0, .int .u64 0, .int .u64 0, .int .u64 0, .int .u64 0] 177)) mp es := MapG.kept hm0 (heapOld _ _ (MapG.lt hm0))
    have hB1 := hB.alloc hB.size (.cells #[.int .u8 0, .int .u64 0, .int .u64 0, .int .u64 0, .int .u64 0, .int .u8 0, .int .u64 0, .int .u64 0, .int .u64 0, .int .u64 0] 177)
    have hB0 := hB.size
    clear a1 a2 a3 a4 a5 a6 hk0 hr0 hs0 hm0 hq0
    have b1 := cellB hr1
    have b2 := frozenB hr1
    have b3 := cellB hs1
    have hlen : Hid ((Builtin.len_ #[121] 3 #[.map (some mp)]).run Tryz.prog (W.alloc (.cells #[.int .u8 0, .int .u64 0, .int .u64 0, .int .u64 0, .int .u64 0, .int .u8 0, .int .u64 0, .int .u64 0, .int .u64 0, .int .u64 0] 177)).drew = .ok (.int .i64 es.length) (W.alloc (.cells #[.int .u8 0, .int .u64 0, .int .u64 0, .int .u64 0, .int .u64 0, .int .u8 0, .int .u64 0, .int .u64 0, .int .u64 0, .int .u64 0] 177)).drew) := hide (MapG.len (w := (W.alloc (.cells #[.int .u8 0, .int .u64 0, .int .u64 0, .int .u64 0, .int .u64 0, .int .u8 0, .int .u64 0, .int .u64 0, .int .u64 0, .int .u64 0] 177)).drew) (MapG.kept hm1 rfl) undE 3)
    have h12 : decide ((12 : Int) ≤ es.length) = true := by simp; omega
    go_upto_region 7 with fail
    go_wp2_with (at_len; refine wpList_len_run _ (by rfl) _ _ (by rfl) _ (by rfl) _ hlen.out ?_)
    refine bodyPost_ret (v := .agg #[.int .u8 5, .int .u64 0, .int .u64 0]) (by simp [results, Tryz.results109, go_sem, b1]) rfl ⟨rfl, Below.drew ?_⟩
    repeat (refine Below.setCell ?_ (by simp <;> omega) _)
    exact hB1
end Go.Proofs.YtnlgndpcddngoaaGreatDoor
