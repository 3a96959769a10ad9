import Derived.Test.YtlamgpeiolfffaaGreatDoorZy00
set_option linter.unusedSectionVars false
namespace Go.Proofs.YtlamgpeiolfffaaGreatDoor
open Go.RowKit Go.Maps
variable [dK] [iK]

set_option maxRecDepth 100000 in
set_option maxHeartbeats 2000000 in
theorem bdef_bad0 (sb : Nat) (s0 s1 adm : Value) (time : Int) (mp : Option Nat) (ks : List (Ky × Qt)) (k : Ky) (w : World) (hs : w.heap[sb]? = some (.cells #[s0, s1, .int .u64 time, .map mp, adm] 119)) (hm : MapX w mp ks) (hk : k.ok) (kd x y : Int) (hso : ¬ ((kd = 1 ∧ 1 ≤ x) ∨ (kd = 2 ∧ 1 ≤ y))) (hf : fnd k ks = none) :
    Calls Tryz.prog 102 #[.pointer (some ⟨sb, 2, none⟩), .agg #[.int .u8 k.k0, .int .u8 k.k1, .int .u8 k.k2, .int .u8 k.k3, .int .u8 k.k4, .int .u8 k.k5, .int .u8 k.k6, .int .u8 k.k7], .agg #[.int .u8 kd, .int .u64 x, .int .u64 y]] w fun e w' => e = .returned (.agg #[.int .u8 8, .int .u64 0, .int .u64 0]) ∧ Below w.heap.size w w' := by
  have hmlt := hm.lt
  have hsb := ltB hs
  go_enter Tryz.func102, Tryz.ntmps102
  go_wp2_with fail
  refine (qnew_bad kd x y _ hso).mono ?_
  rintro e w1 ⟨rfl, hb1⟩
  have hb1' : Below w.heap.size w w1 := ((((Below.refl _ w).alloc (Nat.le_refl _) _).alloc (by simp) _).alloc (by simp <;> omega) _).trans (hb1.mono (by simp <;> omega))
  have hk9 : w1.heap[w.heap.size]? = some (.cells #[.int .u8 k.k0, .int .u8 k.k1, .int .u8 k.k2, .int .u8 k.k3, .int .u8 k.k4, .int .u8 k.k5, .int .u8 k.k6, .int .u8 k.k7] 56) := (hb1.block _ (by simp <;> omega)).trans (upB (upB (heapNew _ _) _) _)
  have hr9 : w1.heap[w.heap.size + 2]? = some (.cells #[.int .u8 0, .int .u64 0, .int .u64 0] 40) := (hb1.block _ (by simp <;> omega)).trans (heapN (by simp))
  have hs9 : w1.heap[sb]? = some (.cells #[s0, s1, .int .u64 time, .map mp, adm] 119) := (hb1.block _ (by simp <;> omega)).trans (upB (upB (upB hs _) _) _)
  have hm9 : MapX w1 mp ks := hm.kept fun b hb => hb1'.block b (hmlt b hb)
  clear hb1 hs hm
  go_upto_region 2 with fail
  obtain ⟨W, hW⟩ : ∃ W, W = w1.alloc (.cells #[.int .u8 0, .int .u64 0, .int .u64 0, .int .u64 0, .int .u64 0] 231) := ⟨_, rfl⟩
  rw [← hW]
  have hB : Below w.heap.size w W := hW ▸ hb1'.alloc hb1'.size _
  have hk0 : W.heap[w.heap.size]? = some (.cells #[.int .u8 k.k0, .int .u8 k.k1, .int .u8 k.k2, .int .u8 k.k3, .int .u8 k.k4, .int .u8 k.k5, .int .u8 k.k6, .int .u8 k.k7] 56) := hW ▸ upB hk9 _
  have hr0 : W.heap[w.heap.size + 2]? = some (.cells #[.int .u8 0, .int .u64 0, .int .u64 0] 40) := hW ▸ upB hr9 _
  have hs0 : W.heap[sb]? = some (.cells #[s0, s1, .int .u64 time, .map mp, adm] 119) := hW ▸ upB hs9 _
  have hq0 : W.heap[w1.heap.size]? = some (.cells #[.int .u8 0, .int .u64 0, .int .u64 0, .int .u64 0, .int .u64 0] 231) := hW ▸ heapNew _ _
  have hm0 : MapX W mp ks := hW ▸ hm9.alloc _
  have lr9 := ltB hr9
  clear hW hb1' hk9 hr9 hs9 hm9
  have a1 := cellB hk0
  have a2 := upC hk0 (.cells #[.int .u8 0, .int .u64 0, .int .u64 0, .int .u64 0, .int .u64 0] 231)
  have a3 := cellB hs0
  have a4 := upC hs0 (.cells #[.int .u8 0, .int .u64 0, .int .u64 0, .int .u64 0, .int .u64 0] 231)
  have a5 := hm0.drew.look0 hk hf
  have a6 := (hm0.alloc (.cells #[.int .u8 0, .int .u64 0, .int .u64 0, .int .u64 0, .int .u64 0] 231)).drew.look0 hk hf
  go_cut [9, 10] (fun s5 s6 wx => s5 = .pointer (some ⟨W.heap.size, 0, none⟩) ∧ s6 = .bool false ∧ wx = (W.alloc (.cells #[.int .u8 0, .int .u64 0, .int .u64 0, .int .u64 0, .int .u64 0] 231)).drew)
  case first =>
    go_region
    all_goals (go_wp2_with fail; go_meet)
    all_goals exact ⟨rfl, rfl, rfl⟩
  case rest =>
    obtain ⟨rfl, rfl, rfl⟩ := hcut
    have hk1 := upB hk0 (.cells #[.int .u8 0, .int .u64 0, .int .u64 0, .int .u64 0, .int .u64 0] 231)
    have hr1 := upB hr0 (.cells #[.int .u8 0, .int .u64 0, .int .u64 0, .int .u64 0, .int .u64 0] 231)
    have hs1 := upB hs0 (.cells #[.int .u8 0, .int .u64 0, .int .u64 0, .int .u64 0, .int .u64 0] 231)
    have hq1 := upB hq0 (.cells #[.int .u8 0, .int .u64 0, .int .u64 0, .int .u64 0, .int .u64 0] 231)
    have hm1 := hm0.alloc (.cells #[.int .u8 0, .int .u64 0, .int .u64 0, .int .u64 0, .int .u64 0] 231)
    have hB1 := hB.alloc hB.size (.cells #[.int .u8 0, .int .u64 0, .int .u64 0, .int .u64 0, .int .u64 0] 231)
    have hB0 := hB.size
    clear a1 a2 a3 a4 a5 a6 hk0 hr0 hs0 hm0 hq0
    have b1 := cellB hr1
    have b2 := frozenB hr1
    go_wp2
    refine bodyPost_ret (v := .agg #[.int .u8 8, .int .u64 0, .int .u64 0]) (by simp [results, Tryz.results102, go_sem, b1]) rfl ⟨rfl, Below.drew ?_⟩
    repeat (refine Below.setCell ?_ (by simp <;> omega) _)
    exact hB1

set_option maxRecDepth 100000 in
set_option maxHeartbeats 2000000 in
theorem bdef_bad1 (sb : Nat) (s0 s1 adm : Value) (time : Int) (mp : Option Nat) (ks : List (Ky × Qt)) (k : Ky) (w : World) (hs : w.heap[sb]? = some (.cells #[s0, s1, .int .u64 time, .map mp, adm] 119)) (hm : MapX w mp ks) (hk : k.ok) (kd x y : Int) (hso : ¬ ((kd = 1 ∧ 1 ≤ x) ∨ (kd = 2 ∧ 1 ≤ y))) (q : Qt) (hf : fnd k ks = some q) :
    Calls Tryz.prog 102 #[.pointer (some ⟨sb, 2, none⟩), .agg #[.int .u8 k.k0, .int .u8 k.k1, .int .u8 k.k2, .int .u8 k.k3, .int .u8 k.k4, .int .u8 k.k5, .int .u8 k.k6, .int .u8 k.k7], .agg #[.int .u8 kd, .int .u64 x, .int .u64 y]] w fun e w' => e = .returned (.agg #[.int .u8 8, .int .u64 0, .int .u64 0]) ∧ Below w.heap.size w w' := by
  have hmlt := hm.lt
  have hsb := ltB hs
  go_enter Tryz.func102, Tryz.ntmps102
  go_wp2_with fail
  refine (qnew_bad kd x y _ hso).mono ?_
  rintro e w1 ⟨rfl, hb1⟩
  have hb1' : Below w.heap.size w w1 := ((((Below.refl _ w).alloc (Nat.le_refl _) _).alloc (by simp) _).alloc (by simp <;> omega) _).trans (hb1.mono (by simp <;> omega))
  have hk9 : w1.heap[w.heap.size]? = some (.cells #[.int .u8 k.k0, .int .u8 k.k1, .int .u8 k.k2, .int .u8 k.k3, .int .u8 k.k4, .int .u8 k.k5, .int .u8 k.k6, .int .u8 k.k7] 56) := (hb1.block _ (by simp <;> omega)).trans (upB (upB (heapNew _ _) _) _)
  have hr9 : w1.heap[w.heap.size + 2]? = some (.cells #[.int .u8 0, .int .u64 0, .int .u64 0] 40) := (hb1.block _ (by simp <;> omega)).trans (heapN (by simp))
  have hs9 : w1.heap[sb]? = some (.cells #[s0, s1, .int .u64 time, .map mp, adm] 119) := (hb1.block _ (by simp <;> omega)).trans (upB (upB (upB hs _) _) _)
  have hm9 : MapX w1 mp ks := hm.kept fun b hb => hb1'.block b (hmlt b hb)
  clear hb1 hs hm
  go_upto_region 2 with fail
  obtain ⟨W, hW⟩ : ∃ W, W = w1.alloc (.cells #[.int .u8 0, .int .u64 0, .int .u64 0, .int .u64 0, .int .u64 0] 231) := ⟨_, rfl⟩
  rw [← hW]
  have hB : Below w.heap.size w W := hW ▸ hb1'.alloc hb1'.size _
  have hk0 : W.heap[w.heap.size]? = some (.cells #[.int .u8 k.k0, .int .u8 k.k1, .int .u8 k.k2, .int .u8 k.k3, .int .u8 k.k4, .int .u8 k.k5, .int .u8 k.k6, .int .u8 k.k7] 56) := hW ▸ upB hk9 _
  have hr0 : W.heap[w.heap.size + 2]? = some (.cells #[.int .u8 0, .int .u64 0, .int .u64 0] 40) := hW ▸ upB hr9 _
  have hs0 : W.heap[sb]? = some (.cells #[s0, s1, .int .u64 time, .map mp, adm] 119) := hW ▸ upB hs9 _
  have hq0 : W.heap[w1.heap.size]? = some (.cells #[.int .u8 0, .int .u64 0, .int .u64 0, .int .u64 0, .int .u64 0] 231) := hW ▸ heapNew _ _
  have hm0 : MapX W mp ks := hW ▸ hm9.alloc _
  have lr9 := ltB hr9
  clear hW hb1' hk9 hr9 hs9 hm9
  have a1 := cellB hk0
  have a2 := upC hk0 (.cells #[.int .u8 0, .int .u64 0, .int .u64 0, .int .u64 0, .int .u64 0] 231)
  have a3 := cellB hs0
  have a4 := upC hs0 (.cells #[.int .u8 0, .int .u64 0, .int .u64 0, .int .u64 0, .int .u64 0] 231)
  have a5 := hm0.drew.look1 hk hf
  have a6 := (hm0.alloc (.cells #[.int .u8 0, .int .u64 0, .int .u64 0, .int .u64 0, .int .u64 0] 231)).drew.look1 hk hf
  go_cut [9, 10] (fun s5 s6 wx => s5 = .pointer (some ⟨W.heap.size, 0, none⟩) ∧ s6 = .bool true ∧ wx = (W.alloc (.cells #[.int .u8 q.kd, .int .u64 q.x, .int .u64 q.y, .int .u64 q.lv, .int .u64 q.wn] 231)).drew)
  case first =>
    go_region
    all_goals (go_wp2_with fail; go_meet)
    all_goals exact ⟨rfl, rfl, rfl⟩
  case rest =>
    obtain ⟨rfl, rfl, rfl⟩ := hcut
    have hk1 := upB hk0 (.cells #[.int .u8 q.kd, .int .u64 q.x, .int .u64 q.y, .int .u64 q.lv, .int .u64 q.wn] 231)
    have hr1 := upB hr0 (.cells #[.int .u8 q.kd, .int .u64 q.x, .int .u64 q.y, .int .u64 q.lv, .int .u64 q.wn] 231)
    have hs1 := upB hs0 (.cells #[.int .u8 q.kd, .int .u64 q.x, .int .u64 q.y, .int .u64 q.lv, .int .u64 q.wn] 231)
    have hq1 := upB hq0 (.cells #[.int .u8 q.kd, .int .u64 q.x, .int .u64 q.y, .int .u64 q.lv, .int .u64 q.wn] 231)
    have hm1 := hm0.alloc (.cells #[.int .u8 q.kd, .int .u64 q.x, .int .u64 q.y, .int .u64 q.lv, .int .u64 q.wn] 231)
    have hB1 := hB.alloc hB.size (.cells #[.int .u8 q.kd, .int .u64 q.x, .int .u64 q.y, .int .u64 q.lv, .int .u64 q.wn] 231)
    have hB0 := hB.size
    clear a1 a2 a3 a4 a5 a6 hk0 hr0 hs0 hm0 hq0
    have b1 := cellB hr1
    have b2 := frozenB hr1
    go_wp2
    refine bodyPost_ret (v := .agg #[.int .u8 8, .int .u64 0, .int .u64 0]) (by simp [results, Tryz.results102, go_sem, b1]) rfl ⟨rfl, Below.drew ?_⟩
    repeat (refine Below.setCell ?_ (by simp <;> omega) _)
    exact hB1

set_option maxRecDepth 100000 in
set_option maxHeartbeats 2000000 in
theorem bdef_exists (sb : Nat) (s0 s1 adm : Value) (time : Int) (mp : Option Nat) (ks : List (Ky × Qt)) (k : Ky) (w : World) (hs : w.heap[sb]? = some (.cells #[s0, s1, .int .u64 time, .map mp, adm] 119)) (hm : MapX w mp ks) (hk : k.ok) (kd x y : Int) (hso : (kd = 1 ∧ 1 ≤ x) ∨ (kd = 2 ∧ 1 ≤ y)) (q : Qt) (hf : fnd k ks = some q) :
    Calls Tryz.prog 102 #[.pointer (some ⟨sb, 2, none⟩), .agg #[.int .u8 k.k0, .int .u8 k.k1, .int .u8 k.k2, .int .u8 k.k3, .int .u8 k.k4, .int .u8 k.k5, .int .u8 k.k6, .int .u8 k.k7], .agg #[.int .u8 kd, .int .u64 x, .int .u64 y]] w fun e w' => e = .returned (.agg #[.int .u8 9, .int .u64 0, .int .u64 0]) ∧ Below w.heap.size w w' := by
  have hmlt := hm.lt
  have hsb := ltB hs
  go_enter Tryz.func102, Tryz.ntmps102
  go_wp2_with fail
  refine (qnew_ok kd x y _ hso).mono ?_
  rintro e w1 ⟨rfl, hb1⟩
  have hb1' : Below w.heap.size w w1 := ((((Below.refl _ w).alloc (Nat.le_refl _) _).alloc (by simp) _).alloc (by simp <;> omega) _).trans (hb1.mono (by simp <;> omega))
  have hk9 : w1.heap[w.heap.size]? = some (.cells #[.int .u8 k.k0, .int .u8 k.k1, .int .u8 k.k2, .int .u8 k.k3, .int .u8 k.k4, .int .u8 k.k5, .int .u8 k.k6, .int .u8 k.k7] 56) := (hb1.block _ (by simp <;> omega)).trans (upB (upB (heapNew _ _) _) _)
  have hr9 : w1.heap[w.heap.size + 2]? = some (.cells #[.int .u8 0, .int .u64 0, .int .u64 0] 40) := (hb1.block _ (by simp <;> omega)).trans (heapN (by simp))
  have hs9 : w1.heap[sb]? = some (.cells #[s0, s1, .int .u64 time, .map mp, adm] 119) := (hb1.block _ (by simp <;> omega)).trans (upB (upB (upB hs _) _) _)
  have hm9 : MapX w1 mp ks := hm.kept fun b hb => hb1'.block b (hmlt b hb)
  clear hb1 hs hm
  go_upto_region 2 with fail
  obtain ⟨W, hW⟩ : ∃ W, W = w1.alloc (.cells #[.int .u8 kd, .int .u64 x, .int .u64 y, .int .u64 0, .int .u64 0] 231) := ⟨_, rfl⟩
  rw [← hW]
  have hB : Below w.heap.size w W := hW ▸ hb1'.alloc hb1'.size _
  have hk0 : W.heap[w.heap.size]? = some (.cells #[.int .u8 k.k0, .int .u8 k.k1, .int .u8 k.k2, .int .u8 k.k3, .int .u8 k.k4, .int .u8 k.k5, .int .u8 k.k6, .int .u8 k.k7] 56) := hW ▸ upB hk9 _
  have hr0 : W.heap[w.heap.size + 2]? = some (.cells #[.int .u8 0, .int .u64 0, .int .u64 0] 40) := hW ▸ upB hr9 _
  have hs0 : W.heap[sb]? = some (.cells #[s0, s1, .int .u64 time, .map mp, adm] 119) := hW ▸ upB hs9 _
  have hq0 : W.heap[w1.heap.size]? = some (.cells #[.int .u8 kd, .int .u64 x, .int .u64 y, .int .u64 0, .int .u64 0] 231) := hW ▸ heapNew _ _
  have hm0 : MapX W mp ks := hW ▸ hm9.alloc _
  have lr9 := ltB hr9
  clear hW hb1' hk9 hr9 hs9 hm9
  have a1 := cellB hk0
  have a2 := upC hk0 (.cells #[.int .u8 0, .int .u64 0, .int .u64 0, .int .u64 0, .int .u64 0] 231)
  have a3 := cellB hs0
  have a4 := upC hs0 (.cells #[.int .u8 0, .int .u64 0, .int .u64 0, .int .u64 0, .int .u64 0] 231)
  have a5 := hm0.drew.look1 hk hf
  have a6 := (hm0.alloc (.cells #[.int .u8 0, .int .u64 0, .int .u64 0, .int .u64 0, .int .u64 0] 231)).drew.look1 hk hf
  go_cut [9, 10] (fun s5 s6 wx => s5 = .pointer (some ⟨W.heap.size, 0, none⟩) ∧ s6 = .bool true ∧ wx = (W.alloc (.cells #[.int .u8 q.kd, .int .u64 q.x, .int .u64 q.y, .int .u64 q.lv, .int .u64 q.wn] 231)).drew)
  case first =>
    go_region
    all_goals (go_wp2_with fail; go_meet)
    all_goals exact ⟨rfl, rfl, rfl⟩
  case rest =>
    obtain ⟨rfl, rfl, rfl⟩ := hcut
    have hk1 := upB hk0 (.cells #[.int .u8 q.kd, .int .u64 q.x, .int .u64 q.y, .int .u64 q.lv, .int .u64 q.wn] 231)
    have hr1 := upB hr0 (.cells #[.int .u8 q.kd, .int .u64 q.x, .int .u64 q.y, .int .u64 q.lv, .int .u64 q.wn] 231)
    have hs1 := upB hs0 (.cells #[.int .u8 q.kd, .int .u64 q.x, .int .u64 q.y, .int .u64 q.lv, .int .u64 q.wn] 231)
    have hq1 := upB hq0 (.cells #[.int .u8 q.kd, .int .u64 q.x, .int .u64 q.y, .int .u64 q.lv, .int .u64 q.wn] 231)
    have hm1 := hm0.alloc (.cells #[.int .u8 q.kd, .int .u64 q.x, .int .u64 q.y, .int .u64 q.lv, .int .u64 q.wn] 231)
    have hB1 := hB.alloc hB.size (.cells #[.int .u8 q.kd, .int .u64 q.x, .int .u64 q.y, .int .u64 q.lv, .int .u64 q.wn] 231)
    have hB0 := hB.size
    clear a1 a2 a3 a4 a5 a6 hk0 hr0 hs0 hm0 hq0
    have b1 := cellB hr1
    have b2 := frozenB hr1
    go_wp2
    refine bodyPost_ret (v := .agg #[.int .u8 9, .int .u64 0, .int .u64 0]) (by simp [results, Tryz.results102, go_sem, b1]) rfl ⟨rfl, Below.drew ?_⟩
    repeat (refine Below.setCell ?_ (by simp <;> omega) _)
    exact hB1

end Go.Proofs.YtlamgpeiolfffaaGreatDoor
