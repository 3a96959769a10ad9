import Derived.Test.YtlamgpeiolfffaaGreatDoorZz17
import Derived.Test.YtlamgpeiolfffaaGreatDoorZz12
import Derived.Test.YtlamgpeiolfffaaGreatDoorZz29
import Derived.Test.YtlamgpeiolfffaaGreatDoorZz30
import Derived.Test.YtlamgpeiolfffaaGreatDoorZz31
import Derived.Test.YtlamgpeiolfffaaGreatDoorZz32
import Derived.Test.YtlamgpeiolfffaaGreatDoorZz02
set_option linter.unusedSectionVars false
namespace Go.Proofs.YtlamgpeiolfffaaGreatDoor
open Go.RowKit
variable [dK] [iK]

theorem judgeq1 (w : World) : (Instr.index 247 (.agg #[.nilFunc, .nilFunc, .func (.func 134) #[] #[], .func (.func 135) #[] #[], .func (.func 136) #[] #[], .func (.func 137) #[] #[]]) (.int .u8 1)).run Tryz.prog w = .ok (.agg #[.func (.func 134) #[] #[], .func (.func 135) #[] #[]]) w := by kernel_rfl
theorem judgeq2 (w : World) : (Instr.index 247 (.agg #[.nilFunc, .nilFunc, .func (.func 134) #[] #[], .func (.func 135) #[] #[], .func (.func 136) #[] #[], .func (.func 137) #[] #[]]) (.int .u8 2)).run Tryz.prog w = .ok (.agg #[.func (.func 136) #[] #[], .func (.func 137) #[] #[]]) w := by kernel_rfl
theorem judgef1 (w : World) : (Instr.field 246 (.agg #[.func (.func 134) #[] #[], .func (.func 135) #[] #[]]) 0).run Tryz.prog w = .ok (.func (.func 134) #[] #[]) w := by kernel_rfl
theorem judgef2 (w : World) : (Instr.field 246 (.agg #[.func (.func 136) #[] #[], .func (.func 137) #[] #[]]) 0).run Tryz.prog w = .ok (.func (.func 136) #[] #[]) w := by kernel_rfl
theorem qreplyB (kd x y lv wn c : Int) (w : World) :
    Calls Tryz.prog 133 #[.agg #[.int .u8 kd, .int .u64 x, .int .u64 y, .int .u64 lv, .int .u64 wn], .int .u8 c] w fun e w' => e = .returned (.agg #[.int .u8 c, .int .u64 lv, .int .u64 wn]) ∧ Below w.heap.size w w' := by
  refine (qreply kd x y lv wn c w).mono ?_
  rintro e w' ⟨rfl, rfl⟩
  exact ⟨rfl, ((Below.refl _ w).alloc (Nat.le_refl _) _).alloc (by simp) _⟩

set_option maxRecDepth 100000 in
set_option maxHeartbeats 2000000 in
theorem qquery1 (x y lv wn now kd1 x1 y1 lv1 wn1 : Int) (w : World)
    (hturn : Hid (∀ w1, Calls Tryz.prog 134 #[.agg #[.int .u8 1, .int .u64 x, .int .u64 y, .int .u64 lv, .int .u64 wn], .int .u64 now] w1 fun e w' => e = .returned (.agg #[.int .u8 kd1, .int .u64 x1, .int .u64 y1, .int .u64 lv1, .int .u64 wn1]) ∧ Below w1.heap.size w1 w')) :
    Calls Tryz.prog 126 #[.agg #[.int .u8 1, .int .u64 x, .int .u64 y, .int .u64 lv, .int .u64 wn], .int .u64 now] w fun e w' => e = .returned (.agg #[.int .u8 1, .int .u64 lv1, .int .u64 wn1]) ∧ Below w.heap.size w w' := by
  have hj := judgeq1
  have hjf := judgef1
  go_enter Tryz.func126, Tryz.ntmps126
  go_wp2_with fail
  obtain ⟨W, hW⟩ : ∃ W, W = (w.alloc (.cells #[.int .u8 1, .int .u64 x, .int .u64 y, .int .u64 lv, .int .u64 wn] 231)).alloc (.cells #[.int .u8 0, .int .u64 0, .int .u64 0] 40) := ⟨_, rfl⟩
  rw [← hW]
  have hB : Below w.heap.size w W := hW ▸ ((Below.refl _ w).alloc (Nat.le_refl _) _).alloc (by simp) _
  have hk0 : W.heap[w.heap.size]? = some (.cells #[.int .u8 1, .int .u64 x, .int .u64 y, .int .u64 lv, .int .u64 wn] 231) := hW ▸ upB (heapNew _ _) _
  have hr0 : W.heap[w.heap.size + 1]? = some (.cells #[.int .u8 0, .int .u64 0, .int .u64 0] 40) := hW ▸ heapN (by simp)
  clear hW
  have a1 := cellB hk0
  have a2 := upC hk0 (.cells #[.nilFunc, .nilFunc, .func (.func 134) #[] #[], .func (.func 135) #[] #[], .func (.func 136) #[] #[], .func (.func 137) #[] #[]] 247)
  have l0 := ltB hk0
  have l1 := ltB hr0
  go_region_with (first | (go_at_call 132; refine (qjudges _).mono ?_; rintro e w1 ⟨rfl, rfl⟩) | (go_at_call 134; refine (hturn.out _).mono ?_; rintro e w1 ⟨rfl, hb1⟩) | (go_at_call 133; refine (qreplyB _ _ _ _ _ _ _).mono ?_; rintro e w2 ⟨rfl, hb2⟩; have L1 : w.heap.size + 1 < w1.heap.size := Nat.lt_of_lt_of_le (by simp; omega) hb1.size; have f1 := fun j => (hb2.cell (p := ⟨w.heap.size + 1, j, none⟩) L1).trans ((hb1.cell (p := ⟨w.heap.size + 1, j, none⟩) (by simp; omega)).trans (upC hr0 (.cells #[.nilFunc, .nilFunc, .func (.func 134) #[] #[], .func (.func 135) #[] #[], .func (.func 136) #[] #[], .func (.func 137) #[] #[]] 247) j)); have g1 := fun j => (hb2.frozen (p := ⟨w.heap.size + 1, j, none⟩) L1).trans ((hb1.frozen (p := ⟨w.heap.size + 1, j, none⟩) (by simp; omega)).trans (upF hr0 (.cells #[.nilFunc, .nilFunc, .func (.func 134) #[] #[], .func (.func 135) #[] #[], .func (.func 136) #[] #[], .func (.func 137) #[] #[]] 247) j))))
  all_goals go_wp2
  all_goals (
    refine bodyPost_ret (v := .agg #[.int .u8 1, .int .u64 lv1, .int .u64 wn1]) (by simp [results, Tryz.results126, go_sem, f1]) rfl ⟨rfl, ?_⟩
    repeat (refine Below.setCell ?_ (by simp <;> omega) _)
    exact (hB.alloc hB.size _).drew.trans ((hb1.mono (by simp; omega)).trans (hb2.mono (by omega))))

set_option maxRecDepth 100000 in
set_option maxHeartbeats 2000000 in
theorem qquery2 (x y lv wn now kd1 x1 y1 lv1 wn1 : Int) (w : World)
    (hturn : Hid (∀ w1, Calls Tryz.prog 136 #[.agg #[.int .u8 2, .int .u64 x, .int .u64 y, .int .u64 lv, .int .u64 wn], .int .u64 now] w1 fun e w' => e = .returned (.agg #[.int .u8 kd1, .int .u64 x1, .int .u64 y1, .int .u64 lv1, .int .u64 wn1]) ∧ Below w1.heap.size w1 w')) :
    Calls Tryz.prog 126 #[.agg #[.int .u8 2, .int .u64 x, .int .u64 y, .int .u64 lv, .int .u64 wn], .int .u64 now] w fun e w' => e = .returned (.agg #[.int .u8 1, .int .u64 lv1, .int .u64 wn1]) ∧ Below w.heap.size w w' := by
  have hj := judgeq2
  have hjf := judgef2
  go_enter Tryz.func126, Tryz.ntmps126
  go_wp2_with fail
  obtain ⟨W, hW⟩ : ∃ W, W = (w.alloc (.cells #[.int .u8 2, .int .u64 x, .int .u64 y, .int .u64 lv, .int .u64 wn] 231)).alloc (.cells #[.int .u8 0, .int .u64 0, .int .u64 0] 40) := ⟨_, rfl⟩
  rw [← hW]
  have hB : Below w.heap.size w W := hW ▸ ((Below.refl _ w).alloc (Nat.le_refl _) _).alloc (by simp) _
  have hk0 : W.heap[w.heap.size]? = some (.cells #[.int .u8 2, .int .u64 x, .int .u64 y, .int .u64 lv, .int .u64 wn] 231) := hW ▸ upB (heapNew _ _) _
  have hr0 : W.heap[w.heap.size + 1]? = some (.cells #[.int .u8 0, .int .u64 0, .int .u64 0] 40) := hW ▸ heapN (by simp)
  clear hW
  have a1 := cellB hk0
  have a2 := upC hk0 (.cells #[.nilFunc, .nilFunc, .func (.func 134) #[] #[], .func (.func 135) #[] #[], .func (.func 136) #[] #[], .func (.func 137) #[] #[]] 247)
  have l0 := ltB hk0
  have l1 := ltB hr0
  go_region_with (first | (go_at_call 132; refine (qjudges _).mono ?_; rintro e w1 ⟨rfl, rfl⟩) | (go_at_call 136; refine (hturn.out _).mono ?_; rintro e w1 ⟨rfl, hb1⟩) | (go_at_call 133; refine (qreplyB _ _ _ _ _ _ _).mono ?_; rintro e w2 ⟨rfl, hb2⟩; have L1 : w.heap.size + 1 < w1.heap.size := Nat.lt_of_lt_of_le (by simp; omega) hb1.size; have f1 := fun j => (hb2.cell (p := ⟨w.heap.size + 1, j, none⟩) L1).trans ((hb1.cell (p := ⟨w.heap.size + 1, j, none⟩) (by simp; omega)).trans (upC hr0 (.cells #[.nilFunc, .nilFunc, .func (.func 134) #[] #[], .func (.func 135) #[] #[], .func (.func 136) #[] #[], .func (.func 137) #[] #[]] 247) j)); have g1 := fun j => (hb2.frozen (p := ⟨w.heap.size + 1, j, none⟩) L1).trans ((hb1.frozen (p := ⟨w.heap.size + 1, j, none⟩) (by simp; omega)).trans (upF hr0 (.cells #[.nilFunc, .nilFunc, .func (.func 134) #[] #[], .func (.func 135) #[] #[], .func (.func 136) #[] #[], .func (.func 137) #[] #[]] 247) j))))
  all_goals go_wp2
  all_goals (
    refine bodyPost_ret (v := .agg #[.int .u8 1, .int .u64 lv1, .int .u64 wn1]) (by simp [results, Tryz.results126, go_sem, f1]) rfl ⟨rfl, ?_⟩
    repeat (refine Below.setCell ?_ (by simp <;> omega) _)
    exact (hB.alloc hB.size _).drew.trans ((hb1.mono (by simp; omega)).trans (hb2.mono (by omega))))

end Go.Proofs.YtlamgpeiolfffaaGreatDoor

namespace Go.Proofs.YtlamgpeiolfffaaGreatDoor
open Go.RowKit
variable [dK] [iK]

theorem u64w (n : Int) (h0 : 0 ≤ n) (h1 : n ≤ 18446744073709551615) : IntKind.u64.wrap n = n := by rw [IntKind.wrap_u64]; omega

/-- The number of the window is the quotient. -/
theorem div64 (now y : Int) (hy : 1 ≤ y) (h0 : 0 ≤ now) (h1 : now ≤ 18446744073709551615) : IntKind.u64.wrap (now.tdiv y) = now / y ∧ 0 ≤ now / y ∧ now / y ≤ 18446744073709551615 ∧ now / y * y ≤ now ∧ 0 ≤ now / y * y := by
  have e : now.tdiv y = now / y := Int.tdiv_eq_ediv_of_nonneg h0
  have d0 : 0 ≤ now / y := Int.ediv_nonneg h0 (by omega)
  have d1 : now / y ≤ now := Int.ediv_le_self y h0
  have d2 : now / y * y ≤ now := Int.ediv_mul_le now (by omega)
  exact ⟨by rw [e]; exact u64w _ d0 (by omega), d0, by omega, d2, Int.mul_nonneg d0 (by omega)⟩

/-- The quota at a time, by the program. -/
theorem qturn2 (q : Qt) (now : Int) (w : World) (hk : q.kd = 2) (hy : 1 ≤ q.y) (h0 : 0 ≤ now) (h1 : now ≤ 18446744073709551615) :
    Calls Tryz.prog 136 #[.agg #[.int .u8 2, .int .u64 q.x, .int .u64 q.y, .int .u64 q.lv, .int .u64 q.wn], .int .u64 now] w fun e w' =>
      e = .returned (.agg #[.int .u8 (turnM q now).kd, .int .u64 (turnM q now).x, .int .u64 (turnM q now).y, .int .u64 (turnM q now).lv, .int .u64 (turnM q now).wn]) ∧ Below w.heap.size w w' := by
  obtain ⟨e1, _⟩ := div64 now q.y hy h0 h1
  have hk1 : ¬ q.kd = 1 := by omega
  by_cases h : now / q.y = q.wn
  · have e : turnM q now = q := by unfold turnM; rw [if_neg hk1, if_pos h]
    rw [e, hk]
    refine (qturnWindow_same 2 q.x q.y q.lv q.wn now w (by omega) (by rw [e1, h])).mono ?_
    rintro e w' ⟨rfl, rfl⟩
    exact ⟨rfl, ((Below.refl _ w).alloc (Nat.le_refl _) _).alloc (by simp) _⟩
  · have e : turnM q now = ⟨q.kd, q.x, q.y, 0, now / q.y⟩ := by unfold turnM; rw [if_neg hk1, if_neg h]
    rw [e, hk]
    refine (qturnWindow_new 2 q.x q.y q.lv q.wn now (now / q.y) w (by omega) e1 (by simpa using h)).mono ?_
    rintro e w' ⟨rfl, rfl⟩
    exact ⟨rfl, ((Below.refl _ w).alloc (Nat.le_refl _) _).alloc (by simp) _⟩

theorem qturn1 (q : Qt) (now : Int) (w : World) :
    Calls Tryz.prog 134 #[.agg #[.int .u8 1, .int .u64 q.x, .int .u64 q.y, .int .u64 q.lv, .int .u64 q.wn], .int .u64 now] w fun e w' =>
      e = .returned (.agg #[.int .u8 1, .int .u64 q.x, .int .u64 q.y, .int .u64 q.lv, .int .u64 q.wn]) ∧ Below w.heap.size w w' := by
  refine (qturnSpaced 1 q.x q.y q.lv q.wn now w).mono ?_
  rintro e w' ⟨rfl, rfl⟩
  exact ⟨rfl, ((Below.refl _ w).alloc (Nat.le_refl _) _).alloc (by simp) _⟩

/-- How a key stands, by the program. -/
theorem qquery_any (q : Qt) (now : Int) (w : World) (hq : q.ok) (h0 : 0 ≤ now) (h1 : now ≤ 18446744073709551615) :
    Calls Tryz.prog 126 #[.agg #[.int .u8 q.kd, .int .u64 q.x, .int .u64 q.y, .int .u64 q.lv, .int .u64 q.wn], .int .u64 now] w fun e w' =>
      e = .returned (.agg #[.int .u8 1, .int .u64 (turnM q now).lv, .int .u64 (turnM q now).wn]) ∧ Below w.heap.size w w' := by
  rcases hq.kd with ⟨hk, _⟩ | ⟨hk, hy⟩
  · have e : turnM q now = q := by unfold turnM; rw [if_pos hk]
    rw [e, hk]
    exact qquery1 q.x q.y q.lv q.wn now 1 q.x q.y q.lv q.wn w (fun w1 => qturn1 q now w1)
  · rw [hk]
    exact qquery2 q.x q.y q.lv q.wn now _ _ _ _ _ w (fun w1 => qturn2 q now w1 hk hy h0 h1)

theorem turnM_ok (q : Qt) (now : Int) (hq : q.ok) (h0 : 0 ≤ now) (h1 : now ≤ 18446744073709551615) : (turnM q now).ok := by
  unfold turnM
  split
  · exact hq
  · split
    · exact hq
    · rcases hq.kd with ⟨hk, _⟩ | ⟨hk, hy⟩
      · contradiction
      · obtain ⟨_, d0, d1, _⟩ := div64 now q.y hy h0 h1
        exact ⟨hq.kd, hq.x, hq.y, ⟨by simp, by simp⟩, ⟨d0, d1⟩⟩
theorem turnM_wn (q : Qt) (now : Int) (hk : q.kd = 2) : (turnM q now).wn = now / q.y ∧ (turnM q now).y = q.y ∧ (turnM q now).x = q.x ∧ (turnM q now).kd = q.kd := by
  unfold turnM
  rw [if_neg (by omega)]
  split
  · exact ⟨by omega, rfl, rfl, rfl⟩
  · exact ⟨rfl, rfl, rfl, rfl⟩

/-- n are asked for, by the program. -/
theorem qadmit_any (q : Qt) (now n : Int) (w : World) (hq : q.ok) (h0 : 0 ≤ now) (h1 : now ≤ 18446744073709551615) (n0 : 0 ≤ n) (n1 : n ≤ 18446744073709551615) (z : Qt × Rp) (hz : z = admM q now n) :
    Calls Tryz.prog 125 #[.agg #[.int .u8 q.kd, .int .u64 q.x, .int .u64 q.y, .int .u64 q.lv, .int .u64 q.wn], .int .u64 now, .int .u64 n] w fun e w' =>
      e = .returned (.tuple #[.agg #[.int .u8 z.1.kd, .int .u64 z.1.x, .int .u64 z.1.y, .int .u64 z.1.lv, .int .u64 z.1.wn], .agg #[.int .u8 z.2.c, .int .u64 z.2.a, .int .u64 z.2.b]]) ∧ Below w.heap.size w w' := by
  rcases hq.kd with ⟨hk, hx⟩ | ⟨hk, hy⟩
  · have e : z = admS q now n := by rw [hz]; unfold admM; rw [if_pos hk]
    rw [hk]
    refine qadmit1 q.x q.y q.lv q.wn now n 1 q.x q.y q.lv q.wn _ _ _ _ _ _ _ _ w (fun w1 => qturn1 q now w1) (fun w1 => ?_)
    subst e
    clear hz
    unfold admS
    by_cases hn : n = 0
    · rw [if_pos hn]
      simp only [hk]
      exact qadmS_zero 1 q.x q.y q.lv q.wn now n w1 hn
    rw [if_neg hn]
    have hs0 : 0 ≤ startM q now := by unfold startM; have := hq.lv; split <;> omega
    have hp0 : 0 ≤ n * q.x := Int.mul_nonneg n0 (by omega)
    have hn1 : 0 ≤ (n - 1) * q.x := Int.mul_nonneg (by omega) (by omega)
    have hnx : n * q.x = (n - 1) * q.x + q.x := by rw [Int.sub_mul]; omega
    by_cases c1 : 18446744073709551615 < startM q now + n * q.x
    · rw [if_pos c1]
      simp only [hk]
      exact qadmS_none 1 q.x q.y q.lv q.wn now n w1 n0 n1 hq.x.1 hq.x.2 hq.y.1 hq.y.2 hq.lv.1 hq.lv.2 h0 h1 hn (startM q now) _ rfl rfl hp0 c1
    rw [if_neg c1]
    have m1 : IntKind.u64.wrap (n - 1) = n - 1 := u64w _ (by omega) (by omega)
    have m2 : IntKind.u64.wrap ((n - 1) * q.x) = (n - 1) * q.x := u64w _ hn1 (by omega)
    by_cases c2 : q.y < (n - 1) * q.x
    · rw [if_pos c2]
      simp only [hk]
      exact qadmS_far 1 q.x q.y q.lv q.wn now n w1 n0 n1 hq.x.1 hq.x.2 hq.y.1 hq.y.2 hq.lv.1 hq.lv.2 h0 h1 hn (startM q now) _ rfl rfl hp0 (by omega) (n - 1) _ m1 m2 c2
    rw [if_neg c2]
    have m3 : IntKind.u64.wrap (startM q now + (n - 1) * q.x) = startM q now + (n - 1) * q.x := u64w _ (by omega) (by omega)
    by_cases c3 : orNever (now + q.y) < startM q now + (n - 1) * q.x
    · rw [if_pos c3]
      simp only [hk]
      have hge : q.y ≤ startM q now + (n - 1) * q.x := by
        unfold orNever at c3
        split at c3 <;> omega
      exact qadmS_late 1 q.x q.y q.lv q.wn now n w1 n0 n1 hq.x.1 hq.x.2 hq.y.1 hq.y.2 hq.lv.1 hq.lv.2 h0 h1 hn (startM q now) _ rfl rfl hp0 (by omega) (n - 1) _ m1 m2 (by omega) _ m3 _ rfl c3 _ (u64w _ (by omega) (by omega))
    · rw [if_neg c3]
      simp only [hk]
      exact qadmS_in 1 q.x q.y q.lv q.wn now n w1 n0 n1 hq.x.1 hq.x.2 hq.y.1 hq.y.2 hq.lv.1 hq.lv.2 h0 h1 hn (startM q now) _ rfl rfl hp0 (by omega) (n - 1) _ m1 m2 (by omega) _ m3 _ rfl (by omega)
  · have e : z = admW (turnM q now) n := by rw [hz]; unfold admM; rw [if_neg (by omega)]
    obtain ⟨t1, t2, t3, t4⟩ := turnM_wn q now hk
    obtain ⟨_, d0, d1, d2, d3⟩ := div64 now q.y hy h0 h1
    have hto := turnM_ok q now hq h0 h1
    have htu : ∀ w1, _ := fun w1 => qturn2 q now w1 hk hy h0 h1
    rw [hk]
    generalize turnM q now = u at e t1 t2 t3 t4 hto htu
    refine qadmit2 q.x q.y q.lv q.wn now n u.kd u.x u.y u.lv u.wn _ _ _ _ _ _ _ _ w htu (fun w1 => ?_)
    subst e
    unfold admW
    by_cases c1 : u.lv + n ≤ u.x
    · rw [if_pos c1]
      exact qadmW_in u.kd u.x u.y u.lv u.wn now n w1 hto.lv.1 n0 hto.x.2 c1
    rw [if_neg c1]
    by_cases c2 : u.x < n
    · rw [if_pos c2]
      exact qadmW_never u.kd u.x u.y u.lv u.wn now n w1 hto.lv.1 hto.lv.2 n0 n1 hto.x.2 (by omega) c2
    · rw [if_neg c2]
      have hm : IntKind.u64.wrap (u.wn * u.y) = u.wn * u.y := u64w _ (by rw [t1, t2]; exact d3) (by rw [t1, t2]; omega)
      exact qadmW_next u.kd u.x u.y u.lv u.wn now n w1 hto.lv.1 hto.lv.2 n0 n1 hto.x.2 (by omega) (by omega) _ hm (by rw [t1, t2]; exact d3) (by rw [t1, t2]; omega) hto.y.1 hto.y.2
end Go.Proofs.YtlamgpeiolfffaaGreatDoor
