import Derived.Test.YtlamgpeiolfffaaGreatDoorZz26
import Derived.Test.YtlamgpeiolfffaaGreatDoorZz28
import Derived.Test.YtlamgpeiolfffaaGreatDoorZz17
set_option linter.unusedSectionVars false
namespace Go.Proofs.YtlamgpeiolfffaaGreatDoor
open Go.RowKit Go.Maps
variable [dK] [iK]

theorem MapX.len {w : World} {mp : Option Nat} {ks : List (Ky × Qt)} (h : MapX w mp ks) (ty : TypeId) : (Builtin.len_ #[111] ty #[.map mp]).run Tryz.prog w = .ok (.int .i64 ks.length) w := by
  cases mp with
  | none =>
    have e : ks = [] := h
    subst e
    exact Maps.len_nil Tryz.underlying111 ty
  | some b => exact MapOf.len h ty
theorem wpList_len_run {P : Program} (w : World) {ops : Array Oper} {rest : List Oper} {o : Oper} {a : Act} {Q : Exit → Act → World → Prop} (hg : o.guard = none) (m : Operand) (t : TypeId) (hop : o.op = Op.call { callee := Callee.builtin Builtin.len, args := #[m], argTypes := #[t] })
    (vm : Value) (hm : a.eval m = vm) (r : Value) (hrun : (Builtin.len_ #[t] o.type #[vm]).run P w = .ok r w) (hK : wpList P ops Q rest (a.put o.dst r) w) :
    wpList P ops Q (o :: rest) a w := by
  refine wpList_plain hg fun K' hK' => ?_
  unfold Oper.wp
  simp [execOp, hop, resolve, invoke, builtin, hm, hrun, Result.andThen]
  exact hK' _ _ hK

set_option maxRecDepth 100000 in
set_option maxHeartbeats 2000000 in
theorem bdef_full (sb : Nat) (s0 s1 adm : Value) (time : Int) (mp : Option Nat) (ks : List (Ky × Qt)) (k : Ky) (w : World) (hs : w.heap[sb]? = some (.cells #[s0, s1, .int .u64 time, .map mp, adm] 119)) (hm : MapX w mp ks) (hk : k.ok) (kd x y : Int) (hso : (kd = 1 ∧ 1 ≤ x) ∨ (kd = 2 ∧ 1 ≤ y)) (hf : fnd k ks = none) (hl : 12 ≤ ks.length) :
    Calls Tryz.prog 102 #[.pointer (some ⟨sb, 2, none⟩), .agg #[.int .u8 k.k0, .int .u8 k.k1, .int .u8 k.k2, .int .u8 k.k3, .int .u8 k.k4, .int .u8 k.k5, .int .u8 k.k6, .int .u8 k.k7], .agg #[.int .u8 kd, .int .u64 x, .int .u64 y]] w fun e w' => e = .returned (.agg #[.int .u8 5, .int .u64 0, .int .u64 0]) ∧ Below w.heap.size w w' := by
  have hmlt := hm.lt
  have hsb := ltB hs
  go_enter Tryz.func102, Tryz.ntmps102
  go_wp2_with fail
  refine (qnew_ok kd x y _ hso).mono ?_
  rintro e w1 ⟨rfl, hb1⟩
  have hb1' : Below w.heap.size w w1 := ((((Below.refl _ w).alloc (Nat.le_refl _) _).alloc (by simp) _).alloc (by simp <;> omega) _).trans (hb1.mono (by simp <;> omega))
  have hk9 : w1.heap[w.heap.size]? = some (.cells #[.int .u8 k.k0, .int .u8 k.k1, .int .u8 k.k2, .int .u8 k.k3, .int .u8 k.k4, .int .u8 k.k5, .int .u8 k.k6, .int .u8 k.k7] 56) := (hb1.block _ (by simp <;> omega)).trans (upB (upB (heapNew _ _) _) _)
  have hr9 : w1.heap[w.heap.size + 2]? = some (.cells #[.int .u8 0, .int .u64 0, .int .u64 0] 40) := (hb1.block _ (by simp <;> omega)).trans (heapN (by simp))
  have hs9 : w1.heap[sb]? = some (.cells #[s0, s1, .int .u64 time, .map mp, adm] 119) := (hb1.block _ (by simp <;> omega)).trans (upB (upB (upB hs _) _) _)
  have hm9 : MapX w1 mp ks := hm.kept fun b hb => hb1'.block b (hmlt b hb)
  clear hb1 hs hm
  go_upto_region 2 with fail
  obtain ⟨W, hW⟩ : ∃ W, W = w1.alloc (.cells #[.int .u8 kd, .int .u64 x, .int .u64 y, .int .u64 0, .int .u64 0] 231) := ⟨_, rfl⟩
  rw [← hW]
  have hB : Below w.heap.size w W := hW ▸ hb1'.alloc hb1'.size _
  have hk0 : W.heap[w.heap.size]? = some (.cells #[.int .u8 k.k0, .int .u8 k.k1, .int .u8 k.k2, .int .u8 k.k3, .int .u8 k.k4, .int .u8 k.k5, .int .u8 k.k6, .int .u8 k.k7] 56) := hW ▸ upB hk9 _
  have hr0 : W.heap[w.heap.size + 2]? = some (.cells #[.int .u8 0, .int .u64 0, .int .u64 0] 40) := hW ▸ upB hr9 _
  have hs0 : W.heap[sb]? = some (.cells #[s0, s1, .int .u64 time, .map mp, adm] 119) := hW ▸ upB hs9 _
  have hq0 : W.heap[w1.heap.size]? = some (.cells #[.int .u8 kd, .int .u64 x, .int .u64 y, .int .u64 0, .int .u64 0] 231) := hW ▸ heapNew _ _
  have hm0 : MapX W mp ks := hW ▸ hm9.alloc _
  have lr9 := ltB hr9
  clear hW hb1' hk9 hr9 hs9 hm9
  have a1 := cellB hk0
  have a2 := upC hk0 (.cells #[.int .u8 0, .int .u64 0, .int .u64 0, .int .u64 0, .int .u64 0] 231)
  have a3 := cellB hs0
  have a4 := upC hs0 (.cells #[.int .u8 0, .int .u64 0, .int .u64 0, .int .u64 0, .int .u64 0] 231)
  have a5 := hm0.drew.look0 hk hf
  have a6 := (hm0.alloc (.cells #[.int .u8 0, .int .u64 0, .int .u64 0, .int .u64 0, .int .u64 0] 231)).drew.look0 hk hf
  go_cut [9, 10] (fun s5 s6 wx => s5 = .pointer (some ⟨W.heap.size, 0, none⟩) ∧ s6 = .bool false ∧ wx = (W.alloc (.cells #[.int .u8 0, .int .u64 0, .int .u64 0, .int .u64 0, .int .u64 0] 231)).drew)
  case first =>
    go_region
    all_goals (go_wp2_with fail; go_meet)
    all_goals exact ⟨rfl, rfl, rfl⟩
  case rest =>
    obtain ⟨rfl, rfl, rfl⟩ := hcut
    have hk1 := upB hk0 (.cells #[.int .u8 0, .int .u64 0, .int .u64 0, .int .u64 0, .int .u64 0] 231)
    have hr1 := upB hr0 (.cells #[.int .u8 0, .int .u64 0, .int .u64 0, .int .u64 0, .int .u64 0] 231)
    have hs1 := upB hs0 (.cells #[.int .u8 0, .int .u64 0, .int .u64 0, .int .u64 0, .int .u64 0] 231)
    have hq1 := upB hq0 (.cells #[.int .u8 0, .int .u64 0, .int .u64 0, .int .u64 0, .int .u64 0] 231)
    have hm1 := hm0.alloc (.cells #[.int .u8 0, .int .u64 0, .int .u64 0, .int .u64 0, .int .u64 0] 231)
    have hB1 := hB.alloc hB.size (.cells #[.int .u8 0, .int .u64 0, .int .u64 0, .int .u64 0, .int .u64 0] 231)
    have hB0 := hB.size
    clear a1 a2 a3 a4 a5 a6 hk0 hr0 hs0 hm0 hq0
    have b1 := cellB hr1
    have b2 := frozenB hr1
    have b3 := cellB hs1
    have hlen : Hid ((Builtin.len_ #[111] 3 #[.map mp]).run Tryz.prog (W.alloc (.cells #[.int .u8 0, .int .u64 0, .int .u64 0, .int .u64 0, .int .u64 0] 231)).drew = .ok (.int .i64 ks.length) (W.alloc (.cells #[.int .u8 0, .int .u64 0, .int .u64 0, .int .u64 0, .int .u64 0] 231)).drew) := hm1.drew.len 3
    have h12 : decide ((12 : Int) ≤ ks.length) = true := by simp; omega
    go_upto_region 7 with fail
    go_wp2_with (at_len; refine wpList_len_run _ (by rfl) _ _ (by rfl) _ (by rfl) _ hlen.out ?_)
    refine bodyPost_ret (v := .agg #[.int .u8 5, .int .u64 0, .int .u64 0]) (by simp [results, Tryz.results102, go_sem, b1]) rfl ⟨rfl, Below.drew ?_⟩
    repeat (refine Below.setCell ?_ (by simp <;> omega) _)
    exact hB1

set_option maxRecDepth 100000 in
set_option maxHeartbeats 2000000 in
theorem bdef_new (sb : Nat) (s0 s1 adm : Value) (time : Int) (mp : Option Nat) (ks : List (Ky × Qt)) (k : Ky) (w : World) (hs : w.heap[sb]? = some (.cells #[s0, s1, .int .u64 time, .map mp, adm] 119)) (hm : MapX w mp ks) (hk : k.ok) (kd x y : Int) (hso : (kd = 1 ∧ 1 ≤ x) ∨ (kd = 2 ∧ 1 ≤ y)) (hf : fnd k ks = none) (hl : ks.length < 12) :
    Calls Tryz.prog 102 #[.pointer (some ⟨sb, 2, none⟩), .agg #[.int .u8 k.k0, .int .u8 k.k1, .int .u8 k.k2, .int .u8 k.k3, .int .u8 k.k4, .int .u8 k.k5, .int .u8 k.k6, .int .u8 k.k7], .agg #[.int .u8 kd, .int .u64 x, .int .u64 y]] w fun e w' => e = .returned (.agg #[.int .u8 1, .int .u64 0, .int .u64 0]) ∧ ∃ b', w'.heap[sb]? = some (.cells #[s0, s1, .int .u64 time, .map (some b'), adm] 119) ∧ MapX w' (some b') (putM k ⟨kd, x, y, 0, 0⟩ ks) ∧ Keep (fun b => b = sb ∨ mp = some b) w w' ∧ (mp = some b' ∨ w.heap.size ≤ b') ∧ b' ≠ sb := by
  have hmlt := hm.lt
  have hsb := ltB hs
  go_enter Tryz.func102, Tryz.ntmps102
  go_wp2_with fail
  refine (qnew_ok kd x y _ hso).mono ?_
  rintro e w1 ⟨rfl, hb1⟩
  have hb1' : Below w.heap.size w w1 := ((((Below.refl _ w).alloc (Nat.le_refl _) _).alloc (by simp) _).alloc (by simp <;> omega) _).trans (hb1.mono (by simp <;> omega))
  have hk9 : w1.heap[w.heap.size]? = some (.cells #[.int .u8 k.k0, .int .u8 k.k1, .int .u8 k.k2, .int .u8 k.k3, .int .u8 k.k4, .int .u8 k.k5, .int .u8 k.k6, .int .u8 k.k7] 56) := (hb1.block _ (by simp <;> omega)).trans (upB (upB (heapNew _ _) _) _)
  have hr9 : w1.heap[w.heap.size + 2]? = some (.cells #[.int .u8 0, .int .u64 0, .int .u64 0] 40) := (hb1.block _ (by simp <;> omega)).trans (heapN (by simp))
  have hs9 : w1.heap[sb]? = some (.cells #[s0, s1, .int .u64 time, .map mp, adm] 119) := (hb1.block _ (by simp <;> omega)).trans (upB (upB (upB hs _) _) _)
  have hm9 : MapX w1 mp ks := hm.kept fun b hb => hb1'.block b (hmlt b hb)
  clear hb1 hs hm
  go_upto_region 2 with fail
  obtain ⟨W, hW⟩ : ∃ W, W = w1.alloc (.cells #[.int .u8 kd, .int .u64 x, .int .u64 y, .int .u64 0, .int .u64 0] 231) := ⟨_, rfl⟩
  rw [← hW]
  have hB : Below w.heap.size w W := hW ▸ hb1'.alloc hb1'.size _
  have hk0 : W.heap[w.heap.size]? = some (.cells #[.int .u8 k.k0, .int .u8 k.k1, .int .u8 k.k2, .int .u8 k.k3, .int .u8 k.k4, .int .u8 k.k5, .int .u8 k.k6, .int .u8 k.k7] 56) := hW ▸ upB hk9 _
  have hr0 : W.heap[w.heap.size + 2]? = some (.cells #[.int .u8 0, .int .u64 0, .int .u64 0] 40) := hW ▸ upB hr9 _
  have hs0 : W.heap[sb]? = some (.cells #[s0, s1, .int .u64 time, .map mp, adm] 119) := hW ▸ upB hs9 _
  have hq0 : W.heap[w1.heap.size]? = some (.cells #[.int .u8 kd, .int .u64 x, .int .u64 y, .int .u64 0, .int .u64 0] 231) := hW ▸ heapNew _ _
  have hm0 : MapX W mp ks := hW ▸ hm9.alloc _
  have lr9 := ltB hr9
  clear hW hb1' hk9 hr9 hs9 hm9
  have a1 := cellB hk0
  have a2 := upC hk0 (.cells #[.int .u8 0, .int .u64 0, .int .u64 0, .int .u64 0, .int .u64 0] 231)
  have a3 := cellB hs0
  have a4 := upC hs0 (.cells #[.int .u8 0, .int .u64 0, .int .u64 0, .int .u64 0, .int .u64 0] 231)
  have a5 := hm0.drew.look0 hk hf
  have a6 := (hm0.alloc (.cells #[.int .u8 0, .int .u64 0, .int .u64 0, .int .u64 0, .int .u64 0] 231)).drew.look0 hk hf
  go_cut [9, 10] (fun s5 s6 wx => s5 = .pointer (some ⟨W.heap.size, 0, none⟩) ∧ s6 = .bool false ∧ wx = (W.alloc (.cells #[.int .u8 0, .int .u64 0, .int .u64 0, .int .u64 0, .int .u64 0] 231)).drew)
  case first =>
    go_region
    all_goals (go_wp2_with fail; go_meet)
    all_goals exact ⟨rfl, rfl, rfl⟩
  case rest =>
    obtain ⟨rfl, rfl, rfl⟩ := hcut
    have hk1 := upB hk0 (.cells #[.int .u8 0, .int .u64 0, .int .u64 0, .int .u64 0, .int .u64 0] 231)
    have hr1 := upB hr0 (.cells #[.int .u8 0, .int .u64 0, .int .u64 0, .int .u64 0, .int .u64 0] 231)
    have hs1 := upB hs0 (.cells #[.int .u8 0, .int .u64 0, .int .u64 0, .int .u64 0, .int .u64 0] 231)
    have hq1 := upB hq0 (.cells #[.int .u8 0, .int .u64 0, .int .u64 0, .int .u64 0, .int .u64 0] 231)
    have hm1 := hm0.alloc (.cells #[.int .u8 0, .int .u64 0, .int .u64 0, .int .u64 0, .int .u64 0] 231)
    have hB1 := hB.alloc hB.size (.cells #[.int .u8 0, .int .u64 0, .int .u64 0, .int .u64 0, .int .u64 0] 231)
    have hB0 := hB.size
    clear a1 a2 a3 a4 a5 a6 hk0 hr0 hs0 hm0 hq0
    have b3 := cellB hs1
    have hlen : Hid ((Builtin.len_ #[111] 3 #[.map mp]).run Tryz.prog (W.alloc (.cells #[.int .u8 0, .int .u64 0, .int .u64 0, .int .u64 0, .int .u64 0] 231)).drew = .ok (.int .i64 ks.length) (W.alloc (.cells #[.int .u8 0, .int .u64 0, .int .u64 0, .int .u64 0, .int .u64 0] 231)).drew) := hm1.drew.len 3
    have h12 : decide ((12 : Int) ≤ ks.length) = false := by simp; omega
    go_upto_region 7 with fail
    obtain ⟨V, hV⟩ : ∃ V, V = (W.alloc (.cells #[.int .u8 0, .int .u64 0, .int .u64 0, .int .u64 0, .int .u64 0] 231)).drew := ⟨_, rfl⟩
    rw [← hV] at hlen ⊢
    have hr2 : V.heap[w.heap.size + 2]? = some (.cells #[.int .u8 0, .int .u64 0, .int .u64 0] 40) := hV ▸ hr1
    have hk2 : V.heap[w.heap.size]? = some (.cells #[.int .u8 k.k0, .int .u8 k.k1, .int .u8 k.k2, .int .u8 k.k3, .int .u8 k.k4, .int .u8 k.k5, .int .u8 k.k6, .int .u8 k.k7] 56) := hV ▸ hk1
    have hs2 : V.heap[sb]? = some (.cells #[s0, s1, .int .u64 time, .map mp, adm] 119) := hV ▸ hs1
    have hq2 : V.heap[w1.heap.size]? = some (.cells #[.int .u8 kd, .int .u64 x, .int .u64 y, .int .u64 0, .int .u64 0] 231) := hV ▸ hq1
    have hm2 : MapX V mp ks := hV ▸ hm1.drew
    have hB2 : Below w.heap.size w V := hV ▸ hB1.drew
    clear hV hr1 hk1 hs1 hm1 hB1 b3 hq1
    have b3 := cellB hs2
    have b4 := cellB hk2
    have b5 := cellB hq2
    go_wp2_with (at_len; refine wpList_len_run _ (by rfl) _ _ (by rfl) _ (by rfl) _ hlen.out ?_)
    refine (bput sb s0 s1 adm time mp ks k _ hs2 hm2 hk ⟨kd, x, y, 0, 0⟩ (by omega)).mono ?_
    rintro e w4 ⟨rfl, b', e1, e2, e3, e4, e5⟩
    have hVs := hB2.size
    have lr2 := ltB hr2
    have hr4 := (e3.block _ lr2 (by rintro (h | h); omega; have := hmlt _ h; omega)).trans hr2
    have d1 := cellB hr4
    have d2 := frozenB hr4
    clear b3 b4 b5
    go_wp2
    refine bodyPost_ret (v := .agg #[.int .u8 1, .int .u64 0, .int .u64 0]) (by simp [results, Tryz.results102, go_sem, d1]) rfl ⟨rfl, b', ?_, ?_, ?_, ?_, e5⟩
    · repeat (refine (heapSetO (by omega) _ _).trans ?_)
      exact e1
    · refine e2.kept fun b hb => ?_
      have hne : b ≠ w.heap.size + 2 := by
        injection hb with hb; subst hb
        rcases e4 with h | h
        · have := hmlt _ h; omega
        · omega
      repeat (refine (heapSetO hne _ _).trans ?_)
      rfl
    · repeat (refine Keep.set ?_ (Or.inr (by omega)) _ _)
      exact (Keep.of_below hB2).trans e3
    · exact e4.imp id (fun h => by omega)

end Go.Proofs.YtlamgpeiolfffaaGreatDoor

namespace Go.Proofs.YtlamgpeiolfffaaGreatDoor
open Go.RowKit
variable [dK] [iK]

set_option maxRecDepth 100000 in
set_option maxHeartbeats 1000000 in
theorem qadmW_in (kd x y lv wn now n : Int) (w : World) (hl0 : 0 ≤ lv) (hn0 : 0 ≤ n) (hx1 : x ≤ 18446744073709551615) (h : lv + n ≤ x) :
    Calls Tryz.prog 137 #[.agg #[.int .u8 kd, .int .u64 x, .int .u64 y, .int .u64 lv, .int .u64 wn], .int .u64 now, .int .u64 n] w fun e w' =>
      e = .returned (.tuple #[.agg #[.int .u8 kd, .int .u64 x, .int .u64 y, .int .u64 (lv + n), .int .u64 wn], .agg #[.int .u8 2, .int .u64 (lv + n), .int .u64 wn]]) ∧ Below w.heap.size w w' := by
  go_enter Tryz.func137, Tryz.ntmps137
  go_wp2_with (go_at_call 141; refine (sum_room lv n _ hl0 hn0 (by omega)).mono ?_; rintro e w' ⟨rfl, rfl⟩)
  go_region_with (go_at_call 133; refine (qreply _ _ _ _ _ _ _).mono ?_; rintro e w1 ⟨rfl, rfl⟩)
  all_goals go_wp2
  all_goals exact bodyPost_ret (v := .tuple #[.agg #[.int .u8 kd, .int .u64 x, .int .u64 y, .int .u64 (lv + n), .int .u64 wn], .agg #[.int .u8 2, .int .u64 (lv + n), .int .u64 wn]]) (by simp [results, Tryz.results137, go_sem]) rfl ⟨rfl, ((((((Below.refl _ w).alloc (Nat.le_refl _) _).alloc (by simp <;> omega) _).alloc (by simp <;> omega) _).alloc (by simp <;> omega) _).alloc (by simp <;> omega) _).drew⟩

set_option maxRecDepth 100000 in
set_option maxHeartbeats 1000000 in
theorem qadmW_never (kd x y lv wn now n : Int) (w : World) (hl0 : 0 ≤ lv) (hl1 : lv ≤ 18446744073709551615) (hn0 : 0 ≤ n) (hn1 : n ≤ 18446744073709551615) (_hx1 : x ≤ 18446744073709551615) (h : x < lv + n) (hx : x < n) :
    Calls Tryz.prog 137 #[.agg #[.int .u8 kd, .int .u64 x, .int .u64 y, .int .u64 lv, .int .u64 wn], .int .u64 now, .int .u64 n] w fun e w' =>
      e = .returned (.tuple #[.agg #[.int .u8 kd, .int .u64 x, .int .u64 y, .int .u64 lv, .int .u64 wn], .agg #[.int .u8 3, .int .u64 18446744073709551615, .int .u64 0]]) ∧ Below w.heap.size w w' := by
  by_cases hs : lv + n ≤ 18446744073709551615
  · go_enter Tryz.func137, Tryz.ntmps137
    go_wp2_with (go_at_call 141; refine (sum_room lv n _ hl0 hn0 hs).mono ?_; rintro e w' ⟨rfl, rfl⟩)
    go_region_with (first | (go_at_call 142; refine (qnext_never _ _ _ _ _ _ _ hx).mono ?_; rintro e w1 ⟨rfl, rfl⟩) | (go_at_call 139; refine (qdenied _ _).mono ?_; rintro e w1 ⟨rfl, rfl⟩))
    all_goals go_wp2
    all_goals exact bodyPost_ret (v := .tuple #[.agg #[.int .u8 kd, .int .u64 x, .int .u64 y, .int .u64 lv, .int .u64 wn], .agg #[.int .u8 3, .int .u64 18446744073709551615, .int .u64 0]]) (by simp [results, Tryz.results137, go_sem]) rfl ⟨rfl, ((((((Below.refl _ w).alloc (Nat.le_refl _) _).alloc (by simp <;> omega) _).alloc (by simp <;> omega) _).alloc (by simp <;> omega) _).alloc (by simp <;> omega) _).drew⟩
  · go_enter Tryz.func137, Tryz.ntmps137
    go_wp2_with (go_at_call 141; refine (sum_none lv n _ hl0 hn0 hl1 hn1 (by omega)).mono ?_; rintro e w' ⟨rfl, rfl⟩)
    go_region_with (first | (go_at_call 142; refine (qnext_never _ _ _ _ _ _ _ hx).mono ?_; rintro e w1 ⟨rfl, rfl⟩) | (go_at_call 139; refine (qdenied _ _).mono ?_; rintro e w1 ⟨rfl, rfl⟩))
    all_goals go_wp2
    all_goals exact bodyPost_ret (v := .tuple #[.agg #[.int .u8 kd, .int .u64 x, .int .u64 y, .int .u64 lv, .int .u64 wn], .agg #[.int .u8 3, .int .u64 18446744073709551615, .int .u64 0]]) (by simp [results, Tryz.results137, go_sem]) rfl ⟨rfl, ((((((Below.refl _ w).alloc (Nat.le_refl _) _).alloc (by simp <;> omega) _).alloc (by simp <;> omega) _).alloc (by simp <;> omega) _).alloc (by simp <;> omega) _).drew⟩

set_option maxRecDepth 100000 in
set_option maxHeartbeats 1000000 in
theorem qadmW_next (kd x y lv wn now n : Int) (w : World) (hl0 : 0 ≤ lv) (hl1 : lv ≤ 18446744073709551615) (hn0 : 0 ≤ n) (hn1 : n ≤ 18446744073709551615) (_hx1 : x ≤ 18446744073709551615) (h : x < lv + n) (hx : n ≤ x) (p : Int) (hp : IntKind.u64.wrap (wn * y) = p) (hp0 : 0 ≤ p) (hp1 : p ≤ 18446744073709551615) (hy0 : 0 ≤ y) (hy1 : y ≤ 18446744073709551615) :
    Calls Tryz.prog 137 #[.agg #[.int .u8 kd, .int .u64 x, .int .u64 y, .int .u64 lv, .int .u64 wn], .int .u64 now, .int .u64 n] w fun e w' =>
      e = .returned (.tuple #[.agg #[.int .u8 kd, .int .u64 x, .int .u64 y, .int .u64 lv, .int .u64 wn], .agg #[.int .u8 3, .int .u64 (orNever (p + y)), .int .u64 0]]) ∧ Below w.heap.size w w' := by
  by_cases hs : lv + n ≤ 18446744073709551615
  · go_enter Tryz.func137, Tryz.ntmps137
    go_wp2_with (go_at_call 141; refine (sum_room lv n _ hl0 hn0 hs).mono ?_; rintro e w' ⟨rfl, rfl⟩)
    go_region_with (first | (go_at_call 142; refine (qnext_some _ _ _ _ _ _ p _ hx hp hp0 hp1 hy0 hy1).mono ?_; rintro e w1 ⟨rfl, rfl⟩) | (go_at_call 139; refine (qdenied _ _).mono ?_; rintro e w1 ⟨rfl, rfl⟩))
    all_goals go_wp2
    all_goals exact bodyPost_ret (v := .tuple #[.agg #[.int .u8 kd, .int .u64 x, .int .u64 y, .int .u64 lv, .int .u64 wn], .agg #[.int .u8 3, .int .u64 (orNever (p + y)), .int .u64 0]]) (by simp [results, Tryz.results137, go_sem]) rfl ⟨rfl, ((((((Below.refl _ w).alloc (Nat.le_refl _) _).alloc (by simp <;> omega) _).alloc (by simp <;> omega) _).alloc (by simp <;> omega) _).alloc (by simp <;> omega) _).drew⟩
  · go_enter Tryz.func137, Tryz.ntmps137
    go_wp2_with (go_at_call 141; refine (sum_none lv n _ hl0 hn0 hl1 hn1 (by omega)).mono ?_; rintro e w' ⟨rfl, rfl⟩)
    go_region_with (first | (go_at_call 142; refine (qnext_some _ _ _ _ _ _ p _ hx hp hp0 hp1 hy0 hy1).mono ?_; rintro e w1 ⟨rfl, rfl⟩) | (go_at_call 139; refine (qdenied _ _).mono ?_; rintro e w1 ⟨rfl, rfl⟩))
    all_goals go_wp2
    all_goals exact bodyPost_ret (v := .tuple #[.agg #[.int .u8 kd, .int .u64 x, .int .u64 y, .int .u64 lv, .int .u64 wn], .agg #[.int .u8 3, .int .u64 (orNever (p + y)), .int .u64 0]]) (by simp [results, Tryz.results137, go_sem]) rfl ⟨rfl, ((((((Below.refl _ w).alloc (Nat.le_refl _) _).alloc (by simp <;> omega) _).alloc (by simp <;> omega) _).alloc (by simp <;> omega) _).alloc (by simp <;> omega) _).drew⟩

end Go.Proofs.YtlamgpeiolfffaaGreatDoor
