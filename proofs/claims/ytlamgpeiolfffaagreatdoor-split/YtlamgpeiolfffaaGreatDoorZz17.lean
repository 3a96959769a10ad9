import Derived.Test.YtlamgpeiolfffaaGreatDoorZz16
import Derived.Deep.RegionWith
import Derived.Laws.EntriesVeiled
import Derived.Test.YtlamgpeiolfffaaGreatDoorZz14
import Derived.Test.YtlamgpeiolfffaaGreatDoorZz12
import Derived.Deep.DeepCutAuto
set_option linter.unusedSectionVars false
namespace Go.Proofs.YtlamgpeiolfffaaGreatDoor
open Go.RowKit
variable [dK] [iK]

set_option maxRecDepth 100000 in
theorem qreply (kd x y lv wn c : Int) (w : World) :
    Calls Tryz.prog 133 #[.agg #[.int .u8 kd, .int .u64 x, .int .u64 y, .int .u64 lv, .int .u64 wn], .int .u8 c] w fun e w' => e = .returned (.agg #[.int .u8 c, .int .u64 lv, .int .u64 wn]) ∧ w' = (w.alloc (.cells #[.int .u8 kd, .int .u64 x, .int .u64 y, .int .u64 lv, .int .u64 wn] 231)).alloc (.cells #[.int .u8 c, .int .u64 lv, .int .u64 wn] 40) := by
  go_enter Tryz.func133, Tryz.ntmps133
  go_wp2
  exact bodyPost_ret (v := .agg #[.int .u8 c, .int .u64 lv, .int .u64 wn]) (by simp [results, Tryz.results133, go_sem]) rfl ⟨rfl, rfl⟩

set_option maxRecDepth 100000 in
theorem qdenied (u : Int) (w : World) :
    Calls Tryz.prog 139 #[.int .u64 u] w fun e w' => e = .returned (.agg #[.int .u8 3, .int .u64 u, .int .u64 0]) ∧ w' = w.alloc (.cells #[.int .u8 3, .int .u64 u, .int .u64 0] 40) := by
  go_enter Tryz.func139, Tryz.ntmps139
  go_wp2
  exact bodyPost_ret (v := .agg #[.int .u8 3, .int .u64 u, .int .u64 0]) (by simp [results, Tryz.results139, go_sem]) rfl ⟨rfl, rfl⟩

set_option maxRecDepth 100000 in
theorem qturnSpaced (kd x y lv wn now : Int) (w : World) :
    Calls Tryz.prog 134 #[.agg #[.int .u8 kd, .int .u64 x, .int .u64 y, .int .u64 lv, .int .u64 wn], .int .u64 now] w fun e w' => e = .returned (.agg #[.int .u8 kd, .int .u64 x, .int .u64 y, .int .u64 lv, .int .u64 wn]) ∧ w' = (w.alloc (.cells #[.int .u8 kd, .int .u64 x, .int .u64 y, .int .u64 lv, .int .u64 wn] 231)).alloc (.cells #[.int .u8 kd, .int .u64 x, .int .u64 y, .int .u64 lv, .int .u64 wn] 231) := by
  go_enter Tryz.func134, Tryz.ntmps134
  go_wp2
  exact bodyPost_ret (v := .agg #[.int .u8 kd, .int .u64 x, .int .u64 y, .int .u64 lv, .int .u64 wn]) (by simp [results, Tryz.results134, go_sem]) rfl ⟨rfl, rfl⟩

set_option maxRecDepth 100000 in
theorem qturnWindow_same (kd x y lv wn now : Int) (w : World) (hy : y ≠ 0) (h : IntKind.u64.wrap (now.tdiv y) = wn) :
    Calls Tryz.prog 136 #[.agg #[.int .u8 kd, .int .u64 x, .int .u64 y, .int .u64 lv, .int .u64 wn], .int .u64 now] w fun e w' => e = .returned (.agg #[.int .u8 kd, .int .u64 x, .int .u64 y, .int .u64 lv, .int .u64 wn]) ∧ w' = (w.alloc (.cells #[.int .u8 kd, .int .u64 x, .int .u64 y, .int .u64 lv, .int .u64 wn] 231)).alloc (.cells #[.int .u8 kd, .int .u64 x, .int .u64 y, .int .u64 lv, .int .u64 wn] 231) := by
  have h1 : (wn != wn) = false := by simp
  go_enter Tryz.func136, Tryz.ntmps136
  go_wp2
  exact bodyPost_ret (v := .agg #[.int .u8 kd, .int .u64 x, .int .u64 y, .int .u64 lv, .int .u64 wn]) (by simp [results, Tryz.results136, go_sem]) rfl ⟨rfl, rfl⟩

set_option maxRecDepth 100000 in
theorem qturnWindow_new (kd x y lv wn now d : Int) (w : World) (hy : y ≠ 0) (h : IntKind.u64.wrap (now.tdiv y) = d) (hd : (d != wn) = true) :
    Calls Tryz.prog 136 #[.agg #[.int .u8 kd, .int .u64 x, .int .u64 y, .int .u64 lv, .int .u64 wn], .int .u64 now] w fun e w' => e = .returned (.agg #[.int .u8 kd, .int .u64 x, .int .u64 y, .int .u64 0, .int .u64 d]) ∧ w' = (w.alloc (.cells #[.int .u8 kd, .int .u64 x, .int .u64 y, .int .u64 0, .int .u64 d] 231)).alloc (.cells #[.int .u8 kd, .int .u64 x, .int .u64 y, .int .u64 0, .int .u64 d] 231) := by
  go_enter Tryz.func136, Tryz.ntmps136
  go_wp2
  exact bodyPost_ret (v := .agg #[.int .u8 kd, .int .u64 x, .int .u64 y, .int .u64 0, .int .u64 d]) (by simp [results, Tryz.results136, go_sem]) rfl ⟨rfl, rfl⟩

set_option maxRecDepth 100000 in
theorem qnext_never (kd x y lv wn n : Int) (w : World) (h : x < n) :
    Calls Tryz.prog 142 #[.agg #[.int .u8 kd, .int .u64 x, .int .u64 y, .int .u64 lv, .int .u64 wn], .int .u64 n] w fun e w' => e = .returned (.int .u64 18446744073709551615) ∧ w' = w.alloc (.cells #[.int .u8 kd, .int .u64 x, .int .u64 y, .int .u64 lv, .int .u64 wn] 231) := by
  go_enter Tryz.func142, Tryz.ntmps142
  go_wp2
  go_ret
  exact ⟨rfl, rfl⟩

set_option maxRecDepth 100000 in
theorem qnext_some (kd x y lv wn n p : Int) (w : World) (h : n ≤ x) (hp : IntKind.u64.wrap (wn * y) = p) (hp0 : 0 ≤ p) (hp1 : p ≤ 18446744073709551615) (hy0 : 0 ≤ y) (hy1 : y ≤ 18446744073709551615) :
    Calls Tryz.prog 142 #[.agg #[.int .u8 kd, .int .u64 x, .int .u64 y, .int .u64 lv, .int .u64 wn], .int .u64 n] w fun e w' => e = .returned (.int .u64 (orNever (p + y))) ∧ w' = w.alloc (.cells #[.int .u8 kd, .int .u64 x, .int .u64 y, .int .u64 lv, .int .u64 wn] 231) := by
  go_enter Tryz.func142, Tryz.ntmps142
  go_wp2_with (go_at_call 140; refine (sumNever_any p y _ hp0 hy0 hp1 hy1).mono ?_; rintro e w' ⟨rfl, rfl⟩)
  go_ret
  exact ⟨rfl, rfl⟩

set_option maxRecDepth 100000 in
theorem qafter_room (kd x y lv wn s n p : Int) (w : World) (hp : n * x = p) (hn0 : 0 ≤ n) (hn1 : n ≤ 18446744073709551615) (hx0 : 0 ≤ x) (hx1 : x ≤ 18446744073709551615) (hs0 : 0 ≤ s) (hs1 : s ≤ 18446744073709551615) (hp0 : 0 ≤ p) (h : s + p ≤ 18446744073709551615) :
    Calls Tryz.prog 138 #[.agg #[.int .u8 kd, .int .u64 x, .int .u64 y, .int .u64 lv, .int .u64 wn], .int .u64 s, .int .u64 n] w fun e w' => e = .returned (.tuple #[.int .u64 (s + p), .bool true]) ∧ w' = w.alloc (.cells #[.int .u8 kd, .int .u64 x, .int .u64 y, .int .u64 lv, .int .u64 wn] 231) := by
  go_enter Tryz.func138, Tryz.ntmps138
  go_wp2_with (first | (go_at_call 143; refine (product_room n x _ hn0 hx0 hn1 hx1 p hp (by omega)).mono ?_; rintro e w' ⟨rfl, rfl⟩) | (go_at_call 141; refine (sum_room s p _ hs0 hp0 h).mono ?_; rintro e w' ⟨rfl, rfl⟩))
  go_ret2
  exact ⟨rfl, rfl⟩

set_option maxRecDepth 100000 in
theorem qafter_none (kd x y lv wn s n p : Int) (w : World) (hp : n * x = p) (hn0 : 0 ≤ n) (hn1 : n ≤ 18446744073709551615) (hx0 : 0 ≤ x) (hx1 : x ≤ 18446744073709551615) (hs0 : 0 ≤ s) (hs1 : s ≤ 18446744073709551615) (hp0 : 0 ≤ p) (h : 18446744073709551615 < s + p) :
    Calls Tryz.prog 138 #[.agg #[.int .u8 kd, .int .u64 x, .int .u64 y, .int .u64 lv, .int .u64 wn], .int .u64 s, .int .u64 n] w fun e w' => e = .returned (.tuple #[.int .u64 0, .bool false]) ∧ w' = w.alloc (.cells #[.int .u8 kd, .int .u64 x, .int .u64 y, .int .u64 lv, .int .u64 wn] 231) := by
  by_cases h1 : p ≤ 18446744073709551615
  · go_enter Tryz.func138, Tryz.ntmps138
    go_wp2_with (first | (go_at_call 143; refine (product_room n x _ hn0 hx0 hn1 hx1 p hp (by omega)).mono ?_; rintro e w' ⟨rfl, rfl⟩) | (go_at_call 141; refine (sum_none s p _ hs0 hp0 hs1 h1 h).mono ?_; rintro e w' ⟨rfl, rfl⟩))
    go_ret2
    exact ⟨rfl, rfl⟩
  · go_enter Tryz.func138, Tryz.ntmps138
    go_wp2_with (go_at_call 143; refine (product_none n x _ hn0 hx0 hn1 hx1 p hp (by omega)).mono ?_; rintro e w' ⟨rfl, rfl⟩)
    go_ret2
    exact ⟨rfl, rfl⟩
set_option maxRecDepth 100000 in
theorem qjudges (w : World) :
    Calls Tryz.prog 132 #[] w fun e w' => e = .returned (.agg #[.nilFunc, .nilFunc, .func (.func 134) #[] #[], .func (.func 135) #[] #[], .func (.func 136) #[] #[], .func (.func 137) #[] #[]]) ∧ w' = w.alloc (.cells #[.nilFunc, .nilFunc, .func (.func 134) #[] #[], .func (.func 135) #[] #[], .func (.func 136) #[] #[], .func (.func 137) #[] #[]] 247) := by
  go_enter Tryz.func132, Tryz.ntmps132
  go_wp2
  exact bodyPost_ret (v := .agg #[.nilFunc, .nilFunc, .func (.func 134) #[] #[], .func (.func 135) #[] #[], .func (.func 136) #[] #[], .func (.func 137) #[] #[]]) (by simp [results, Tryz.results132, go_sem]) rfl ⟨rfl, rfl⟩
end Go.Proofs.YtlamgpeiolfffaaGreatDoor

namespace Go.Proofs.YtlamgpeiolfffaaGreatDoor
open Go.RowKit Go.Maps
variable [dK] [iK]

/-- The map in a ledger's field holds just these keys. -/
def MapX (w : World) (mp : Option Nat) (ks : List (Ky × Qt)) : Prop :=
  match mp with
  | none => ks = []
  | some b => MapOf w b ks
theorem MapX.kept {w w' : World} {mp : Option Nat} {ks : List (Ky × Qt)} (h : MapX w mp ks) (hb : ∀ b, mp = some b → w'.heap[b]? = w.heap[b]?) : MapX w' mp ks := by
  cases mp with
  | none => exact h
  | some b => exact MapOf.kept h (hb b rfl)
theorem MapX.lt {w : World} {mp : Option Nat} {ks : List (Ky × Qt)} (h : MapX w mp ks) : ∀ b, mp = some b → b < w.heap.size := by
  rintro b rfl; exact MapOf.lt h
theorem MapX.alloc {w : World} {mp : Option Nat} {ks : List (Ky × Qt)} (h : MapX w mp ks) (o : Obj) : MapX (w.alloc o) mp ks :=
  h.kept fun b hb => heapOld w o (h.lt b hb)
theorem MapX.look {w : World} {mp : Option Nat} {ks : List (Ky × Qt)} (h : MapX w mp ks) {k : Ky} (hk : k.ok) :
    (Instr.lookup 111 (.map mp) (kval k) true).run Tryz.prog w = .ok (.tuple #[qlook (fnd k ks), .bool (fnd k ks).isSome]) w := by
  cases mp with
  | none =>
    have e : ks = [] := h
    subst e
    exact look_nil hk
  | some b => exact MapOf.look h hk
theorem MapX.drew {w : World} {mp : Option Nat} {ks : List (Ky × Qt)} (h : MapX w mp ks) : MapX w.drew mp ks := by
  cases mp with
  | none => exact h
  | some b => exact MapOf.kept h rfl

/-- What a look-up of a key that is not there gives. -/
theorem MapX.look0 {w : World} {mp : Option Nat} {ks : List (Ky × Qt)} (h : MapX w mp ks) {k : Ky} (hk : k.ok) (hf : fnd k ks = none) :
    (Instr.lookup 111 (.map mp) (.agg #[.int .u8 k.k0, .int .u8 k.k1, .int .u8 k.k2, .int .u8 k.k3, .int .u8 k.k4, .int .u8 k.k5, .int .u8 k.k6, .int .u8 k.k7]) true).run Tryz.prog w = .ok (.tuple #[.agg #[.int .u8 0, .int .u64 0, .int .u64 0, .int .u64 0, .int .u64 0], .bool false]) w := by
  have := h.look hk
  rw [hf] at this
  exact this
theorem MapX.look1 {w : World} {mp : Option Nat} {ks : List (Ky × Qt)} (h : MapX w mp ks) {k : Ky} (hk : k.ok) {q : Qt} (hf : fnd k ks = some q) :
    (Instr.lookup 111 (.map mp) (.agg #[.int .u8 k.k0, .int .u8 k.k1, .int .u8 k.k2, .int .u8 k.k3, .int .u8 k.k4, .int .u8 k.k5, .int .u8 k.k6, .int .u8 k.k7]) true).run Tryz.prog w = .ok (.tuple #[.agg #[.int .u8 q.kd, .int .u64 q.x, .int .u64 q.y, .int .u64 q.lv, .int .u64 q.wn], .bool true]) w := by
  have := h.look hk
  rw [hf] at this
  exact this

set_option maxRecDepth 100000 in
set_option maxHeartbeats 1000000 in
theorem bquery_none (sb : Nat) (s0 s1 adm : Value) (time : Int) (mp : Option Nat) (ks : List (Ky × Qt)) (k : Ky) (w : World) (hs : w.heap[sb]? = some (.cells #[s0, s1, .int .u64 time, .map mp, adm] 119)) (hm : MapX w mp ks) (hk : k.ok) (hf : fnd k ks = none) :
    Calls Tryz.prog 105 #[.pointer (some ⟨sb, 2, none⟩), .agg #[.int .u8 k.k0, .int .u8 k.k1, .int .u8 k.k2, .int .u8 k.k3, .int .u8 k.k4, .int .u8 k.k5, .int .u8 k.k6, .int .u8 k.k7]] w fun e w' => e = .returned (.agg #[.int .u8 4, .int .u64 0, .int .u64 0]) ∧ Below w.heap.size w w' := by
  go_enter Tryz.func105, Tryz.ntmps105
  go_upto_region 1 with fail
  obtain ⟨W, hW⟩ : ∃ W, W = (w.alloc (.cells #[.int .u8 k.k0, .int .u8 k.k1, .int .u8 k.k2, .int .u8 k.k3, .int .u8 k.k4, .int .u8 k.k5, .int .u8 k.k6, .int .u8 k.k7] 56)).alloc (.cells #[.int .u8 0, .int .u64 0, .int .u64 0] 40) := ⟨_, rfl⟩
  rw [← hW]
  have hB : Below w.heap.size w W := hW ▸ ((Below.refl _ w).alloc (Nat.le_refl _) _).alloc (by simp) _
  have hk0 : W.heap[w.heap.size]? = some (.cells #[.int .u8 k.k0, .int .u8 k.k1, .int .u8 k.k2, .int .u8 k.k3, .int .u8 k.k4, .int .u8 k.k5, .int .u8 k.k6, .int .u8 k.k7] 56) := hW ▸ upB (heapNew _ _) _
  have hr0 : W.heap[w.heap.size + 1]? = some (.cells #[.int .u8 0, .int .u64 0, .int .u64 0] 40) := hW ▸ heapN (by simp)
  have hs0 : W.heap[sb]? = some (.cells #[s0, s1, .int .u64 time, .map mp, adm] 119) := hW ▸ upB (upB hs _) _
  have hm0 : MapX W mp ks := hW ▸ (hm.alloc _).alloc _
  clear hW hs hm
  have a1 := cellB hk0
  have a2 := upC hk0 (.cells #[.int .u8 0, .int .u64 0, .int .u64 0, .int .u64 0, .int .u64 0] 231)
  have a3 := cellB hs0
  have a4 := upC hs0 (.cells #[.int .u8 0, .int .u64 0, .int .u64 0, .int .u64 0, .int .u64 0] 231)
  have a5 := hm0.drew.look0 hk hf
  have a6 := (hm0.alloc (.cells #[.int .u8 0, .int .u64 0, .int .u64 0, .int .u64 0, .int .u64 0] 231)).drew.look0 hk hf
  go_cut [5, 6] (fun s5 s6 wx => s5 = .pointer (some ⟨W.heap.size, 0, none⟩) ∧ s6 = .bool false ∧ wx = (W.alloc (.cells #[.int .u8 0, .int .u64 0, .int .u64 0, .int .u64 0, .int .u64 0] 231)).drew)
  case first =>
    go_region
    all_goals (go_wp2_with fail; go_meet)
    all_goals exact ⟨rfl, rfl, rfl⟩
  case rest =>
    obtain ⟨rfl, rfl, rfl⟩ := hcut
    have b1 := upC hr0 (.cells #[.int .u8 0, .int .u64 0, .int .u64 0, .int .u64 0, .int .u64 0] 231)
    have b2 := upF hr0 (.cells #[.int .u8 0, .int .u64 0, .int .u64 0, .int .u64 0, .int .u64 0] 231)
    clear a1 a2 a3 a4 a5 a6
    go_wp2
    refine bodyPost_ret (v := .agg #[.int .u8 4, .int .u64 0, .int .u64 0]) (by simp [results, Tryz.results105, go_sem, b1]) rfl ⟨rfl, Below.drew ?_⟩
    repeat (refine Below.setCell ?_ (by simp <;> omega) _)
    exact hB.alloc hB.size _
end Go.Proofs.YtlamgpeiolfffaaGreatDoor
