import Derived.Test.YtnlgndpcddngoaaGreatDoorZc00
import Derived.Deep.RegionWith
import Derived.Laws.EntriesVeiled
set_option linter.unusedSectionVars false
namespace Go.Proofs.YtnlgndpcddngoaaGreatDoor
open Go.RowKit
variable [dK] [iK]

set_option maxRecDepth 100000 in
theorem qreply (kd x y lv wn c : Int) (w : World) :
    Calls Tryz.prog 158 #[.agg #[.int .u8 kd, .int .u64 x, .int .u64 y, .int .u64 lv, .int .u64 wn], .int .u8 c] w fun e w' => e = .returned (.agg #[.int .u8 c, .int .u64 lv, .int .u64 wn]) ∧ w' = (w.alloc (.cells #[.int .u8 kd, .int .u64 x, .int .u64 y, .int .u64 lv, .int .u64 wn] 173)).alloc (.cells #[.int .u8 c, .int .u64 lv, .int .u64 wn] 40) := by
  go_enter Tryz.func158, Tryz.ntmps158
  go_wp2
  exact bodyPost_ret (v := .agg #[.int .u8 c, .int .u64 lv, .int .u64 wn]) (by simp [results, Tryz.results158, go_sem]) rfl ⟨rfl, rfl⟩

set_option maxRecDepth 100000 in
theorem qdenied (u : Int) (w : World) :
    Calls Tryz.prog 189 #[.int .u64 u] w fun e w' => e = .returned (.agg #[.int .u8 3, .int .u64 u, .int .u64 0]) ∧ w' = w.alloc (.cells #[.int .u8 3, .int .u64 u, .int .u64 0] 40) := by
  go_enter Tryz.func189, Tryz.ntmps189
  go_wp2
  exact bodyPost_ret (v := .agg #[.int .u8 3, .int .u64 u, .int .u64 0]) (by simp [results, Tryz.results189, go_sem]) rfl ⟨rfl, rfl⟩

set_option maxRecDepth 100000 in
theorem qturnSpaced (kd x y lv wn now : Int) (w : World) :
    Calls Tryz.prog 174 #[.agg #[.int .u8 kd, .int .u64 x, .int .u64 y, .int .u64 lv, .int .u64 wn], .int .u64 now] w fun e w' => e = .returned (.agg #[.int .u8 kd, .int .u64 x, .int .u64 y, .int .u64 lv, .int .u64 wn]) ∧ w' = (w.alloc (.cells #[.int .u8 kd, .int .u64 x, .int .u64 y, .int .u64 lv, .int .u64 wn] 173)).alloc (.cells #[.int .u8 kd, .int .u64 x, .int .u64 y, .int .u64 lv, .int .u64 wn] 173) := by
  go_enter Tryz.func174, Tryz.ntmps174
  go_wp2
  exact bodyPost_ret (v := .agg #[.int .u8 kd, .int .u64 x, .int .u64 y, .int .u64 lv, .int .u64 wn]) (by simp [results, Tryz.results174, go_sem]) rfl ⟨rfl, rfl⟩

set_option maxRecDepth 100000 in
theorem qturnWindow_same (kd x y lv wn now : Int) (w : World) (hy : y ≠ 0) (h : IntKind.u64.wrap (now.tdiv y) = wn) :
    Calls Tryz.prog 177 #[.agg #[.int .u8 kd, .int .u64 x, .int .u64 y, .int .u64 lv, .int .u64 wn], .int .u64 now] w fun e w' => e = .returned (.agg #[.int .u8 kd, .int .u64 x, .int .u64 y, .int .u64 lv, .int .u64 wn]) ∧ w' = (w.alloc (.cells #[.int .u8 kd, .int .u64 x, .int .u64 y, .int .u64 lv, .int .u64 wn] 173)).alloc (.cells #[.int .u8 kd, .int .u64 x, .int .u64 y, .int .u64 lv, .int .u64 wn] 173) := by
  have h1 : (wn != wn) = false := by simp
  go_enter Tryz.func177, Tryz.ntmps177
  go_wp2
  exact bodyPost_ret (v := .agg #[.int .u8 kd, .int .u64 x, .int .u64 y, .int .u64 lv, .int .u64 wn]) (by simp [results, Tryz.results177, go_sem]) rfl ⟨rfl, rfl⟩

set_option maxRecDepth 100000 in
theorem qturnWindow_new (kd x y lv wn now d : Int) (w : World) (hy : y ≠ 0) (h : IntKind.u64.wrap (now.tdiv y) = d) (hd : (d != wn) = true) :
    Calls Tryz.prog 177 #[.agg #[.int .u8 kd, .int .u64 x, .int .u64 y, .int .u64 lv, .int .u64 wn], .int .u64 now] w fun e w' => e = .returned (.agg #[.int .u8 kd, .int .u64 x, .int .u64 y, .int .u64 0, .int .u64 d]) ∧ w' = (w.alloc (.cells #[.int .u8 kd, .int .u64 x, .int .u64 y, .int .u64 0, .int .u64 d] 173)).alloc (.cells #[.int .u8 kd, .int .u64 x, .int .u64 y, .int .u64 0, .int .u64 d] 173) := by
  go_enter Tryz.func177, Tryz.ntmps177
  go_wp2
  exact bodyPost_ret (v := .agg #[.int .u8 kd, .int .u64 x, .int .u64 y, .int .u64 0, .int .u64 d]) (by simp [results, Tryz.results177, go_sem]) rfl ⟨rfl, rfl⟩

set_option maxRecDepth 100000 in
theorem qnext_never (kd x y lv wn n : Int) (w : World) (h : x < n) :
    Calls Tryz.prog 192 #[.agg #[.int .u8 kd, .int .u64 x, .int .u64 y, .int .u64 lv, .int .u64 wn], .int .u64 n] w fun e w' => e = .returned (.int .u64 18446744073709551615) ∧ w' = w.alloc (.cells #[.int .u8 kd, .int .u64 x, .int .u64 y, .int .u64 lv, .int .u64 wn] 173) := by
  go_enter Tryz.func192, Tryz.ntmps192
  go_wp2
  go_ret
  exact ⟨rfl, rfl⟩

set_option maxRecDepth 100000 in
theorem qnext_some (kd x y lv wn n p : Int) (w : World) (h : n ≤ x) (hp : IntKind.u64.wrap (wn * y) = p) (hp0 : 0 ≤ p) (hp1 : p ≤ 18446744073709551615) (hy0 : 0 ≤ y) (hy1 : y ≤ 18446744073709551615) :
    Calls Tryz.prog 192 #[.agg #[.int .u8 kd, .int .u64 x, .int .u64 y, .int .u64 lv, .int .u64 wn], .int .u64 n] w fun e w' => e = .returned (.int .u64 (orNever (p + y))) ∧ w' = w.alloc (.cells #[.int .u8 kd, .int .u64 x, .int .u64 y, .int .u64 lv, .int .u64 wn] 173) := by
  go_enter Tryz.func192, Tryz.ntmps192
  go_wp2_with (go_at_call 190; refine (sumNever_any p y _ hp0 hy0 hp1 hy1).mono ?_; rintro e w' ⟨rfl, rfl⟩)
  go_ret
  exact ⟨rfl, rfl⟩

set_option maxRecDepth 100000 in
theorem qafter_room (kd x y lv wn s n p : Int) (w : World) (hp : n * x = p) (hn0 : 0 ≤ n) (hn1 : n ≤ 18446744073709551615) (hx0 : 0 ≤ x) (hx1 : x ≤ 18446744073709551615) (hs0 : 0 ≤ s) (hs1 : s ≤ 18446744073709551615) (hp0 : 0 ≤ p) (h : s + p ≤ 18446744073709551615) :
    Calls Tryz.prog 188 #[.agg #[.int .u8 kd, .int .u64 x, .int .u64 y, .int .u64 lv, .int .u64 wn], .int .u64 s, .int .u64 n] w fun e w' => e = .returned (.tuple #[.int .u64 (s + p), .bool true]) ∧ w' = w.alloc (.cells #[.int .u8 kd, .int .u64 x, .int .u64 y, .int .u64 lv, .int .u64 wn] 173) := by
  go_enter Tryz.func188, Tryz.ntmps188
  go_wp2_with (first | (go_at_call 205; refine (product_room n x _ hn0 hx0 hn1 hx1 p hp (by omega)).mono ?_; rintro e w' ⟨rfl, rfl⟩) | (go_at_call 191; refine (sum_room s p _ hs0 hp0 h).mono ?_; rintro e w' ⟨rfl, rfl⟩))
  go_ret2
  exact ⟨rfl, rfl⟩

set_option maxRecDepth 100000 in
theorem qafter_none (kd x y lv wn s n p : Int) (w : World) (hp : n * x = p) (hn0 : 0 ≤ n) (hn1 : n ≤ 18446744073709551615) (hx0 : 0 ≤ x) (hx1 : x ≤ 18446744073709551615) (hs0 : 0 ≤ s) (hs1 : s ≤ 18446744073709551615) (hp0 : 0 ≤ p) (h : 18446744073709551615 < s + p) :
    Calls Tryz.prog 188 #[.agg #[.int .u8 kd, .int .u64 x, .int .u64 y, .int .u64 lv, .int .u64 wn], .int .u64 s, .int .u64 n] w fun e w' => e = .returned (.tuple #[.int .u64 0, .bool false]) ∧ w' = w.alloc (.cells #[.int .u8 kd, .int .u64 x, .int .u64 y, .int .u64 lv, .int .u64 wn] 173) := by
  by_cases h1 : p ≤ 18446744073709551615
  · go_enter Tryz.func188, Tryz.ntmps188
    go_wp2_with (first | (go_at_call 205; refine (product_room n x _ hn0 hx0 hn1 hx1 p hp (by omega)).mono ?_; rintro e w' ⟨rfl, rfl⟩) | (go_at_call 191; refine (sum_none s p _ hs0 hp0 hs1 h1 h).mono ?_; rintro e w' ⟨rfl, rfl⟩))
    go_ret2
    exact ⟨rfl, rfl⟩
  · go_enter Tryz.func188, Tryz.ntmps188
    go_wp2_with (go_at_call 205; refine (product_none n x _ hn0 hx0 hn1 hx1 p hp (by omega)).mono ?_; rintro e w' ⟨rfl, rfl⟩)
    go_ret2
    exact ⟨rfl, rfl⟩
set_option maxRecDepth 100000 in
theorem qjudges (w : World) :
    Calls Tryz.prog 157 #[] w fun e w' => e = .returned (.agg #[.nilFunc, .nilFunc, .nilFunc, .func (.func 174) #[] #[], .func (.func 175) #[] #[], .func (.func 176) #[] #[], .func (.func 177) #[] #[], .func (.func 178) #[] #[], .func (.func 179) #[] #[]]) ∧ w' = w.alloc (.cells #[.nilFunc, .nilFunc, .nilFunc, .func (.func 174) #[] #[], .func (.func 175) #[] #[], .func (.func 176) #[] #[], .func (.func 177) #[] #[], .func (.func 178) #[] #[], .func (.func 179) #[] #[]] 300) := by
  go_enter Tryz.func157, Tryz.ntmps157
  go_wp2
  exact bodyPost_ret (v := .agg #[.nilFunc, .nilFunc, .nilFunc, .func (.func 174) #[] #[], .func (.func 175) #[] #[], .func (.func 176) #[] #[], .func (.func 177) #[] #[], .func (.func 178) #[] #[], .func (.func 179) #[] #[]]) (by simp [results, Tryz.results157, go_sem]) rfl ⟨rfl, rfl⟩
end Go.Proofs.YtnlgndpcddngoaaGreatDoor
