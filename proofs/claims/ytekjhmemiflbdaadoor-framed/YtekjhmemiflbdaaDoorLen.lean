import Derived.Test.YtekjhmemiflbdaaDoorProg
import Derived.WalkKit
import Derived.WalkSpells
import Derived.WalkLawsBesides
namespace Go.Proofs.YtekjhmemiflbdaaDoor
open Go.RowKit

theorem hide {p : Prop} (h : p) : Hid p := h
theorem unhide {p : Prop} (h : Hid p) : p := h

/-- How many bytes follow the first of a request. -/
def reqLen (op : Int) : Int := if op = 1 then 26 else if op = 2 then 17 else if op = 3 ∨ op = 4 then 9 else if op = 5 ∨ op = 6 then 1 else 0

set_option maxHeartbeats 400000 in
theorem len_any (op : Int) (w : World) :
    Calls Tryd.prog 21 #[.int .u8 op] w fun e w' => e = .returned (.int .i64 (reqLen op)) ∧ w' = w := by
  by_cases h1 : op = 1
  · subst h1
    go_enter Tryd.func21, Tryd.ntmps21
    go_wp2
    go_ret
    exact ⟨rfl, rfl⟩
  by_cases h2 : op = 2
  · subst h2
    go_enter Tryd.func21, Tryd.ntmps21
    go_wp2
    go_ret
    exact ⟨rfl, rfl⟩
  by_cases h3 : op = 3
  · subst h3
    go_enter Tryd.func21, Tryd.ntmps21
    go_wp2
    go_ret
    exact ⟨rfl, rfl⟩
  by_cases h4 : op = 4
  · subst h4
    go_enter Tryd.func21, Tryd.ntmps21
    go_wp2
    go_ret
    exact ⟨rfl, rfl⟩
  by_cases h5 : op = 5
  · subst h5
    go_enter Tryd.func21, Tryd.ntmps21
    go_wp2
    go_ret
    exact ⟨rfl, rfl⟩
  by_cases h6 : op = 6
  · subst h6
    go_enter Tryd.func21, Tryd.ntmps21
    go_wp2
    go_ret
    exact ⟨rfl, rfl⟩
  have e : reqLen op = 0 := by simp [reqLen, h1, h2, h3, h4, h5, h6]
  rw [e]
  have b1 : (op == 1) = false := by simpa using h1
  have b2 : (op == 2) = false := by simpa using h2
  have b3 : (op == 3) = false := by simpa using h3
  have b4 : (op == 4) = false := by simpa using h4
  have b5 : (op == 5) = false := by simpa using h5
  have b6 : (op == 6) = false := by simpa using h6
  clear h1 h2 h3 h4 h5 h6 e
  go_enter Tryd.func21, Tryd.ntmps21
  go_wp2
  go_ret
  exact ⟨rfl, rfl⟩

theorem Tryd.info5 : (Tryd.prog.info? 5).map (fun i => (i.zero, i.size, i.bytes)) = some (some (.int .u8 0), 1, 1) := by kernel_rfl

theorem cell_two (w : World) (u v : Value) : ∀ j x, ([u, v] : List Value)[j]? = some x → (w.alloc (.cells #[u, v] 5)).cell? ((⟨w.heap.size, 0, none⟩ : Addr).add j) = some x := by
  intro j x hj
  match j, hj with
  | 0, hj => simp at hj; subst hj; simp [Addr.add]
  | 1, hj => simp at hj; subst hj; simp [Addr.add]

set_option maxRecDepth 100000 in
set_option maxHeartbeats 400000 in
theorem start_any (n : Nat) (s : Int) (w : World) (h0 : 0 < n) (h1 : n ≤ 26) :
    Calls Tryd.prog 22 #[.int .i64 n, .int .u8 s] w fun e w' => e = .returned (.slice (some ⟨w.heap.size, 0, none⟩) 2 (1 + n)) ∧ w'.ownsRow w.heap.size 5 1 (.slice (some ⟨w.heap.size, 0, none⟩) 2 (1 + n)) 2 [.int .u8 n, .int .u8 s] ∧ Below w.heap.size w w' := by
  obtain ⟨i0, hi, hz0, hz1, hz2⟩ := info_parts Tryd.info5
  go_enter Tryd.func22, Tryd.ntmps22
  go_wp2_with (first | (at_make; refine wpList_make_own _ rfl _ _ 31 rfl w.heap.size 5 i0 (.int .u8 0) 1 Tryd.underlying31 hi hz0 hz1 _ _ _ (1 + n) rfl rfl (by omega) (by rw [hz2]; omega) (by unfold maxLen; omega) (Nat.le_refl _) ?_; intro w1 hown1 hgrow1) | (at_builtin; refine wpList_append_fits _ rfl _ _ 31 rfl w.heap.size 5 i0 1 Tryd.underlying31 hi hz1 w.heap.size 0 (1 + n) [] rfl (hown1.alloc _) ⟨w1.heap.size, 0, none⟩ 2 2 [.int .u8 n, .int .u8 s] rfl rfl (cell_two _ _ _) (by simp [Value.oneCell']) (by omega) ?_; intro w2 hown2 hgrow2))
  go_ret
  refine ⟨rfl, by simpa using hown2, ?_⟩
  exact (((Below.refl _ _).grown hgrow1 (Nat.le_refl _) (by simp)).alloc hgrow1.size _).grown hgrow2 (by have := hgrow1.size; simp; omega) (by intro k hk; injection hk with hk; omega)
theorem start_at (n : Nat) (s : Int) (w : World) (B : Nat) (hB : w.heap.size = B) (h0 : 0 < n) (h1 : n ≤ 26) :
    Calls Tryd.prog 22 #[.int .i64 n, .int .u8 s] w fun e w' => e = .returned (.slice (some ⟨B, 0, none⟩) 2 (1 + n)) ∧ w'.ownsRow B 5 1 (.slice (some ⟨B, 0, none⟩) 2 (1 + n)) 2 [.int .u8 n, .int .u8 s] ∧ Below B w w' := by
  subst hB; exact start_any n s w h0 h1
end Go.Proofs.YtekjhmemiflbdaaDoor
