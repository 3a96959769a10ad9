import Derived.Test.YtnlgndpcddngoaaGreatDoorProg
import Derived.WalkKit
import Derived.WalkSpells
import Derived.WalkLawsBesides
import Derived.Laws.CopyOwn
import Derived.BigQuiet
import Derived.Deep.QuietTactic
import Derived.Deep.RegionLaw
import Derived.BigRegion
import Derived.RegionTactic
import Derived.Deep.WholeRow
import Derived.Laws.Externs
import Derived.Laws.EntriesVeiled
import Derived.Maps.OwnSet
import Derived.Maps.Ext
import Derived.Maps.RangeWalk
import Derived.WideKeyArr
import Derived.Deep.DeepCutAuto
import Derived.Deep.RegionHeld3
import Derived.OpenShut
import Derived.Conc.MuLone
import Derived.Shelf.Bits.Mul64
import Derived.StringKeys
import Derived.Laws.LoneSync
import Derived.Laws.Small
set_option linter.unusedSectionVars false
namespace Go.Proofs.YtnlgndpcddngoaaGreatDoor
open Go.RowKit

theorem hide {p : Prop} (h : p) : Hid p := h
theorem unhide {p : Prop} (h : Hid p) : p := h

/-- How many bytes follow the first of a request. -/
def reqLen (op : Int) : Int := if op = 1 then 26 else if op = 2 then 17 else if op = 3 ∨ op = 4 then 9 else if op = 5 ∨ op = 6 then 1 else 0

set_option maxHeartbeats 400000 in
theorem len_any (op : Int) (w : World) :
    Calls Tryz.prog 66 #[.int .u8 op] w fun e w' => e = .returned (.int .i64 (reqLen op)) ∧ w' = w := by
  by_cases h1 : op = 1
  · subst h1
    go_enter Tryz.func66, Tryz.ntmps66
    go_wp2
    go_ret
    exact ⟨rfl, rfl⟩
  by_cases h2 : op = 2
  · subst h2
    go_enter Tryz.func66, Tryz.ntmps66
    go_wp2
    go_ret
    exact ⟨rfl, rfl⟩
  by_cases h3 : op = 3
  · subst h3
    go_enter Tryz.func66, Tryz.ntmps66
    go_wp2
    go_ret
    exact ⟨rfl, rfl⟩
  by_cases h4 : op = 4
  · subst h4
    go_enter Tryz.func66, Tryz.ntmps66
    go_wp2
    go_ret
    exact ⟨rfl, rfl⟩
  by_cases h5 : op = 5
  · subst h5
    go_enter Tryz.func66, Tryz.ntmps66
    go_wp2
    go_ret
    exact ⟨rfl, rfl⟩
  by_cases h6 : op = 6
  · subst h6
    go_enter Tryz.func66, Tryz.ntmps66
    go_wp2
    go_ret
    exact ⟨rfl, rfl⟩
  have e : reqLen op = 0 := by simp [reqLen, h1, h2, h3, h4, h5, h6]
  rw [e]
  have b1 : (op == 1) = false := by simpa using h1
  have b2 : (op == 2) = false := by simpa using h2
  have b3 : (op == 3) = false := by simpa using h3
  have b4 : (op == 4) = false := by simpa using h4
  have b5 : (op == 5) = false := by simpa using h5
  have b6 : (op == 6) = false := by simpa using h6
  clear h1 h2 h3 h4 h5 h6 e
  go_enter Tryz.func66, Tryz.ntmps66
  go_wp2
  go_ret
  exact ⟨rfl, rfl⟩

theorem Tryz.info5 : (Tryz.prog.info? 5).map (fun i => (i.zero, i.size, i.bytes)) = some (some (.int .u8 0), 1, 1) := by kernel_rfl

theorem cell_two (w : World) (u v : Value) : ∀ j x, ([u, v] : List Value)[j]? = some x → (w.alloc (.cells #[u, v] 5)).cell? ((⟨w.heap.size, 0, none⟩ : Addr).add j) = some x := by
  intro j x hj
  match j, hj with
  | 0, hj => simp at hj; subst hj; simp [Addr.add]
  | 1, hj => simp at hj; subst hj; simp [Addr.add]

set_option maxRecDepth 100000 in
set_option maxHeartbeats 400000 in
theorem start_any (n : Nat) (s : Int) (w : World) (h0 : 0 < n) (h1 : n ≤ 26) :
    Calls Tryz.prog 67 #[.int .i64 n, .int .u8 s] w fun e w' => e = .returned (.slice (some ⟨w.heap.size, 0, none⟩) 2 (1 + n)) ∧ w'.ownsRow w.heap.size 5 1 (.slice (some ⟨w.heap.size, 0, none⟩) 2 (1 + n)) 2 [.int .u8 n, .int .u8 s] ∧ Below w.heap.size w w' := by
  obtain ⟨i0, hi, hz0, hz1, hz2⟩ := info_parts Tryz.info5
  go_enter Tryz.func67, Tryz.ntmps67
  go_wp2_with (first | (at_make; refine wpList_make_own _ rfl _ _ 76 rfl w.heap.size 5 i0 (.int .u8 0) 1 Tryz.underlying76 hi hz0 hz1 _ _ _ (1 + n) rfl rfl (by omega) (by rw [hz2]; omega) (by unfold maxLen; omega) (Nat.le_refl _) ?_; intro w1 hown1 hgrow1) | (at_builtin; refine wpList_append_fits _ rfl _ _ 76 rfl w.heap.size 5 i0 1 Tryz.underlying76 hi hz1 w.heap.size 0 (1 + n) [] rfl (hown1.alloc _) ⟨w1.heap.size, 0, none⟩ 2 2 [.int .u8 n, .int .u8 s] rfl rfl (cell_two _ _ _) (by simp [Value.oneCell']) (by omega) ?_; intro w2 hown2 hgrow2))
  go_ret
  refine ⟨rfl, by simpa using hown2, ?_⟩
  exact (((Below.refl _ _).grown hgrow1 (Nat.le_refl _) (by simp)).alloc hgrow1.size _).grown hgrow2 (by have := hgrow1.size; simp; omega) (by intro k hk; injection hk with hk; omega)
theorem start_at (n : Nat) (s : Int) (w : World) (B : Nat) (hB : w.heap.size = B) (h0 : 0 < n) (h1 : n ≤ 26) :
    Calls Tryz.prog 67 #[.int .i64 n, .int .u8 s] w fun e w' => e = .returned (.slice (some ⟨B, 0, none⟩) 2 (1 + n)) ∧ w'.ownsRow B 5 1 (.slice (some ⟨B, 0, none⟩) 2 (1 + n)) 2 [.int .u8 n, .int .u8 s] ∧ Below B w w' := by
  subst hB; exact start_any n s w h0 h1
end Go.Proofs.YtnlgndpcddngoaaGreatDoor

namespace Go.Proofs.YtnlgndpcddngoaaGreatDoor
open Go.RowKit

/-- The byte number j of a number, the highest first. -/
def nb (v : Int) (j : Nat) : Int := v / 2 ^ (56 - 8 * j) % 256
def be8 (v : Int) : List Int := [nb v 0, nb v 1, nb v 2, nb v 3, nb v 4, nb v 5, nb v 6, nb v 7]

theorem be8_take (v : Int) (j : Nat) (h : j < 8) : (be8 v).take (j + 1) = (be8 v).take j ++ [v / 2 ^ (56 - 8 * j) % 256] := by
  match j, h with
  | 0, _ => rfl
  | 1, _ => rfl
  | 2, _ => rfl
  | 3, _ => rfl
  | 4, _ => rfl
  | 5, _ => rfl
  | 6, _ => rfl
  | 7, _ => rfl
set_option maxRecDepth 100000 in
set_option maxHeartbeats 400000 in
theorem num_any (g k cap base : Nat) (xs : List Value) (v : Int) (w : World) (hown : w.ownsRow base 5 1 (.slice (some ⟨g, 0, none⟩) k cap) k xs) (hroom : k + 8 ≤ cap) (_hv0 : 0 ≤ v) (_hv1 : v ≤ 18446744073709551615) :
    Calls Tryz.prog 69 #[.slice (some ⟨g, 0, none⟩) k cap, .int .u64 v] w fun e w' => e = .returned (.slice (some ⟨g, 0, none⟩) (k + 8) cap) ∧ w'.ownsRow base 5 1 (.slice (some ⟨g, 0, none⟩) (k + 8) cap) (k + 8) (xs ++ (be8 v).map (Value.int .u8)) ∧ w.grownBy w' (some g) := by
  obtain ⟨i0, hi, hz0, hz1, hz2⟩ := info_parts Tryz.info5
  go_enter Tryz.func69, Tryz.ntmps69
  go_wp2
  go_loopw [0, 5] (fun b s wr => ∃ j : Nat, j ≤ 8 ∧ s = .int .i64 (56 - 8 * (j : Int)) ∧ b = .slice (some ⟨g, 0, none⟩) (k + j) cap ∧ wr.ownsRow base 5 1 (.slice (some ⟨g, 0, none⟩) (k + j) cap) (k + j) (xs ++ ((be8 v).take j).map (Value.int .u8)) ∧ w.grownBy wr (some g)) (fun _ s _ => (intOf s + 8).toNat)
  case atStart => exact ⟨0, Nat.zero_le _, rfl, rfl, by simpa using hown, World.grownBy.refl _ _⟩
  case round =>
    obtain ⟨j, hj, rfl, rfl, hownr, hgr⟩ := hrel
    by_cases hlt : j < 8
    · go_wp2_with (at_builtin; refine wpList_append_fits _ rfl _ _ 76 rfl base 5 i0 1 Tryz.underlying76 hi hz1 g (k + j) cap _ rfl (hownr.alloc _) ⟨wr.heap.size, 0, none⟩ 1 1 [.int .u8 (v / 2 ^ (56 - 8 * j) % 256)] rfl rfl (cell_one_new _ _ _) (by simp [Value.oneCell']) (by omega) ?_; intro w2 hown2 hgrow2)
      go_roundw
      case rel => exact ⟨j + 1, by omega, by go_num, rfl, by rw [be8_take v j hlt]; simpa [Nat.add_assoc] using hown2, (hgr.trans (World.grownBy_alloc _ _ _)).trans hgrow2⟩
      case measure => simp [intOf]; omega
    · obtain rfl : j = 8 := by omega
      go_wp2
      go_ret
      exact ⟨rfl, hownr, hgr⟩
end Go.Proofs.YtnlgndpcddngoaaGreatDoor

namespace Go.Proofs.YtnlgndpcddngoaaGreatDoor
open Go.RowKit

set_option maxRecDepth 100000 in
set_option maxHeartbeats 400000 in
theorem small_more (F g o m : Nat) (b : Int) (w : World) (hF : w.cell? ⟨F, 0, none⟩ = some (.slice (some ⟨g, o, none⟩) m m)) (hz : w.frozen? ⟨F, 0, none⟩ = false) (hm : 1 < m) (hm1 : m ≤ 255) (hc : w.cell? ⟨g, o, none⟩ = some (.int .u8 b)) :
    Calls Tryz.prog 105 #[.pointer (some ⟨F, 0, none⟩)] w fun e w' => e = .returned (.int .u8 b) ∧ w' = w.setCell ⟨F, 0, none⟩ (.slice (some ⟨g, o + 1, none⟩) (m - 1) (m - 1)) := by
  have hmp : 0 < m := by omega
  have hmI : (0 : Int) < m := by omega
  have hme : ¬ m = 1 := by omega
  go_enter Tryz.func105, Tryz.ntmps105
  go_wp2
  go_ret
  exact ⟨rfl, rfl⟩

set_option maxRecDepth 100000 in
set_option maxHeartbeats 400000 in
theorem small_last (F g o : Nat) (b : Int) (w : World) (hF : w.cell? ⟨F, 0, none⟩ = some (.slice (some ⟨g, o, none⟩) 1 1)) (hz : w.frozen? ⟨F, 0, none⟩ = false) (hc : w.cell? ⟨g, o, none⟩ = some (.int .u8 b)) :
    Calls Tryz.prog 105 #[.pointer (some ⟨F, 0, none⟩)] w fun e w' => e = .returned (.int .u8 b) ∧ ∃ v, w' = w.setCell ⟨F, 0, none⟩ v := by
  go_enter Tryz.func105, Tryz.ntmps105
  go_wp2
  go_ret
  exact ⟨rfl, _, rfl⟩

/-- The number whose first j bytes are c 0, c 1, .. -/
def rdTo (c : Nat → Int) : Nat → Int
  | 0 => 0
  | j + 1 => rdTo c j * 256 + c j

theorem u64_small (n : Int) (h0 : 0 ≤ n) (h1 : n < 2 ^ 64) : IntKind.u64.wrap n = n := by rw [IntKind.wrap_u64]; omega
theorem or_byte (x c : Int) (hx : 0 ≤ x) (hx1 : x < 2 ^ 56) (hc : 0 ≤ c) (hc1 : c ≤ 255) : bits BinOp.or IntKind.u64 (IntKind.u64.wrap (x * 256)) c = x * 256 + c := by
  rw [u64_small _ (by omega) (by omega)]
  exact bits_join .u64 64 (by decide) (fun n => u64_small n) 8 (x * 256) c (by omega) (by omega) (by omega) hc (by omega) (by omega)
theorem rdTo_bound (c : Nat → Int) (hr : ∀ j, 0 ≤ c j ∧ c j ≤ 255) : ∀ j, 0 ≤ rdTo c j ∧ rdTo c j < 256 ^ j
  | 0 => by simp [rdTo]
  | j + 1 => by
    have h := rdTo_bound c hr j
    have hj := hr j
    simp only [rdTo]
    rw [Int.pow_succ]
    omega
theorem rdTo_lt (c : Nat → Int) (hr : ∀ j, 0 ≤ c j ∧ c j ≤ 255) (j : Nat) (hj : j < 8) : 0 ≤ rdTo c j ∧ rdTo c j < 2 ^ 56 := by
  have h := rdTo_bound c hr j
  refine ⟨h.1, ?_⟩
  match j, hj with
  | 0, _ => omega
  | 1, _ => omega
  | 2, _ => omega
  | 3, _ => omega
  | 4, _ => omega
  | 5, _ => omega
  | 6, _ => omega
  | 7, _ => omega
theorem int_u64 {a b : Int} (h : a = b) : Value.int .u64 a = .int .u64 b := by rw [h]

set_option maxRecDepth 100000 in
set_option maxHeartbeats 400000 in
theorem number_any (F g o m : Nat) (c : Nat → Int) (w : World) (hF : w.cell? ⟨F, 0, none⟩ = some (.slice (some ⟨g, o, none⟩) m m)) (hz : w.frozen? ⟨F, 0, none⟩ = false) (hm : 8 ≤ m) (hm1 : m ≤ 255) (hc : ∀ j, j < 8 → w.cell? ⟨g, o + j, none⟩ = some (.int .u8 (c j))) (hr : ∀ j, 0 ≤ c j ∧ c j ≤ 255) :
    Calls Tryz.prog 108 #[.pointer (some ⟨F, 0, none⟩)] w fun e w' => e = .returned (.int .u64 (rdTo c 8)) ∧ ∃ ao, w' = w.setCell ⟨F, 0, none⟩ (.slice ao (m - 8) (m - 8)) ∧ (8 < m → ao = some ⟨g, o + 8, none⟩) := by
  go_enter Tryz.func108, Tryz.ntmps108
  go_wp2
  go_loop [3, 12] (fun v i => ∃ j : Nat, j ≤ 8 ∧ i = .int .i64 j ∧ v = .int .u64 (rdTo c j)) (fun _ i => 8 - (intOf i).toNat)
  case atStart => exact ⟨0, by omega, rfl, rfl⟩
  case round =>
    obtain ⟨j, hj, rfl, rfl⟩ := hrel
    by_cases hlt : j < 8
    · have hcj := hc j hlt
      have hrj := hr j
      have HB := hide (rdTo_lt c hr j hlt)
      have HR := hide hrj
      go_wp2
      go_round
      case rel => exact ⟨j + 1, by omega, by go_num, int_u64 (or_byte _ _ HB.out.1 HB.out.2 HR.out.1 HR.out.2)⟩
      case measure => simp [intOf]; omega
    · obtain rfl : j = 8 := by omega
      by_cases hme : m = 8
      · subst hme
        go_wp2

        go_ret
        exact ⟨rfl, _, rfl⟩
      · go_wp2

        go_ret
        exact ⟨rfl, _, rfl, fun _ => rfl⟩
end Go.Proofs.YtnlgndpcddngoaaGreatDoor

namespace Go.Proofs.YtnlgndpcddngoaaGreatDoor
open Go.RowKit

theorem copy8 (g o m : Nat) (k0 k1 k2 k3 k4 k5 k6 k7 : Int) (w : World) (hgl : g < w.heap.size) (hm : 8 ≤ m)
    (h0 : w.cell? ⟨g, o, none⟩ = some (.int .u8 k0))
    (h1 : w.cell? ⟨g, o + 1, none⟩ = some (.int .u8 k1))
    (h2 : w.cell? ⟨g, o + 2, none⟩ = some (.int .u8 k2))
    (h3 : w.cell? ⟨g, o + 3, none⟩ = some (.int .u8 k3))
    (h4 : w.cell? ⟨g, o + 4, none⟩ = some (.int .u8 k4))
    (h5 : w.cell? ⟨g, o + 5, none⟩ = some (.int .u8 k5))
    (h6 : w.cell? ⟨g, o + 6, none⟩ = some (.int .u8 k6))
    (h7 : w.cell? ⟨g, o + 7, none⟩ = some (.int .u8 k7)) :
    (Builtin.copy_ #[76, 76] 3 #[.slice (some ⟨w.heap.size + 1, 0, none⟩) 8 8, .slice (some ⟨g, o, none⟩) m m]).run Tryz.prog (((w.alloc (.cells #[.int .u8 0, .int .u8 0, .int .u8 0, .int .u8 0, .int .u8 0, .int .u8 0, .int .u8 0, .int .u8 0] 63)).alloc (.cells #[.int .u8 0, .int .u8 0, .int .u8 0, .int .u8 0, .int .u8 0, .int .u8 0, .int .u8 0, .int .u8 0] 63)).drew)
      = .ok (.int .i64 8) (((w.alloc (.cells #[.int .u8 0, .int .u8 0, .int .u8 0, .int .u8 0, .int .u8 0, .int .u8 0, .int .u8 0, .int .u8 0] 63)).alloc (.cells #[.int .u8 k0, .int .u8 k1, .int .u8 k2, .int .u8 k3, .int .u8 k4, .int .u8 k5, .int .u8 k6, .int .u8 k7] 63)).drew) := by
  have hg : (((w.alloc (.cells #[.int .u8 0, .int .u8 0, .int .u8 0, .int .u8 0, .int .u8 0, .int .u8 0, .int .u8 0, .int .u8 0] 63)).alloc (.cells #[.int .u8 0, .int .u8 0, .int .u8 0, .int .u8 0, .int .u8 0, .int .u8 0, .int .u8 0, .int .u8 0] 63)).drew).heap[w.heap.size + 1]? = some (.cells #[.int .u8 0, .int .u8 0, .int .u8 0, .int .u8 0, .int .u8 0, .int .u8 0, .int .u8 0, .int .u8 0] 63 (0, 0)) := by
    show ((w.heap.push _).push _)[w.heap.size + 1]? = _
    rw [Array.getElem?_push, if_pos (by simp)]
  have hs : ∀ j v, ([.int .u8 k0, .int .u8 k1, .int .u8 k2, .int .u8 k3, .int .u8 k4, .int .u8 k5, .int .u8 k6, .int .u8 k7] : List Value)[j]? = some v → (((w.alloc (.cells #[.int .u8 0, .int .u8 0, .int .u8 0, .int .u8 0, .int .u8 0, .int .u8 0, .int .u8 0, .int .u8 0] 63)).alloc (.cells #[.int .u8 0, .int .u8 0, .int .u8 0, .int .u8 0, .int .u8 0, .int .u8 0, .int .u8 0, .int .u8 0] 63)).drew).cell? ((⟨g, o, none⟩ : Addr).add j) = some v := by
    intro j v hj
    rw [Addr.add_lit]
    show ((w.alloc (.cells #[.int .u8 0, .int .u8 0, .int .u8 0, .int .u8 0, .int .u8 0, .int .u8 0, .int .u8 0, .int .u8 0] 63)).alloc (.cells #[.int .u8 0, .int .u8 0, .int .u8 0, .int .u8 0, .int .u8 0, .int .u8 0, .int .u8 0, .int .u8 0] 63)).cell? ⟨g, o + j, none⟩ = some v
    rw [World.cell?_alloc_lt _ _ ⟨g, o + j, none⟩ (by simp; omega), World.cell?_alloc_lt _ _ ⟨g, o + j, none⟩ hgl]
    match j, hj with
    | 0, hj => simp at hj; subst hj; exact h0
    | 1, hj => simp at hj; subst hj; exact h1
    | 2, hj => simp at hj; subst hj; exact h2
    | 3, hj => simp at hj; subst hj; exact h3
    | 4, hj => simp at hj; subst hj; exact h4
    | 5, hj => simp at hj; subst hj; exact h5
    | 6, hj => simp at hj; subst hj; exact h6
    | 7, hj => simp at hj; subst hj; exact h7
  have hmin : Nat.min m 8 = 8 := Nat.min_eq_right hm
  rw [run_copy_row (P := Tryz.prog) _ 76 76 3 5 (w.heap.size + 1) 0 8 8 ⟨g, o, none⟩ m m _ 63 [.int .u8 k0, .int .u8 k1, .int .u8 k2, .int .u8 k3, .int .u8 k4, .int .u8 k5, .int .u8 k6, .int .u8 k7] Tryz.underlying76 (by kernel_rfl) hg (by rw [hmin]; rfl) hs (by simp) (by simp [Value.oneCell'])]
  have e : (((w.alloc (.cells #[.int .u8 0, .int .u8 0, .int .u8 0, .int .u8 0, .int .u8 0, .int .u8 0, .int .u8 0, .int .u8 0] 63)).alloc (.cells #[.int .u8 0, .int .u8 0, .int .u8 0, .int .u8 0, .int .u8 0, .int .u8 0, .int .u8 0, .int .u8 0] 63)).drew).setRow (w.heap.size + 1) #[.int .u8 k0, .int .u8 k1, .int .u8 k2, .int .u8 k3, .int .u8 k4, .int .u8 k5, .int .u8 k6, .int .u8 k7] = ((w.alloc (.cells #[.int .u8 0, .int .u8 0, .int .u8 0, .int .u8 0, .int .u8 0, .int .u8 0, .int .u8 0, .int .u8 0] 63)).alloc (.cells #[.int .u8 k0, .int .u8 k1, .int .u8 k2, .int .u8 k3, .int .u8 k4, .int .u8 k5, .int .u8 k6, .int .u8 k7] 63)).drew := by
    show (((w.alloc (.cells #[.int .u8 0, .int .u8 0, .int .u8 0, .int .u8 0, .int .u8 0, .int .u8 0, .int .u8 0, .int .u8 0] 63)).alloc (.cells #[.int .u8 0, .int .u8 0, .int .u8 0, .int .u8 0, .int .u8 0, .int .u8 0, .int .u8 0, .int .u8 0] 63)).setRow (w.heap.size + 1) #[.int .u8 k0, .int .u8 k1, .int .u8 k2, .int .u8 k3, .int .u8 k4, .int .u8 k5, .int .u8 k6, .int .u8 k7]).drew = _
    have h := World.setRow_alloc_new (w.alloc (.cells #[.int .u8 0, .int .u8 0, .int .u8 0, .int .u8 0, .int .u8 0, .int .u8 0, .int .u8 0, .int .u8 0] 63)) #[.int .u8 0, .int .u8 0, .int .u8 0, .int .u8 0, .int .u8 0, .int .u8 0, .int .u8 0, .int .u8 0] #[.int .u8 k0, .int .u8 k1, .int .u8 k2, .int .u8 k3, .int .u8 k4, .int .u8 k5, .int .u8 k6, .int .u8 k7] 63
    rw [World.size_alloc] at h
    rw [h]
  simp only [List.take_zero, List.nil_append, List.length_cons, List.length_nil]
  exact congrArg _ e

set_option maxRecDepth 100000 in
set_option maxHeartbeats 1000000 in
theorem key_more (F g o m : Nat) (k0 k1 k2 k3 k4 k5 k6 k7 : Int) (w : World) (hFl : F < w.heap.size) (hgl : g < w.heap.size) (hm : 8 < m) (hm1 : m ≤ 255) (hF : w.cell? ⟨F, 0, none⟩ = some (.slice (some ⟨g, o, none⟩) m m)) (hz : w.frozen? ⟨F, 0, none⟩ = false)
    (h0 : w.cell? ⟨g, o, none⟩ = some (.int .u8 k0))
    (h1 : w.cell? ⟨g, o + 1, none⟩ = some (.int .u8 k1))
    (h2 : w.cell? ⟨g, o + 2, none⟩ = some (.int .u8 k2))
    (h3 : w.cell? ⟨g, o + 3, none⟩ = some (.int .u8 k3))
    (h4 : w.cell? ⟨g, o + 4, none⟩ = some (.int .u8 k4))
    (h5 : w.cell? ⟨g, o + 5, none⟩ = some (.int .u8 k5))
    (h6 : w.cell? ⟨g, o + 6, none⟩ = some (.int .u8 k6))
    (h7 : w.cell? ⟨g, o + 7, none⟩ = some (.int .u8 k7)) :
    Calls Tryz.prog 106 #[.pointer (some ⟨F, 0, none⟩)] w fun e w' => e = .returned (.agg #[.int .u8 k0, .int .u8 k1, .int .u8 k2, .int .u8 k3, .int .u8 k4, .int .u8 k5, .int .u8 k6, .int .u8 k7]) ∧ Below w.heap.size (w.setCell ⟨F, 0, none⟩ (.slice (some ⟨g, o + 8, none⟩) (m - 8) (m - 8))) w' := by
  have hcp := copy8 g o m k0 k1 k2 k3 k4 k5 k6 k7 w hgl (by omega) h0 h1 h2 h3 h4 h5 h6 h7
  have hme : ¬ m = 8 := by omega
  have hmI : (8 : Int) ≤ m := by omega
  clear h0 h1 h2 h3 h4 h5 h6 h7
  go_enter Tryz.func106, Tryz.ntmps106
  go_wp2
  go_region
  go_wp2
  exact bodyPost_ret (v := .agg #[.int .u8 k0, .int .u8 k1, .int .u8 k2, .int .u8 k3, .int .u8 k4, .int .u8 k5, .int .u8 k6, .int .u8 k7]) (by simp [results, Tryz.results106, go_sem]) rfl ⟨rfl, (((Below.refl _ _).alloc (by simp) _).alloc (by simp) _).drew⟩

set_option maxRecDepth 100000 in
set_option maxHeartbeats 1000000 in
theorem key_last (F g o : Nat) (k0 k1 k2 k3 k4 k5 k6 k7 : Int) (w : World) (hFl : F < w.heap.size) (hgl : g < w.heap.size) (hF : w.cell? ⟨F, 0, none⟩ = some (.slice (some ⟨g, o, none⟩) 8 8)) (hz : w.frozen? ⟨F, 0, none⟩ = false)
    (h0 : w.cell? ⟨g, o, none⟩ = some (.int .u8 k0))
    (h1 : w.cell? ⟨g, o + 1, none⟩ = some (.int .u8 k1))
    (h2 : w.cell? ⟨g, o + 2, none⟩ = some (.int .u8 k2))
    (h3 : w.cell? ⟨g, o + 3, none⟩ = some (.int .u8 k3))
    (h4 : w.cell? ⟨g, o + 4, none⟩ = some (.int .u8 k4))
    (h5 : w.cell? ⟨g, o + 5, none⟩ = some (.int .u8 k5))
    (h6 : w.cell? ⟨g, o + 6, none⟩ = some (.int .u8 k6))
    (h7 : w.cell? ⟨g, o + 7, none⟩ = some (.int .u8 k7)) :
    Calls Tryz.prog 106 #[.pointer (some ⟨F, 0, none⟩)] w fun e w' => e = .returned (.agg #[.int .u8 k0, .int .u8 k1, .int .u8 k2, .int .u8 k3, .int .u8 k4, .int .u8 k5, .int .u8 k6, .int .u8 k7]) ∧ ∃ v, Below w.heap.size (w.setCell ⟨F, 0, none⟩ v) w' := by
  have hcp := copy8 g o 8 k0 k1 k2 k3 k4 k5 k6 k7 w hgl (by omega) h0 h1 h2 h3 h4 h5 h6 h7
  clear h0 h1 h2 h3 h4 h5 h6 h7
  go_enter Tryz.func106, Tryz.ntmps106
  go_wp2
  go_region
  go_wp2
  exact bodyPost_ret (v := .agg #[.int .u8 k0, .int .u8 k1, .int .u8 k2, .int .u8 k3, .int .u8 k4, .int .u8 k5, .int .u8 k6, .int .u8 k7]) (by simp [results, Tryz.results106, go_sem]) rfl ⟨rfl, _, (((Below.refl _ _).alloc (by simp) _).alloc (by simp) _).drew⟩
end Go.Proofs.YtnlgndpcddngoaaGreatDoor

namespace Go.Proofs.YtnlgndpcddngoaaGreatDoor
open Go.RowKit

theorem cellB {w : World} {b : Nat} {c : Array Value} {t : TypeId} {fr : Nat × Nat} (h : w.heap[b]? = some (.cells c t fr)) (j : Nat) : w.cell? ⟨b, j, none⟩ = c[j]? := by
  simp [World.cell?, h]
theorem frozenB {w : World} {b : Nat} {c : Array Value} {t : TypeId} (h : w.heap[b]? = some (.cells c t)) (j : Nat) : w.frozen? ⟨b, j, none⟩ = false := by
  simp [World.frozen?, h]
theorem ltB {w : World} {b : Nat} {o : Obj} (h : w.heap[b]? = some o) : b < w.heap.size := (Array.getElem?_eq_some_iff.1 h).1
theorem heapNew (w : World) (o : Obj) : (w.alloc o).heap[w.heap.size]? = some o := (MapKept.heap_alloc w o).1
theorem heapN {w : World} {o : Obj} {k : Nat} (h : k = w.heap.size) : (w.alloc o).heap[k]? = some o := h ▸ heapNew w o
theorem heapDrew (w : World) (k : Nat) : w.drew.heap[k]? = w.heap[k]? := rfl
theorem heapOld (w : World) (o : Obj) {k : Nat} (h : k < w.heap.size) : (w.alloc o).heap[k]? = w.heap[k]? := Below.heap_alloc w o k h
theorem heapSet {w : World} {b : Nat} {c : Array Value} {t : TypeId} {fr : Nat × Nat} (h : w.heap[b]? = some (.cells c t fr)) (j : Nat) (v : Value) : (w.setCell ⟨b, j, none⟩ v).heap[b]? = some (.cells (c.setIfInBounds j v) t fr) := by
  simp [World.setCell, Array.getElem?_modify, h]
theorem heapSetO {w : World} {b k : Nat} (hne : k ≠ b) (j : Nat) (v : Value) : (w.setCell ⟨b, j, none⟩ v).heap[k]? = w.heap[k]? := Below.heap_setCell w ⟨b, j, none⟩ v k hne

theorem heapSet3 {w : World} {b : Nat} {c0 c1 c2 : Value} {t : TypeId} {fr : Nat × Nat} (h : w.heap[b]? = some (.cells #[c0, c1, c2] t fr)) (v0 v1 v2 : Value) :
    (((w.setCell ⟨b, 0, none⟩ v0).setCell ⟨b, 1, none⟩ v1).setCell ⟨b, 2, none⟩ v2).heap[b]? = some (.cells #[v0, v1, v2] t fr) := by
  simpa using heapSet (heapSet (heapSet h 0 v0) 1 v1) 2 v2
theorem heapSet5 {w : World} {b : Nat} {c0 c1 c2 c3 c4 : Value} {t : TypeId} {fr : Nat × Nat} (h : w.heap[b]? = some (.cells #[c0, c1, c2, c3, c4] t fr)) (v0 v1 v2 v3 v4 : Value) :
    (((((w.setCell ⟨b, 0, none⟩ v0).setCell ⟨b, 1, none⟩ v1).setCell ⟨b, 2, none⟩ v2).setCell ⟨b, 3, none⟩ v3).setCell ⟨b, 4, none⟩ v4).heap[b]? = some (.cells #[v0, v1, v2, v3, v4] t fr) := by
  simpa using heapSet (heapSet (heapSet (heapSet (heapSet h 0 v0) 1 v1) 2 v2) 3 v3) 4 v4
theorem upB {w : World} {b : Nat} {x : Obj} (h : w.heap[b]? = some x) (o : Obj) : (w.alloc o).heap[b]? = some x := (heapOld w o (ltB h)).trans h
theorem upC {w : World} {b : Nat} {c : Array Value} {t : TypeId} {fr : Nat × Nat} (h : w.heap[b]? = some (.cells c t fr)) (o : Obj) (j : Nat) : (w.alloc o).cell? ⟨b, j, none⟩ = c[j]? := cellB (upB h o) j
theorem upF {w : World} {b : Nat} {c : Array Value} {t : TypeId} (h : w.heap[b]? = some (.cells c t)) (o : Obj) (j : Nat) : (w.alloc o).frozen? ⟨b, j, none⟩ = false := frozenB (upB h o) j
theorem Below.toB {B : Nat} {w w' : World} (h : Below B w w') {b : Nat} {x : Obj} (hb : w.heap[b]? = some x) (hB : b < B) : w'.heap[b]? = some x := (h.block b hB).trans hb

/-- All blocks but those of S are as they were. -/
structure Keep (S : Nat → Prop) (w w' : World) : Prop where
  os : w'.os = w.os
  tape : w'.tape = w.tape
  output : w'.output = w.output
  size : w.heap.size ≤ w'.heap.size
  block : ∀ k, k < w.heap.size → ¬ S k → w'.heap[k]? = w.heap[k]?

theorem Keep.refl (S : Nat → Prop) (w : World) : Keep S w w := ⟨rfl, rfl, rfl, Nat.le_refl _, fun _ _ _ => rfl⟩
theorem Keep.of_below {S : Nat → Prop} {w w' : World} (h : Below w.heap.size w w') : Keep S w w' := ⟨h.os, h.tape, h.output, h.size, fun k hk _ => h.block k hk⟩
theorem Keep.mono {S T : Nat → Prop} {w w' : World} (h : Keep S w w') (hs : ∀ k, S k → k < w.heap.size → T k) : Keep T w w' := ⟨h.os, h.tape, h.output, h.size, fun k hk hT => h.block k hk (fun hS => hT (hs k hS hk))⟩
theorem Keep.trans {S : Nat → Prop} {a b c : World} (h : Keep S a b) (k : Keep S b c) : Keep S a c :=
  ⟨k.os.trans h.os, k.tape.trans h.tape, k.output.trans h.output, Nat.le_trans h.size k.size, fun i hi hS => (k.block i (Nat.lt_of_lt_of_le hi h.size) hS).trans (h.block i hi hS)⟩
theorem Keep.then {S T : Nat → Prop} {a b c : World} (h : Keep S a b) (k : Keep T b c) (hst : ∀ i, i < a.heap.size → T i → S i) : Keep S a c :=
  ⟨k.os.trans h.os, k.tape.trans h.tape, k.output.trans h.output, Nat.le_trans h.size k.size, fun i hi hS => (k.block i (Nat.lt_of_lt_of_le hi h.size) (fun hT => hS (hst i hi hT))).trans (h.block i hi hS)⟩
theorem Keep.alloc {S : Nat → Prop} {a w : World} (h : Keep S a w) (o : Obj) : Keep S a (w.alloc o) :=
  ⟨h.os, h.tape, h.output, by rw [World.size_alloc]; exact Nat.le_succ_of_le h.size, fun k hk hS => (heapOld w o (Nat.lt_of_lt_of_le hk h.size)).trans (h.block k hk hS)⟩
theorem Keep.drew {S : Nat → Prop} {a w : World} (h : Keep S a w) : Keep S a w.drew := ⟨h.os, h.tape, h.output, h.size, h.block⟩
theorem Keep.set {S : Nat → Prop} {a w : World} (h : Keep S a w) {b : Nat} (hb : S b ∨ a.heap.size ≤ b) (j : Nat) (v : Value) : Keep S a (w.setCell ⟨b, j, none⟩ v) :=
  ⟨h.os, h.tape, h.output, by rw [World.size_setCell]; exact h.size, fun k hk hS => (heapSetO (fun e => by subst e; rcases hb with hb | hb; exact hS hb; omega) j v).trans (h.block k hk hS)⟩
/-- Where all that may turn is new, nothing old turns. -/
theorem Keep.below {S : Nat → Prop} {w w' : World} (h : Keep S w w') {B : Nat} (hB : B ≤ w.heap.size) (hS : ∀ k, S k → B ≤ k) : Below B w w' :=
  ⟨h.os, h.tape, h.output, h.size, fun k hk => h.block k (Nat.lt_of_lt_of_le hk hB) (fun hs => by have := hS k hs; omega)⟩
end Go.Proofs.YtnlgndpcddngoaaGreatDoor

namespace Go.Proofs.YtnlgndpcddngoaaGreatDoor
open Go.RowKit

theorem add64_run (x y : Int) (hx : 0 ≤ x) (hy : 0 ≤ y) (w : World) :
    (callFunc 206 #[.int .u64 x, .int .u64 y, .int .u64 0]).run Tryz.prog w =
      .ok (.value (.tuple #[.int .u64 ((x + y + 0) % 18446744073709551616), .int .u64 ((x + y + 0) / 18446744073709551616)])) w := by
  rw [run_callFunc_extern Tryz.func206 (by kernel_rfl) (by kernel_rfl) (by kernel_rfl) (e := add64Entry) (by kernel_rfl), run_add64 x y 0 hx hy (by omega) (by omega)]
  rfl

set_option maxRecDepth 100000 in
theorem sum_room (a b : Int) (w : World) (ha : 0 ≤ a) (hb : 0 ≤ b) (h : a + b ≤ 18446744073709551615) :
    Calls Tryz.prog 191 #[.int .u64 a, .int .u64 b] w fun e w' => e = .returned (.tuple #[.int .u64 (a + b), .bool true]) ∧ w' = w := by
  have hrun := add64_run a b ha hb w
  have e1 : (a + b + 0) % 18446744073709551616 = a + b := by omega
  have e2 : (a + b + 0) / 18446744073709551616 = 0 := by omega
  rw [e1, e2] at hrun
  go_enter Tryz.func191, Tryz.ntmps191
  go_wp2
  go_ret2
  exact ⟨rfl, rfl⟩

set_option maxRecDepth 100000 in
theorem sum_none (a b : Int) (w : World) (ha : 0 ≤ a) (hb : 0 ≤ b) (ha1 : a ≤ 18446744073709551615) (hb1 : b ≤ 18446744073709551615) (h : 18446744073709551615 < a + b) :
    Calls Tryz.prog 191 #[.int .u64 a, .int .u64 b] w fun e w' => e = .returned (.tuple #[.int .u64 0, .bool false]) ∧ w' = w := by
  have hrun := add64_run a b ha hb w
  have e2 : (a + b + 0) / 18446744073709551616 = 1 := by omega
  rw [e2] at hrun
  go_enter Tryz.func191, Tryz.ntmps191
  go_wp2
  go_ret2
  exact ⟨rfl, rfl⟩

/-- A number, or NEVER. -/
def orNever (x : Int) : Int := if x ≤ 18446744073709551615 then x else 18446744073709551615

set_option maxRecDepth 100000 in
theorem sumNever_any (a b : Int) (w : World) (ha : 0 ≤ a) (hb : 0 ≤ b) (ha1 : a ≤ 18446744073709551615) (hb1 : b ≤ 18446744073709551615) :
    Calls Tryz.prog 190 #[.int .u64 a, .int .u64 b] w fun e w' => e = .returned (.int .u64 (orNever (a + b))) ∧ w' = w := by
  by_cases h : a + b ≤ 18446744073709551615
  · have hc := sum_room a b w ha hb h
    rw [orNever, if_pos h]
    go_enter Tryz.func190, Tryz.ntmps190
    go_wp2_with (go_at_call 191; refine hc.mono ?_; rintro e w' ⟨rfl, rfl⟩)
    go_ret
    exact ⟨rfl, rfl⟩
  · have hc := sum_none a b w ha hb ha1 hb1 (by omega)
    rw [orNever, if_neg h]
    go_enter Tryz.func190, Tryz.ntmps190
    go_wp2_with (go_at_call 191; refine hc.mono ?_; rintro e w' ⟨rfl, rfl⟩)
    go_ret
    exact ⟨rfl, rfl⟩
end Go.Proofs.YtnlgndpcddngoaaGreatDoor

namespace Go.Proofs.YtnlgndpcddngoaaGreatDoor
open Go.RowKit

/-- A request, as numbers. -/
structure Rq where
  op : Int
  k0 : Int
  k1 : Int
  k2 : Int
  k3 : Int
  k4 : Int
  k5 : Int
  k6 : Int
  k7 : Int
  kd : Int
  x : Int
  y : Int
  n : Int
def Rq.zero : Rq := ⟨0, 0, 0, 0, 0, 0, 0, 0, 0, 0, 0, 0, 0⟩

/-- What is wrong with bytes (P4): 0: nothing; 1: they end too early; 2: they are no frame. -/
def rdErr (bs : List Int) : Int :=
  match bs with
  | [] => 1
  | b0 :: t => if b0 < 1 ∨ 26 < b0 then 2 else
    match t with
    | [] => 1
    | b1 :: _ => if b0 = reqLen b1 then (if (bs.length : Int) ≤ b0 then 1 else 0) else 2
def rdN (bs : List Int) : Int := if rdErr bs = 0 then bs.getD 0 0 + 1 else 0
def num8 (bs : List Int) (o : Nat) : Int := rdTo (fun j => bs.getD (o + j) 0) 8
def rdQ (bs : List Int) : Rq :=
  if rdErr bs = 0 then
    if bs.getD 1 0 = 1 then ⟨1, bs.getD 2 0, bs.getD 3 0, bs.getD 4 0, bs.getD 5 0, bs.getD 6 0, bs.getD 7 0, bs.getD 8 0, bs.getD 9 0, bs.getD 10 0, num8 bs 11, num8 bs 19, 0⟩
    else if bs.getD 1 0 = 2 then ⟨2, bs.getD 2 0, bs.getD 3 0, bs.getD 4 0, bs.getD 5 0, bs.getD 6 0, bs.getD 7 0, bs.getD 8 0, bs.getD 9 0, 0, 0, 0, num8 bs 10⟩
    else if bs.getD 1 0 = 3 ∨ bs.getD 1 0 = 4 then ⟨bs.getD 1 0, bs.getD 2 0, bs.getD 3 0, bs.getD 4 0, bs.getD 5 0, bs.getD 6 0, bs.getD 7 0, bs.getD 8 0, bs.getD 9 0, 0, 0, 0, 0⟩
    else ⟨bs.getD 1 0, 0, 0, 0, 0, 0, 0, 0, 0, 0, 0, 0, 0⟩
  else Rq.zero

/-- A reply, as numbers. -/
structure Rp where
  c : Int
  a : Int
  b : Int

/-- The bytes of a reply, by the document (P3). -/
def encRep (c a b : Int) : List Int := [17, c] ++ be8 a ++ be8 b

/-- A key. -/
structure Ky where
  k0 : Int
  k1 : Int
  k2 : Int
  k3 : Int
  k4 : Int
  k5 : Int
  k6 : Int
  k7 : Int
abbrev dK := DecidableEq Ky
abbrev iK := Inhabited Ky
variable [dK] [iK]
def Rq.key (q : Rq) : Ky := ⟨q.k0, q.k1, q.k2, q.k3, q.k4, q.k5, q.k6, q.k7⟩
structure Ky.ok (k : Ky) : Prop where
  h0 : 0 ≤ k.k0 ∧ k.k0 ≤ 255
  h1 : 0 ≤ k.k1 ∧ k.k1 ≤ 255
  h2 : 0 ≤ k.k2 ∧ k.k2 ≤ 255
  h3 : 0 ≤ k.k3 ∧ k.k3 ≤ 255
  h4 : 0 ≤ k.k4 ∧ k.k4 ≤ 255
  h5 : 0 ≤ k.k5 ∧ k.k5 ≤ 255
  h6 : 0 ≤ k.k6 ∧ k.k6 ≤ 255
  h7 : 0 ≤ k.k7 ∧ k.k7 ≤ 255

/-- A policy, and how a key stands by it. -/
structure Qt where
  kd : Int
  x : Int
  y : Int
  lv : Int
  wn : Int

/-- There is such a policy. -/
abbrev soundM (kd x y : Int) : Prop := (kd = 1 ∧ 1 ≤ x) ∨ (kd = 2 ∧ 1 ≤ y)
structure Qt.ok (q : Qt) : Prop where
  kd : soundM q.kd q.x q.y
  x : 0 ≤ q.x ∧ q.x ≤ 18446744073709551615
  y : 0 ≤ q.y ∧ q.y ≤ 18446744073709551615
  lv : 0 ≤ q.lv ∧ q.lv ≤ 18446744073709551615
  wn : 0 ≤ q.wn ∧ q.wn ≤ 18446744073709551615

/-- A quota at a time. -/
def turnM (q : Qt) (now : Int) : Qt := if q.kd = 1 then q else if now / q.y = q.wn then q else ⟨q.kd, q.x, q.y, 0, now / q.y⟩
def startM (q : Qt) (now : Int) : Int := if q.lv < now then now else q.lv
/-- P9. -/
def admS (q : Qt) (now n : Int) : Qt × Rp :=
  if n = 0 then (q, ⟨2, q.lv, q.wn⟩)
  else if 18446744073709551615 < startM q now + n * q.x then (q, ⟨3, 18446744073709551615, 0⟩)
  else if q.y < (n - 1) * q.x then (q, ⟨3, 18446744073709551615, 0⟩)
  else if orNever (now + q.y) < startM q now + (n - 1) * q.x then (q, ⟨3, startM q now + (n - 1) * q.x - q.y, 0⟩)
  else (⟨q.kd, q.x, q.y, startM q now + n * q.x, q.wn⟩, ⟨2, startM q now + n * q.x, q.wn⟩)
/-- P10. -/
def admW (q : Qt) (n : Int) : Qt × Rp :=
  if q.lv + n ≤ q.x then (⟨q.kd, q.x, q.y, q.lv + n, q.wn⟩, ⟨2, q.lv + n, q.wn⟩)
  else if q.x < n then (q, ⟨3, 18446744073709551615, 0⟩)
  else (q, ⟨3, orNever (q.wn * q.y + q.y), 0⟩)
/-- What a quota says of itself to an Admit. -/
def admQ (q : Qt) (now n : Int) : Qt × Rp := if q.kd = 1 then admS q now n else admW (turnM q now) n
/-- How a key stands behind an Admit: as it stood, if nothing was let in. -/
def admM (q : Qt) (now n : Int) : Qt × Rp := (if (admQ q now n).2.c = 2 ∧ n ≠ 0 then (admQ q now n).1 else q, (admQ q now n).2)

/-- The keys of a ledger, in the order in which they were defined. -/
def fnd (k : Ky) : List (Ky × Qt) → Option Qt
  | [] => none
  | (k', q) :: r => if k' = k then some q else fnd k r
def upd (k : Ky) (q : Qt) : List (Ky × Qt) → List (Ky × Qt)
  | [] => []
  | (k', q') :: r => if k' = k then (k', q) :: r else (k', q') :: upd k q r
def del (k : Ky) : List (Ky × Qt) → List (Ky × Qt)
  | [] => []
  | (k', q') :: r => if k' = k then r else (k', q') :: del k r

structure Ld where
  time : Int
  adm : Int
  ks : List (Ky × Qt)

structure Ld.ok (L : Ld) : Prop where
  time : 0 ≤ L.time ∧ L.time ≤ 18446744073709551615
  adm : 0 ≤ L.adm ∧ L.adm ≤ 18446744073709551615
  key : ∀ p ∈ L.ks, p.1.ok
  qt : ∀ p ∈ L.ks, p.2.ok
  nd : (L.ks.map Prod.fst).Nodup
  len : L.ks.length ≤ 12

/-- A request is done (P8 to P11, P16). -/
def doM (L : Ld) (q : Rq) : Ld × Rp :=
  if q.op = 1 then
    if ¬ soundM q.kd q.x q.y then (L, ⟨8, 0, 0⟩)
    else if (fnd q.key L.ks).isSome then (L, ⟨9, 0, 0⟩)
    else if 12 ≤ L.ks.length then (L, ⟨5, 0, 0⟩)
    else (⟨L.time, L.adm, L.ks ++ [(q.key, ⟨q.kd, q.x, q.y, 0, 0⟩)]⟩, ⟨1, 0, 0⟩)
  else if q.op = 2 then
    match fnd q.key L.ks with
    | none => (L, ⟨4, 0, 0⟩)
    | some z => (⟨L.time, if (admM z L.time q.n).2.c = 2 then (L.adm + q.n) % 18446744073709551616 else L.adm, upd q.key (admM z L.time q.n).1 L.ks⟩, (admM z L.time q.n).2)
  else if q.op = 3 then
    match fnd q.key L.ks with
    | none => (L, ⟨4, 0, 0⟩)
    | some z => (L, ⟨1, (turnM z L.time).lv, (turnM z L.time).wn⟩)
  else if q.op = 4 then
    match fnd q.key L.ks with
    | none => (L, ⟨4, 0, 0⟩)
    | some _ => (⟨L.time, L.adm, del q.key L.ks⟩, ⟨1, 0, 0⟩)
  else if q.op = 6 then (L, ⟨1, L.time, 0⟩)
  else (L, ⟨1, 0, 0⟩)

/-- The whole frames of bytes are done, one by one: the ledger, the replies, what is left, what is wrong with it. -/
def runM : Nat → Ld → List Int → Ld × List Rp × List Int × Int
  | 0, L, bs => (L, [], bs, rdErr bs)
  | n + 1, L, bs =>
    if rdErr bs = 0 then
      ((runM n (doM L (rdQ bs)).1 (bs.drop (rdN bs).toNat)).1, (doM L (rdQ bs)).2 :: (runM n (doM L (rdQ bs)).1 (bs.drop (rdN bs).toNat)).2.1, (runM n (doM L (rdQ bs)).1 (bs.drop (rdN bs).toNat)).2.2)
    else (L, [], bs, rdErr bs)

/-- A connection: bytes that wait; none more are read. -/
structure Cn where
  waits : List Int
  bad : Bool
def passM (L : Ld) (now : Int) : Ld := ⟨if L.time < now then now else L.time, L.adm, L.ks⟩
/-- Bytes come by a connection (P6, P7). -/
def feedM (L : Ld) (c : Cn) (now : Int) (bs : List Int) : Ld × Cn × List Rp :=
  if c.bad then (passM L now, c, [])
  else
    if (runM (c.waits ++ bs).length (passM L now) (c.waits ++ bs)).2.2.2 = 2 then
      ((runM (c.waits ++ bs).length (passM L now) (c.waits ++ bs)).1, ⟨[], true⟩, (runM (c.waits ++ bs).length (passM L now) (c.waits ++ bs)).2.1 ++ [⟨6, 0, 0⟩])
    else ((runM (c.waits ++ bs).length (passM L now) (c.waits ++ bs)).1, ⟨(runM (c.waits ++ bs).length (passM L now) (c.waits ++ bs)).2.2.1, false⟩, (runM (c.waits ++ bs).length (passM L now) (c.waits ++ bs)).2.1)
def encs (rs : List Rp) : List Int := rs.flatMap fun r => encRep r.c r.a r.b
end Go.Proofs.YtnlgndpcddngoaaGreatDoor

namespace Go.Proofs.YtnlgndpcddngoaaGreatDoor
open Go.RowKit
variable [dK] [iK]

set_option maxRecDepth 100000 in
set_option maxHeartbeats 400000 in
theorem requests_any (w : World) : Calls Tryz.prog 102 #[] w fun e w' => e = .returned (.agg #[.int .u8 1, .int .u8 26, .func (.func 66) #[] #[]]) ∧ Below w.heap.size w w' := by
  go_enter Tryz.func102, Tryz.ntmps102
  go_wp2
  exact bodyPost_ret (v := .agg #[.int .u8 1, .int .u8 26, .func (.func 66) #[] #[]]) (by simp [results, Tryz.results102, go_sem]) rfl ⟨rfl, (Below.refl _ w).alloc (Nat.le_refl _) _⟩

set_option maxRecDepth 100000 in
set_option maxHeartbeats 400000 in
theorem begin0 (ao : Option Addr) (cap : Nat) (w : World) :
    Calls Tryz.prog 132 #[.agg #[.int .u8 1, .int .u8 26, .func (.func 66) #[] #[]], .slice ao 0 cap] w fun e w' => e = .returned (.iface 53 (.int .i64 1)) ∧ Below w.heap.size w w' := by
  go_enter Tryz.func132, Tryz.ntmps132
  go_wp2
  go_ret
  exact ⟨rfl, (Below.refl _ w).alloc (Nat.le_refl _) _⟩

set_option maxRecDepth 100000 in
set_option maxHeartbeats 400000 in
theorem begin1 (g so n cap : Nat) (b0 : Int) (w : World) (hn : 0 < n) (hg : g < w.heap.size) (hc0 : w.cell? ⟨g, so, none⟩ = some (.int .u8 b0)) (hlo : b0 < 1) :
    Calls Tryz.prog 132 #[.agg #[.int .u8 1, .int .u8 26, .func (.func 66) #[] #[]], .slice (some ⟨g, so, none⟩) n cap] w fun e w' => e = .returned (.iface 53 (.int .i64 2)) ∧ Below w.heap.size w w' := by
  have hd : decide (b0 < 1) = true := by simpa using hlo
  have hn0 : ((n : Int) == 0) = false := by simp; omega
  have hc0' : (w.alloc (.cells #[.int .u8 1, .int .u8 26, .func (.func 66) #[] #[]] 209)).cell? ⟨g, so, none⟩ = some (.int .u8 b0) := by rw [World.cell?_alloc_lt _ _ ⟨g, so, none⟩ hg]; exact hc0
  go_enter Tryz.func132, Tryz.ntmps132
  go_wp2
  go_quiet (fail)
  go_wp2
  go_ret
  exact ⟨rfl, below_drewN ((Below.refl _ w).alloc (Nat.le_refl _) _) _⟩

set_option maxRecDepth 100000 in
set_option maxHeartbeats 400000 in
theorem begin2 (g so n cap : Nat) (b0 : Int) (w : World) (hn : 0 < n) (hg : g < w.heap.size) (hc0 : w.cell? ⟨g, so, none⟩ = some (.int .u8 b0)) (hlo : ¬ b0 < 1) (hhi : 26 < b0) :
    Calls Tryz.prog 132 #[.agg #[.int .u8 1, .int .u8 26, .func (.func 66) #[] #[]], .slice (some ⟨g, so, none⟩) n cap] w fun e w' => e = .returned (.iface 53 (.int .i64 2)) ∧ Below w.heap.size w w' := by
  have hd : decide (b0 < 1) = false := by simpa using hlo
  have hd2 : decide (26 < b0) = true := by simpa using hhi
  have hn0 : ((n : Int) == 0) = false := by simp; omega
  have hc0' : (w.alloc (.cells #[.int .u8 1, .int .u8 26, .func (.func 66) #[] #[]] 209)).cell? ⟨g, so, none⟩ = some (.int .u8 b0) := by rw [World.cell?_alloc_lt _ _ ⟨g, so, none⟩ hg]; exact hc0
  go_enter Tryz.func132, Tryz.ntmps132
  go_wp2
  go_quiet (fail)
  go_wp2
  go_ret
  exact ⟨rfl, below_drewN ((Below.refl _ w).alloc (Nat.le_refl _) _) _⟩

set_option maxRecDepth 100000 in
set_option maxHeartbeats 400000 in
theorem begin3 (g so n cap : Nat) (b0 : Int) (w : World) (hn : 0 < n) (hg : g < w.heap.size) (hc0 : w.cell? ⟨g, so, none⟩ = some (.int .u8 b0)) (hlo : ¬ b0 < 1) (hhi : ¬ 26 < b0) (hn1 : ((n : Int) == 1) = true) :
    Calls Tryz.prog 132 #[.agg #[.int .u8 1, .int .u8 26, .func (.func 66) #[] #[]], .slice (some ⟨g, so, none⟩) n cap] w fun e w' => e = .returned (.iface 53 (.int .i64 1)) ∧ Below w.heap.size w w' := by
  have hd : decide (b0 < 1) = false := by simpa using hlo
  have hd2 : decide (26 < b0) = false := by simpa using hhi
  have hn0 : ((n : Int) == 0) = false := by simp; omega
  have hc0' : (w.alloc (.cells #[.int .u8 1, .int .u8 26, .func (.func 66) #[] #[]] 209)).cell? ⟨g, so, none⟩ = some (.int .u8 b0) := by rw [World.cell?_alloc_lt _ _ ⟨g, so, none⟩ hg]; exact hc0
  go_enter Tryz.func132, Tryz.ntmps132
  go_wp2
  go_quiet (fail)
  go_wp2
  go_ret
  exact ⟨rfl, below_drewN ((Below.refl _ w).alloc (Nat.le_refl _) _) _⟩

set_option maxRecDepth 100000 in
set_option maxHeartbeats 400000 in
theorem begin4 (g so n cap : Nat) (b0 b1 : Int) (w : World) (hn : 1 < n) (hg : g < w.heap.size) (hc0 : w.cell? ⟨g, so, none⟩ = some (.int .u8 b0)) (hc1 : w.cell? ⟨g, so + 1, none⟩ = some (.int .u8 b1)) (hlo : ¬ b0 < 1) (hhi : ¬ 26 < b0) :
    Calls Tryz.prog 132 #[.agg #[.int .u8 1, .int .u8 26, .func (.func 66) #[] #[]], .slice (some ⟨g, so, none⟩) n cap] w fun e w' => e = .returned (if b0 = reqLen b1 then .nilIface else .iface 53 (.int .i64 2)) ∧ Below w.heap.size w w' := by
  have hd : decide (b0 < 1) = false := by simpa using hlo
  have hd2 : decide (26 < b0) = false := by simpa using hhi
  have hn0 : ((n : Int) == 0) = false := by simp; omega
  have hn1 : ((n : Int) == 1) = false := by simp; omega
  have hnp : 0 < n := by omega
  have hnI : (1 : Int) < (n : Int) := by omega
  have hwr : IntKind.i64.wrap b0 = b0 := wrap_small b0 (by omega) (by omega)
  have hc0' : (w.alloc (.cells #[.int .u8 1, .int .u8 26, .func (.func 66) #[] #[]] 209)).cell? ⟨g, so, none⟩ = some (.int .u8 b0) := by rw [World.cell?_alloc_lt _ _ ⟨g, so, none⟩ hg]; exact hc0
  have hc1' : (w.alloc (.cells #[.int .u8 1, .int .u8 26, .func (.func 66) #[] #[]] 209)).cell? ⟨g, so + 1, none⟩ = some (.int .u8 b1) := by rw [World.cell?_alloc_lt _ _ ⟨g, so + 1, none⟩ hg]; exact hc1
  by_cases heq : b0 = reqLen b1
  · rw [if_pos heq]
    have hb : (b0 != reqLen b1) = false := by simpa using heq
    have HQ := hide heq
    clear heq
    go_enter Tryz.func132, Tryz.ntmps132
    go_wp2
    go_quiet (fail)
    go_wp2
    go_quiet ((go_at_call 66; refine (len_any _ _).mono ?_; rintro e w2 ⟨rfl, rfl⟩; exact ⟨rfl, _, rfl⟩))
    go_wp2
    go_ret
    exact ⟨rfl, below_drewN (below_drewN ((Below.refl _ w).alloc (Nat.le_refl _) _) _) _⟩
  · rw [if_neg heq]
    have hb : (b0 != reqLen b1) = true := by simpa using heq
    go_enter Tryz.func132, Tryz.ntmps132
    go_wp2
    go_quiet (fail)
    go_wp2
    go_quiet ((go_at_call 66; refine (len_any _ _).mono ?_; rintro e w2 ⟨rfl, rfl⟩; exact ⟨rfl, _, rfl⟩))
    go_wp2
    go_ret
    exact ⟨rfl, below_drewN ((Below.refl _ w).alloc (Nat.le_refl _) _) _⟩
end Go.Proofs.YtnlgndpcddngoaaGreatDoor

namespace Go.Proofs.YtnlgndpcddngoaaGreatDoor
open Go.RowKit
variable [dK] [iK]

theorem fnd_upd_same {k : Ky} {q : Qt} : ∀ {ks : List (Ky × Qt)}, (fnd k ks).isSome = true → fnd k (upd k q ks) = some q
  | [], h => by simp [fnd] at h
  | (k', q') :: r, h => by
    unfold upd
    by_cases e : k' = k
    · simp [e, fnd]
    · rw [if_neg e]
      unfold fnd at h ⊢
      rw [if_neg e] at h ⊢
      exact fnd_upd_same h
theorem fnd_upd_other {k k' : Ky} {q : Qt} (hne : k' ≠ k) : ∀ {ks : List (Ky × Qt)}, fnd k' (upd k q ks) = fnd k' ks
  | [] => rfl
  | (k2, q2) :: r => by
    unfold upd
    by_cases e : k2 = k
    · subst e
      rw [if_pos rfl]
      unfold fnd
      rw [if_neg (fun h => hne h.symm), if_neg (fun h => hne h.symm)]
    · rw [if_neg e]
      unfold fnd
      rw [fnd_upd_other hne]
theorem length_upd {k : Ky} {q : Qt} : ∀ {ks : List (Ky × Qt)}, (upd k q ks).length = ks.length
  | [] => rfl
  | (k2, q2) :: r => by
    unfold upd
    split
    · rfl
    · simp [length_upd]
theorem fnd_app {k : Ky} {q : Qt} (k' : Ky) : ∀ {ks : List (Ky × Qt)}, fnd k' (ks ++ [(k, q)]) = if (fnd k' ks).isSome then fnd k' ks else if k = k' then some q else none
  | [] => by simp [fnd]
  | (k2, q2) :: r => by
    show fnd k' ((k2, q2) :: (r ++ [(k, q)])) = _
    unfold fnd
    by_cases e : k2 = k'
    · simp [e]
    · rw [if_neg e, if_neg e]
      exact fnd_app k'
theorem fnd_none_of {k : Ky} : ∀ {ks : List (Ky × Qt)}, k ∉ ks.map Prod.fst → fnd k ks = none
  | [], _ => rfl
  | (k2, q2) :: r, h => by
    simp at h
    unfold fnd
    rw [if_neg (fun e => h.1 e.symm)]
    exact fnd_none_of (by simpa using h.2)
theorem fnd_del_same {k : Ky} : ∀ {ks : List (Ky × Qt)}, (ks.map Prod.fst).Nodup → fnd k (del k ks) = none
  | [], _ => rfl
  | (k2, q2) :: r, h => by
    simp only [List.map_cons, List.nodup_cons] at h
    unfold del
    by_cases e : k2 = k
    · subst e
      rw [if_pos rfl]
      exact fnd_none_of h.1
    · rw [if_neg e]
      unfold fnd
      rw [if_neg e]
      exact fnd_del_same h.2
theorem fnd_del_other {k k' : Ky} (hne : k' ≠ k) : ∀ {ks : List (Ky × Qt)}, fnd k' (del k ks) = fnd k' ks
  | [] => rfl
  | (k2, q2) :: r => by
    unfold del
    by_cases e : k2 = k
    · subst e
      rw [if_pos rfl]
      show _ = fnd k' ((k2, q2) :: r)
      unfold fnd
      rw [if_neg (fun h => hne h.symm)]
      cases r <;> rfl
    · rw [if_neg e]
      unfold fnd
      rw [fnd_del_other hne]
theorem length_del {k : Ky} : ∀ {ks : List (Ky × Qt)}, (fnd k ks).isSome = true → (del k ks).length + 1 = ks.length
  | [], h => by simp [fnd] at h
  | (k2, q2) :: r, h => by
    unfold del
    by_cases e : k2 = k
    · simp [e]
    · rw [if_neg e]
      unfold fnd at h
      rw [if_neg e] at h
      simp [length_del h]
end Go.Proofs.YtnlgndpcddngoaaGreatDoor

namespace Go.Proofs.YtnlgndpcddngoaaGreatDoor
open Go.RowKit
variable [dK] [iK]

structure Rp.ok (r : Rp) : Prop where
  c : 0 ≤ r.c ∧ r.c ≤ 255
  a : 0 ≤ r.a ∧ r.a ≤ 18446744073709551615
  b : 0 ≤ r.b ∧ r.b ≤ 18446744073709551615
structure Rq.ok (q : Rq) : Prop where
  key : q.key.ok
  x : 0 ≤ q.x ∧ q.x ≤ 18446744073709551615
  y : 0 ≤ q.y ∧ q.y ≤ 18446744073709551615
  n : 0 ≤ q.n ∧ q.n ≤ 18446744073709551615
def Bytes (bs : List Int) : Prop := ∀ b ∈ bs, 0 ≤ b ∧ b ≤ 255
theorem Bytes.getD {bs : List Int} (h : Bytes bs) (j : Nat) : 0 ≤ bs.getD j 0 ∧ bs.getD j 0 ≤ 255 := by
  by_cases hj : j < bs.length
  · have e : bs.getD j 0 = bs[j] := by simp [List.getD, List.getElem?_eq_getElem hj]
    rw [e]; exact h _ (List.getElem_mem hj)
  · have e : bs.getD j 0 = 0 := by simp [List.getD, List.getElem?_eq_none (Nat.le_of_not_lt hj)]
    rw [e]; omega
theorem Bytes.drop {bs : List Int} (h : Bytes bs) (n : Nat) : Bytes (bs.drop n) := fun b hb => h b (List.mem_of_mem_drop hb)
theorem Bytes.app {a b : List Int} (ha : Bytes a) (hb : Bytes b) : Bytes (a ++ b) := fun x hx => (List.mem_append.1 hx).elim (ha x) (hb x)

theorem num8_ok (bs : List Int) (h : Bytes bs) (o : Nat) : 0 ≤ num8 bs o ∧ num8 bs o ≤ 18446744073709551615 := by
  have := rdTo_bound (fun j => bs.getD (o + j) 0) (fun j => h.getD (o + j)) 8
  unfold num8
  have e : (256 : Int) ^ 8 = 18446744073709551616 := by decide
  omega
theorem rdQ_ok (bs : List Int) (h : Bytes bs) : (rdQ bs).ok := by
  have z : (0 : Int) ≤ 0 ∧ (0 : Int) ≤ 255 := by omega
  have z' : (0 : Int) ≤ 0 ∧ (0 : Int) ≤ 18446744073709551615 := by omega
  unfold rdQ
  split
  · split
    · exact ⟨⟨h.getD 2, h.getD 3, h.getD 4, h.getD 5, h.getD 6, h.getD 7, h.getD 8, h.getD 9⟩, num8_ok bs h 11, num8_ok bs h 19, z'⟩
    · split
      · exact ⟨⟨h.getD 2, h.getD 3, h.getD 4, h.getD 5, h.getD 6, h.getD 7, h.getD 8, h.getD 9⟩, z', z', num8_ok bs h 10⟩
      · split
        · exact ⟨⟨h.getD 2, h.getD 3, h.getD 4, h.getD 5, h.getD 6, h.getD 7, h.getD 8, h.getD 9⟩, z', z', z'⟩
        · exact ⟨⟨z, z, z, z, z, z, z, z⟩, z', z', z'⟩
  · exact ⟨⟨z, z, z, z, z, z, z, z⟩, z', z', z'⟩
theorem rdErr_cases (bs : List Int) : rdErr bs = 0 ∨ rdErr bs = 1 ∨ rdErr bs = 2 := by
  unfold rdErr
  split
  · omega
  · split
    · omega
    · split
      · omega
      · split
        · split <;> omega
        · omega
theorem reqLen_pos {b : Int} : reqLen b = 0 ∨ 1 ≤ reqLen b ∧ reqLen b ≤ 26 := by
  unfold reqLen; repeat' split <;> omega
/-- A whole frame has two bytes or more, and no more than there are. -/
theorem rdN_ok (bs : List Int) (h : rdErr bs = 0) : 2 ≤ (rdN bs).toNat ∧ (rdN bs).toNat ≤ bs.length ∧ rdN bs = ((rdN bs).toNat : Int) ∧ (rdN bs).toNat ≤ 27 := by
  have hn : rdN bs = bs.getD 0 0 + 1 := by unfold rdN; rw [if_pos h]
  cases bs with
  | nil => simp [rdErr] at h
  | cons b0 t =>
    cases t with
    | nil =>
      simp only [rdErr] at h
      split at h <;> omega
    | cons b1 r =>
      simp only [rdErr] at h
      split at h
      · omega
      · split at h
        · split at h
          · omega
          · rw [hn]
            have e : (b0 :: b1 :: r).getD 0 0 = b0 := rfl
            rw [e]
            simp only [List.length_cons] at *
            omega
        · omega

theorem orNever_ok (x : Int) (h : 0 ≤ x) : 0 ≤ orNever x ∧ orNever x ≤ 18446744073709551615 := by unfold orNever; split <;> omega
theorem startM_ok (q : Qt) (now : Int) (hq : q.ok) (h0 : 0 ≤ now) : 0 ≤ startM q now := by unfold startM; have := hq.lv; split <;> omega
theorem turnM_ok' (q : Qt) (now : Int) (hq : q.ok) (h0 : 0 ≤ now) (h1 : now ≤ 18446744073709551615) : (turnM q now).ok := by
  unfold turnM
  split
  · exact hq
  · split
    · exact hq
    · rcases hq.kd with ⟨hk, _⟩ | ⟨hk, hy⟩
      · contradiction
      · have d0 : 0 ≤ now / q.y := Int.ediv_nonneg h0 (by omega)
        have d1 : now / q.y ≤ now := Int.ediv_le_self q.y h0
        exact ⟨hq.kd, hq.x, hq.y, ⟨by simp, by simp⟩, ⟨d0, by show now / q.y ≤ _; omega⟩⟩
theorem admQ_ok (q : Qt) (now n : Int) (hq : q.ok) (h0 : 0 ≤ now) (h1 : now ≤ 18446744073709551615) (n0 : 0 ≤ n) : (admQ q now n).1.ok ∧ (admQ q now n).2.ok ∧ ((admQ q now n).2.c = 2 ∨ (admQ q now n).2.c = 3) := by
  have hx := hq.x; have hy := hq.y; have hl := hq.lv; have hw := hq.wn
  have hs := startM_ok q now hq h0
  unfold admQ
  split
  · have hkx : 1 ≤ q.x := by rcases hq.kd with h | h <;> omega
    unfold admS
    split
    · exact ⟨hq, ⟨by simp, hl, hw⟩, Or.inl rfl⟩
    · have hp0 : 0 ≤ n * q.x := Int.mul_nonneg n0 (by omega)
      have hn1 : 0 ≤ (n - 1) * q.x := Int.mul_nonneg (by omega) (by omega)
      have hnx : n * q.x = (n - 1) * q.x + q.x := by rw [Int.sub_mul]; omega
      split
      · exact ⟨hq, ⟨by simp, by simp, by simp⟩, Or.inr rfl⟩
      · split
        · exact ⟨hq, ⟨by simp, by simp, by simp⟩, Or.inr rfl⟩
        · split
          · rename_i c3
            refine ⟨hq, ⟨by simp, ?_, by simp⟩, Or.inr rfl⟩
            unfold orNever at c3
            show 0 ≤ startM q now + (n - 1) * q.x - q.y ∧ startM q now + (n - 1) * q.x - q.y ≤ 18446744073709551615
            split at c3 <;> omega
          · have h2 : 0 ≤ startM q now + n * q.x ∧ startM q now + n * q.x ≤ 18446744073709551615 := by omega
            exact ⟨⟨hq.kd, hx, hy, h2, hw⟩, ⟨by simp, h2, hw⟩, Or.inl rfl⟩
  · have ht := turnM_ok' q now hq h0 h1
    have tl := ht.lv; have tx := ht.x; have ty := ht.y; have tw := ht.wn
    unfold admW
    split
    · have h2 : 0 ≤ (turnM q now).lv + n ∧ (turnM q now).lv + n ≤ 18446744073709551615 := by omega
      exact ⟨⟨ht.kd, tx, ty, h2, tw⟩, ⟨by simp, h2, tw⟩, Or.inl rfl⟩
    · split
      · exact ⟨ht, ⟨by simp, by simp, by simp⟩, Or.inr rfl⟩
      · refine ⟨ht, ⟨by simp, orNever_ok _ ?_, by simp⟩, Or.inr rfl⟩
        have := Int.mul_nonneg tw.1 ty.1
        omega
theorem admM_ok (q : Qt) (now n : Int) (hq : q.ok) (h0 : 0 ≤ now) (h1 : now ≤ 18446744073709551615) (n0 : 0 ≤ n) : (admM q now n).1.ok ∧ (admM q now n).2.ok ∧ ((admM q now n).2.c = 2 ∨ (admM q now n).2.c = 3) := by
  obtain ⟨a1, a2, a3⟩ := admQ_ok q now n hq h0 h1 n0
  refine ⟨?_, a2, a3⟩
  unfold admM
  dsimp only
  split
  · exact a1
  · exact hq
theorem upd_same {k : Ky} {q : Qt} : ∀ {ks : List (Ky × Qt)}, fnd k ks = some q → upd k q ks = ks
  | [], _ => rfl
  | (k2, q2) :: r, h => by
    unfold fnd at h
    unfold upd
    split at h
    · rename_i e
      injection h with h
      rw [if_pos e, h]
    · rename_i e
      rw [if_neg e, upd_same h]

theorem fnd_mem {k : Ky} {q : Qt} : ∀ {ks : List (Ky × Qt)}, fnd k ks = some q → (k, q) ∈ ks
  | [], h => by simp [fnd] at h
  | (k2, q2) :: r, h => by
    unfold fnd at h
    split at h
    · rename_i e
      subst e
      injection h with h
      subst h
      exact List.mem_cons_self
    · exact List.mem_cons_of_mem _ (fnd_mem h)
theorem mem_upd {k : Ky} {q : Qt} {p : Ky × Qt} : ∀ {ks : List (Ky × Qt)}, p ∈ upd k q ks → p ∈ ks ∨ p = (k, q)
  | [], h => by simp [upd] at h
  | (k2, q2) :: r, h => by
    unfold upd at h
    split at h
    · rename_i e
      subst e
      rcases List.mem_cons.1 h with h | h
      · exact Or.inr h
      · exact Or.inl (List.mem_cons_of_mem _ h)
    · rcases List.mem_cons.1 h with h | h
      · exact Or.inl (h ▸ List.mem_cons_self)
      · exact (mem_upd h).imp (List.mem_cons_of_mem _) id
theorem map_upd {k : Ky} {q : Qt} : ∀ {ks : List (Ky × Qt)}, (upd k q ks).map Prod.fst = ks.map Prod.fst
  | [] => rfl
  | (k2, q2) :: r => by
    unfold upd
    split
    · rfl
    · simp [map_upd]
theorem del_sub {k : Ky} : ∀ {ks : List (Ky × Qt)}, (del k ks).Sublist ks
  | [] => List.Sublist.slnil
  | (k2, q2) :: r => by
    unfold del
    split
    · exact List.sublist_cons_self _ _
    · exact del_sub.cons_cons _
theorem fnd_none_not {k : Ky} : ∀ {ks : List (Ky × Qt)}, fnd k ks = none → k ∉ ks.map Prod.fst
  | [], _ => by simp
  | (k2, q2) :: r, h => by
    unfold fnd at h
    split at h
    · simp at h
    · rename_i e
      simp only [List.map_cons, List.mem_cons, not_or]
      exact ⟨fun h' => e h'.symm, fnd_none_not h⟩

theorem doM_ok (L : Ld) (q : Rq) (hL : L.ok) (hq : q.ok) : (doM L q).1.ok ∧ (doM L q).2.ok := by
  have ht := hL.time
  have s1 : ∀ c : Int, 0 ≤ c → c ≤ 255 → (⟨c, 0, 0⟩ : Rp).ok := fun c h h' => ⟨⟨h, h'⟩, by simp, by simp⟩
  unfold doM
  split
  · split
    · exact ⟨hL, s1 8 (by omega) (by omega)⟩
    · split
      · exact ⟨hL, s1 9 (by omega) (by omega)⟩
      · split
        · exact ⟨hL, s1 5 (by omega) (by omega)⟩
        · rename_i hso hf hlen
          refine ⟨⟨ht, hL.adm, ?_, ?_, ?_, ?_⟩, s1 1 (by omega) (by omega)⟩
          · intro p hp
            rcases List.mem_append.1 hp with h | h
            · exact hL.key p h
            · simp at h; subst h; exact hq.key
          · intro p hp
            rcases List.mem_append.1 hp with h | h
            · exact hL.qt p h
            · simp at h; subst h
              exact ⟨Decidable.not_not.1 hso, hq.x, hq.y, by simp, by simp⟩
          · rw [List.map_append]
            refine List.nodup_append.2 ⟨hL.nd, by simp, ?_⟩
            intro a ha b hb e
            simp at hb
            subst hb e
            exact fnd_none_not (by simpa using hf) ha
          · show (L.ks ++ [_]).length ≤ 12
            simp; omega
  · split
    · cases hf : fnd q.key L.ks with
      | none => exact ⟨hL, s1 4 (by omega) (by omega)⟩
      | some z =>
        have hz := hL.qt _ (fnd_mem hf)
        obtain ⟨g1, g2, _⟩ := admM_ok z L.time q.n hz ht.1 ht.2 hq.n.1
        refine ⟨⟨ht, ?_, ?_, ?_, ?_, ?_⟩, g2⟩
        · have ha := hL.adm
          dsimp only
          split <;> omega
        · intro p hp
          rcases mem_upd hp with h | h
          · exact hL.key p h
          · rw [h]; exact hq.key
        · intro p hp
          rcases mem_upd hp with h | h
          · exact hL.qt p h
          · rw [h]; exact g1
        · show ((upd _ _ _).map Prod.fst).Nodup
          rw [map_upd]; exact hL.nd
        · show (upd _ _ _).length ≤ 12
          rw [length_upd]; exact hL.len
    · split
      · cases hf : fnd q.key L.ks with
        | none => exact ⟨hL, s1 4 (by omega) (by omega)⟩
        | some z =>
          have hz := turnM_ok' z L.time (hL.qt _ (fnd_mem hf)) ht.1 ht.2
          exact ⟨hL, ⟨by simp, hz.lv, hz.wn⟩⟩
      · split
        · cases hf : fnd q.key L.ks with
          | none => exact ⟨hL, s1 4 (by omega) (by omega)⟩
          | some z =>
            refine ⟨⟨ht, hL.adm, fun p hp => hL.key p (del_sub.subset hp), fun p hp => hL.qt p (del_sub.subset hp), (del_sub.map _).nodup hL.nd, ?_⟩, s1 1 (by omega) (by omega)⟩
            exact Nat.le_trans del_sub.length_le hL.len
        · split
          · exact ⟨hL, ⟨by simp, ht, by simp⟩⟩
          · exact ⟨hL, s1 1 (by omega) (by omega)⟩

/-- As runM, with fuel enough. -/
theorem runM_fuel : ∀ (n : Nat) (L : Ld) (bs : List Int), bs.length ≤ n → runM n L bs = runM bs.length L bs := by
  intro n
  induction n using Nat.strongRecOn with
  | ind n ih =>
    intro L bs h
    cases n with
    | zero => rw [show bs.length = 0 by omega]
    | succ n =>
      cases hb : bs.length with
      | zero =>
        have e : bs = [] := List.length_eq_zero_iff.1 hb
        subst e
        simp [runM, rdErr]
      | succ m =>
        unfold runM
        by_cases h0 : rdErr bs = 0
        · rw [if_pos h0, if_pos h0]
          obtain ⟨r1, r2, _, _⟩ := rdN_ok bs h0
          have hl : (bs.drop (rdN bs).toNat).length ≤ m := by rw [List.length_drop]; omega
          rw [ih n (by omega) _ _ (by omega), ih m (by omega) _ _ hl]
        · rw [if_neg h0, if_neg h0]
def runL (L : Ld) (bs : List Int) : Ld × List Rp × List Int × Int := runM bs.length L bs
theorem runL_stop (L : Ld) (bs : List Int) (h : rdErr bs ≠ 0) : runL L bs = (L, [], bs, rdErr bs) := by
  unfold runL
  cases hb : bs.length with
  | zero => rfl
  | succ n => unfold runM; rw [if_neg h]
theorem runL_step (L : Ld) (bs : List Int) (h : rdErr bs = 0) : runL L bs = ((runL (doM L (rdQ bs)).1 (bs.drop (rdN bs).toNat)).1, (doM L (rdQ bs)).2 :: (runL (doM L (rdQ bs)).1 (bs.drop (rdN bs).toNat)).2.1, (runL (doM L (rdQ bs)).1 (bs.drop (rdN bs).toNat)).2.2) := by
  obtain ⟨r1, r2, _, _⟩ := rdN_ok bs h
  have e : runL L bs = runM bs.length L bs := rfl
  rw [e]
  cases hb : bs.length with
  | zero => omega
  | succ n =>
    unfold runM
    rw [if_pos h, runM_fuel n _ _ (by rw [List.length_drop]; omega)]
    rfl
end Go.Proofs.YtnlgndpcddngoaaGreatDoor

namespace Go.Proofs.YtnlgndpcddngoaaGreatDoor
open Go.RowKit Go.Maps
variable [dK] [iK]

/-! Maps as lists, whatever the keys and the elements. -/
section
variable {K V : Type} [DecidableEq K]
def fndG (k : K) : List (K × V) → Option V
  | [] => none
  | (k', v) :: r => if k' = k then some v else fndG k r
def updG (k : K) (v : V) : List (K × V) → List (K × V)
  | [] => []
  | (k', v') :: r => if k' = k then (k', v) :: r else (k', v') :: updG k v r
def delG (k : K) : List (K × V) → List (K × V)
  | [] => []
  | (k', v') :: r => if k' = k then r else (k', v') :: delG k r
def putG (k : K) (v : V) (ks : List (K × V)) : List (K × V) := if (fndG k ks).isSome then updG k v ks else ks ++ [(k, v)]

theorem fndG_upd_same {k : K} {q : V} : ∀ {ks : List (K × V)}, (fndG k ks).isSome = true → fndG k (updG k q ks) = some q
  | [], h => by simp [fndG] at h
  | (k', q') :: r, h => by
    unfold updG
    by_cases e : k' = k
    · simp [e, fndG]
    · rw [if_neg e]
      unfold fndG at h ⊢
      rw [if_neg e] at h ⊢
      exact fndG_upd_same h
theorem fndG_upd_other {k k' : K} {q : V} (hne : k' ≠ k) : ∀ {ks : List (K × V)}, fndG k' (updG k q ks) = fndG k' ks
  | [] => rfl
  | (k2, q2) :: r => by
    unfold updG
    by_cases e : k2 = k
    · subst e
      rw [if_pos rfl]
      unfold fndG
      rw [if_neg (fun h => hne h.symm), if_neg (fun h => hne h.symm)]
    · rw [if_neg e]
      unfold fndG
      rw [fndG_upd_other hne]
theorem lengthG_upd {k : K} {q : V} : ∀ {ks : List (K × V)}, (updG k q ks).length = ks.length
  | [] => rfl
  | (k2, q2) :: r => by
    unfold updG
    split
    · rfl
    · simp [lengthG_upd]
theorem fndG_app {k : K} {q : V} (k' : K) : ∀ {ks : List (K × V)}, fndG k' (ks ++ [(k, q)]) = if (fndG k' ks).isSome then fndG k' ks else if k = k' then some q else none
  | [] => by simp [fndG]
  | (k2, q2) :: r => by
    show fndG k' ((k2, q2) :: (r ++ [(k, q)])) = _
    unfold fndG
    by_cases e : k2 = k'
    · simp [e]
    · rw [if_neg e, if_neg e]
      exact fndG_app k'
theorem fndG_none_of {k : K} : ∀ {ks : List (K × V)}, k ∉ ks.map Prod.fst → fndG k ks = none
  | [], _ => rfl
  | (k2, q2) :: r, h => by
    simp at h
    unfold fndG
    rw [if_neg (fun e => h.1 e.symm)]
    exact fndG_none_of (by simpa using h.2)
theorem fndG_none_not {k : K} : ∀ {ks : List (K × V)}, fndG k ks = none → k ∉ ks.map Prod.fst
  | [], _ => by simp
  | (k2, q2) :: r, h => by
    unfold fndG at h
    split at h
    · simp at h
    · rename_i e
      simp only [List.map_cons, List.mem_cons, not_or]
      exact ⟨fun h' => e h'.symm, fndG_none_not h⟩
theorem fndG_mem {k : K} {q : V} : ∀ {ks : List (K × V)}, fndG k ks = some q → (k, q) ∈ ks
  | [], h => by simp [fndG] at h
  | (k2, q2) :: r, h => by
    unfold fndG at h
    split at h
    · rename_i e
      subst e
      injection h with h
      subst h
      exact List.mem_cons_self
    · exact List.mem_cons_of_mem _ (fndG_mem h)
theorem fndG_of_mem {k : K} {q : V} : ∀ {ks : List (K × V)}, (ks.map Prod.fst).Nodup → (k, q) ∈ ks → fndG k ks = some q
  | [], _, h => by simp at h
  | (k2, q2) :: r, hn, h => by
    simp only [List.map_cons, List.nodup_cons] at hn
    unfold fndG
    rcases List.mem_cons.1 h with h | h
    · injection h with h1 h2
      subst h1 h2
      rw [if_pos rfl]
    · have hne : ¬ k2 = k := by
        intro e
        subst e
        exact hn.1 (List.mem_map.2 ⟨(k2, q), h, rfl⟩)
      rw [if_neg hne]
      exact fndG_of_mem hn.2 h
theorem fndG_del_same {k : K} : ∀ {ks : List (K × V)}, (ks.map Prod.fst).Nodup → fndG k (delG k ks) = none
  | [], _ => rfl
  | (k2, q2) :: r, h => by
    simp only [List.map_cons, List.nodup_cons] at h
    unfold delG
    by_cases e : k2 = k
    · subst e
      rw [if_pos rfl]
      exact fndG_none_of h.1
    · rw [if_neg e]
      unfold fndG
      rw [if_neg e]
      exact fndG_del_same h.2
theorem fndG_del_other {k k' : K} (hne : k' ≠ k) : ∀ {ks : List (K × V)}, fndG k' (delG k ks) = fndG k' ks
  | [] => rfl
  | (k2, q2) :: r => by
    unfold delG
    by_cases e : k2 = k
    · subst e
      rw [if_pos rfl]
      show _ = fndG k' ((k2, q2) :: r)
      unfold fndG
      rw [if_neg (fun h => hne h.symm)]
      cases r <;> rfl
    · rw [if_neg e]
      unfold fndG
      rw [fndG_del_other hne]
theorem lengthG_del {k : K} : ∀ {ks : List (K × V)}, (fndG k ks).isSome = true → (delG k ks).length + 1 = ks.length
  | [], h => by simp [fndG] at h
  | (k2, q2) :: r, h => by
    unfold delG
    by_cases e : k2 = k
    · simp [e]
    · rw [if_neg e]
      unfold fndG at h
      rw [if_neg e] at h
      simp [lengthG_del h]
theorem mapG_upd {k : K} {q : V} : ∀ {ks : List (K × V)}, (updG k q ks).map Prod.fst = ks.map Prod.fst
  | [] => rfl
  | (k2, q2) :: r => by
    unfold updG
    split
    · rfl
    · simp [mapG_upd]
theorem delG_sub {k : K} : ∀ {ks : List (K × V)}, (delG k ks).Sublist ks
  | [] => List.Sublist.slnil
  | (k2, q2) :: r => by
    unfold delG
    split
    · exact List.sublist_cons_self _ _
    · exact delG_sub.cons_cons _
theorem putG_length (k : K) (v : V) (ks : List (K × V)) : (putG k v ks).length ≤ ks.length + 1 := by
  unfold putG
  split
  · rw [lengthG_upd]; omega
  · simp
theorem mem_updG {k : K} {q : V} {p : K × V} : ∀ {ks : List (K × V)}, p ∈ updG k q ks → p ∈ ks ∨ p = (k, q)
  | [], h => by simp [updG] at h
  | (k2, q2) :: r, h => by
    unfold updG at h
    split at h
    · rename_i e
      subst e
      rcases List.mem_cons.1 h with h | h
      · exact Or.inr h
      · exact Or.inl (List.mem_cons_of_mem _ h)
    · rcases List.mem_cons.1 h with h | h
      · exact Or.inl (h ▸ List.mem_cons_self)
      · exact (mem_updG h).imp (List.mem_cons_of_mem _) id
theorem mem_putG {k : K} {q : V} {p : K × V} {ks : List (K × V)} (h : p ∈ putG k q ks) : p ∈ ks ∨ p = (k, q) := by
  unfold putG at h
  split at h
  · exact mem_updG h
  · simpa using List.mem_append.1 h
theorem putG_nodup {k : K} {q : V} {ks : List (K × V)} (h : (ks.map Prod.fst).Nodup) : ((putG k q ks).map Prod.fst).Nodup := by
  unfold putG
  split
  · rw [mapG_upd]; exact h
  · rename_i hf
    rw [List.map_append]
    refine List.nodup_append.2 ⟨h, by simp, ?_⟩
    intro a ha b hb e
    simp at hb
    subst hb e
    exact fndG_none_not (by simpa using hf) ha
end

def heldE (v : Value) : Option (DataW Value × List MemPlace) := some (.held v, [])

/-- How keys of a kind lie in a map. -/
structure MKey (P : Program) (kt : TypeId) {K : Type} (ok : K → Prop) (kv : K → Value) (kl : K → Lit) : Prop where
  keyed : Keyed P kt
  key : ∀ k, ok k → keyOf P kt (kv k) = some (kl k)
  inj : ∀ k k', ok k → ok k' → kl k = kl k' → k = k'

section
variable {P : Program} {kt : TypeId} {K : Type} {ok : K → Prop} {kv : K → Value} {kl : K → Lit}
theorem lookG_nil (M : MKey P kt ok kv kl) {w : World} {k : K} (hk : ok k) {t e : TypeId} (ht : P.underlying t = some (.map kt e)) {z : Value} (hz : (zeroValue e).run P w = .ok z w) : (Instr.lookup t (.map none) (kv k) true).run P w = .ok (.tuple #[z, .bool false]) w :=
  Maps.look_nil (w := w) true M.keyed ht hz (M.key k hk)
/-- The key's value is known by its sign. -/
theorem MKey.val (M : MKey P kt ok kv kl) {key : Value} {l : Lit} (h : keyOf P kt key = some l) {k : K} (hk : ok k) (e : l = kl k) : key = kv k :=
  M.keyed.inj h (e ▸ M.key k hk)
end
section
variable {P : Program} {kt : TypeId} {K V : Type} [DecidableEq K] {ok : K → Prop} {kv : K → Value} {kl : K → Lit} {ev : V → Value}

/-- D is a map that holds just these. -/
structure DatG (ok : K → Prop) (kl : K → Lit) (ev : V → Value) (D : DataW Value) (ks : List (K × V)) : Prop where
  has : ∀ k, ok k → Maps.has D (kl k) = (fndG k ks).isSome
  at_ : ∀ k v z, ok k → fndG k ks = some v → D.atKey (kl k) z = .held (ev v)
  size : Maps.size D = ks.length
  shut : ∀ l, Maps.has D l = true → ∃ k, ok k ∧ l = kl k
/-- Block b is a map that holds just these. -/
def MapG (P : Program) (kt : TypeId) (ok : K → Prop) (kl : K → Lit) (ev : V → Value) (w : World) (b : Nat) (ks : List (K × V)) : Prop :=
  ∃ n D, w.ownsMap P kt heldE b n D ∧ DatG ok kl ev D ks

theorem MapG.lt {w : World} {b : Nat} {ks : List (K × V)} (h : MapG P kt ok kl ev w b ks) : b < w.heap.size := by
  obtain ⟨n, D, h, _⟩ := h; exact h.lt
theorem MapG.kept {w w' : World} {b : Nat} {ks : List (K × V)} (h : MapG P kt ok kl ev w b ks) (hb : w'.heap[b]? = w.heap[b]?) : MapG P kt ok kl ev w' b ks := by
  obtain ⟨n, D, ⟨es, clock, h1, h2⟩, h3⟩ := h
  exact ⟨n, D, ⟨es, clock, hb.trans h1, h2⟩, h3⟩
theorem MapG.ne {w : World} {b : Nat} {ks : List (K × V)} (h : MapG P kt ok kl ev w b ks) {g : Nat} {c : Array Value} {t : TypeId} {fr : Nat × Nat} (hg : w.heap[g]? = some (.cells c t fr)) : b ≠ g := by
  intro e
  subst e
  obtain ⟨_, _, ⟨es, clock, g1, _⟩, _⟩ := h
  rw [hg] at g1; simp at g1
theorem DatG.nil : DatG (V := V) ok kl ev (.map []) ([] : List (K × V)) :=
  ⟨fun _ _ => rfl, fun _ _ _ _ h => by simp [fndG] at h, rfl, fun l h => by simp [Maps.has] at h⟩
theorem MapG.made (w : World) : MapG (V := V) P kt ok kl ev (w.alloc (.map #[] 0)) w.heap.size ([] : List (K × V)) :=
  ⟨0, .map [], World.ownsMap_made w _ _ _, DatG.nil⟩
theorem MapG.empty {w : World} {b : Nat} (h : w.heap[b]? = some (.map #[] 0)) : MapG (V := V) P kt ok kl ev w b ([] : List (K × V)) := by
  obtain ⟨es, clock, h1, h2⟩ := World.ownsMap_made (H := Value) (default : World) P kt heldE
  have e := MapKept.heap_alloc (default : World) (.map #[] 0)
  rw [e.1] at h1
  injection h1 with h1
  injection h1 with h1 h3
  subst h1 h3
  exact ⟨0, .map [], ⟨_, _, h, h2⟩, DatG.nil⟩

def lookG (ev : V → Value) (z : Value) : Option V → Value
  | some v => ev v
  | none => z
theorem MapG.look (M : MKey P kt ok kv kl) {w : World} {b : Nat} {ks : List (K × V)} (h : MapG P kt ok kl ev w b ks) {k : K} (hk : ok k) {t e : TypeId} (ht : P.underlying t = some (.map kt e)) {z : Value} (hz : (zeroValue e).run P w = .ok z w) :
    (Instr.lookup t (.map (some b)) (kv k) true).run P w = .ok (.tuple #[lookG ev z (fndG k ks), .bool (fndG k ks).isSome]) w := by
  obtain ⟨n, D, ho, hD⟩ := h
  obtain ⟨v, ps, hrun, hv⟩ := ho.look_ok M.keyed ht hz (zd := .held z) (zp := []) rfl (M.key k hk)
  have hv' : DataW.held v = D.atKey (kl k) (.held z) := by
    have := congrArg (Option.map Prod.fst) hv
    simpa [heldE] using this
  have hvv : v = lookG ev z (fndG k ks) := by
    cases hf : fndG k ks with
    | none =>
      rw [atKey_of_not_has (by rw [hD.has k hk, hf]; rfl)] at hv'
      exact DataW.held.inj hv'
    | some q =>
      rw [hD.at_ k q _ hk hf] at hv'
      exact DataW.held.inj hv'
  rw [hrun, hD.has k hk, hvv]
/-- A plain look-up. -/
theorem MapG.look1 (M : MKey P kt ok kv kl) {w : World} {b : Nat} {ks : List (K × V)} (h : MapG P kt ok kl ev w b ks) {k : K} (hk : ok k) {t e : TypeId} (ht : P.underlying t = some (.map kt e)) {z : Value} (hz : (zeroValue e).run P w = .ok z w) :
    (Instr.lookup t (.map (some b)) (kv k) false).run P w = .ok (lookG ev z (fndG k ks)) w := by
  obtain ⟨n, D, ho, hD⟩ := h
  obtain ⟨v, ps, hrun, hv⟩ := ho.lookup M.keyed ht hz (zd := .held z) (zp := []) rfl (M.key k hk)
  have hv' : DataW.held v = D.atKey (kl k) (.held z) := by
    have := congrArg (Option.map Prod.fst) hv
    simpa [heldE] using this
  have hvv : v = lookG ev z (fndG k ks) := by
    cases hf : fndG k ks with
    | none =>
      rw [atKey_of_not_has (by rw [hD.has k hk, hf]; rfl)] at hv'
      exact DataW.held.inj hv'
    | some q =>
      rw [hD.at_ k q _ hk hf] at hv'
      exact DataW.held.inj hv'
  rw [hrun, hvv]
theorem MapG.len {w : World} {b : Nat} {ks : List (K × V)} (h : MapG P kt ok kl ev w b ks) {t e : TypeId} (ht : P.underlying t = some (.map kt e)) (ty : TypeId) : (Builtin.len_ #[t] ty #[.map (some b)]).run P w = .ok (.int .i64 ks.length) w := by
  obtain ⟨n, D, ho, hD⟩ := h
  rw [ho.len ht ty, hD.size]
theorem tightG {w : World} {b n : Nat} {D : DataW Value} (h : w.ownsMap P kt heldE b n D) : w.ownsMap P kt heldE b (Maps.size D) D := by
  obtain ⟨es, clock, hb, F, hs, rfl⟩ := h
  exact ⟨es, clock, hb, F, by simp [Maps.size, length_sorted], rfl⟩
theorem DatG.put (M : MKey P kt ok kv kl) {w : World} {b n : Nat} {D : DataW Value} {ks : List (K × V)} (ho : w.ownsMap P kt heldE b n D) (h : DatG ok kl ev D ks) {k : K} (hk : ok k) (q : V) : DatG ok kl ev (D.put (kl k) (.held (ev q))) (putG k q ks) := by
  have hkl := M.keyed.key (M.key k hk)
  unfold putG
  refine ⟨fun k' hk' => ?_, fun k' q' z hk' hf => ?_, ?_, fun l hl => ?_⟩
  · by_cases e : k' = k
    · subst e
      rw [has_put_same ho.isMap hkl]
      split
      · rw [fndG_upd_same (by assumption)]; rfl
      · rw [fndG_app, if_neg (by assumption), if_pos rfl]; rfl
    · rw [has_put_other (fun h => e (M.inj k' k hk' hk h)), h.has k' hk']
      split
      · rw [fndG_upd_other e]
      · rw [fndG_app]
        have e' : ¬ k = k' := fun h => e h.symm
        cases fndG k' ks <;> simp [e']
  · by_cases e : k' = k
    · subst e
      rw [atKey_put_same ho.isMap hkl]
      split at hf
      · rw [fndG_upd_same (by assumption)] at hf; exact congrArg (fun z => DataW.held (ev z)) (Option.some.inj hf)
      · rw [fndG_app, if_neg (by assumption), if_pos rfl] at hf; exact congrArg (fun z => DataW.held (ev z)) (Option.some.inj hf)
    · rw [atKey_put_other (fun h => e (M.inj k' k hk' hk h))]
      refine h.at_ k' q' z hk' ?_
      split at hf
      · rwa [fndG_upd_other e] at hf
      · rw [fndG_app] at hf
        have e' : ¬ k = k' := fun h => e h.symm
        cases hfk : fndG k' ks <;> simp_all
  · rw [size_put (ho.tidy M.keyed), h.has k hk]
    split
    · rw [lengthG_upd, h.size]
    · simp [h.size]
  · by_cases e : l = kl k
    · exact ⟨k, hk, e⟩
    · rw [has_put_other e] at hl
      exact h.shut l hl
theorem MapG.store (M : MKey P kt ok kv kl) {w : World} {b : Nat} {ks : List (K × V)} (h : MapG P kt ok kl ev w b ks) (hl : ks.length ≤ 1000) {k : K} (hk : ok k) (q : V) {t e : TypeId} (ht : P.underlying t = some (.map kt e)) :
    ∃ w', (Instr.mapUpdate t (.map (some b)) (kv k) (ev q)).run P w = .ok () w' ∧ w.mapTurned w' b ∧ MapG P kt ok kl ev w' b (putG k q ks) := by
  obtain ⟨n, D, ho, hD⟩ := h
  have ho' := tightG ho
  obtain ⟨w', hrun, ho1, ht⟩ := ho'.store M.keyed ht (by rw [hD.size]; unfold maxLen; omega) (M.key k hk) (val := ev q) (d := .held (ev q)) (ps := []) rfl
  exact ⟨w', hrun, ht, _, _, ho1, hD.put M ho hk q⟩
theorem MapG.drop (M : MKey P kt ok kv kl) {w : World} {b : Nat} {ks : List (K × V)} (h : MapG P kt ok kl ev w b ks) (hnd : (ks.map Prod.fst).Nodup) {k : K} (hk : ok k) {t e : TypeId} (ht : P.underlying t = some (.map kt e)) (ty : TypeId) :
    ∃ w', (Builtin.delete_ #[t, kt] ty #[.map (some b), kv k]).run P w = .ok (.tuple #[]) w' ∧ w.mapTurned w' b ∧ MapG P kt ok kl ev w' b (delG k ks) := by
  obtain ⟨n, D, ho, hD⟩ := h
  obtain ⟨w', hrun, ho1, ht⟩ := ho.drop M.keyed ht (M.key k hk) ty
  refine ⟨w', hrun, ht, _, _, ho1, fun k' hk' => ?_, fun k' q' z hk' hf => ?_, ?_, fun l hl => ?_⟩
  · by_cases e : k' = k
    · subst e
      rw [has_del_same, fndG_del_same hnd]; rfl
    · rw [has_del_other (fun h => e (M.inj k' k hk' hk h)), fndG_del_other e, hD.has k' hk']
  · by_cases e : k' = k
    · subst e
      rw [fndG_del_same hnd] at hf; simp at hf
    · rw [atKey_del_other (fun h => e (M.inj k' k hk' hk h))]
      rw [fndG_del_other e] at hf
      exact hD.at_ k' q' z hk' hf
  · have e1 := size_del (k := kl k) (ho.tidy M.keyed)
    rw [hD.has k hk, hD.size] at e1
    cases hf : fndG k ks with
    | none =>
      rw [hf] at e1
      have e2 : delG k ks = ks := by
        have : ∀ (l : List (K × V)), fndG k l = none → delG k l = l := by
          intro l
          induction l with
          | nil => intro _; rfl
          | cons p r ih =>
            intro h
            obtain ⟨k2, q2⟩ := p
            unfold fndG at h
            unfold delG
            split at h
            · simp at h
            · rename_i hne
              rw [if_neg hne, ih h]
        exact this ks hf
      rw [e2]
      simp at e1
      exact e1
    | some v =>
      rw [hf] at e1
      have e2 := lengthG_del (k := k) (ks := ks) (by rw [hf]; rfl)
      simp at e1
      omega
  · by_cases e : l = kl k
    · rw [e, has_del_same] at hl; simp at hl
    · rw [has_del_other e] at hl
      exact hD.shut l hl
end
end Go.Proofs.YtnlgndpcddngoaaGreatDoor

namespace Go.Proofs.YtnlgndpcddngoaaGreatDoor
open Go.RowKit Go.Maps
variable [dK] [iK]

theorem arrK : Go.WideMaps.ArrKey Tryz.prog 63 5 8 := ⟨Tryz.underlying63, by kernel_rfl, by kernel_rfl, by kernel_rfl⟩
def kval (k : Ky) : Value := .agg #[.int .u8 k.k0, .int .u8 k.k1, .int .u8 k.k2, .int .u8 k.k3, .int .u8 k.k4, .int .u8 k.k5, .int .u8 k.k6, .int .u8 k.k7]
theorem wf8 {k : Int} (h : 0 ≤ k ∧ k ≤ 255) : (Lit.int .u8 k).wf = true := by
  have : IntKind.u8.min = 0 := rfl
  have : IntKind.u8.max = 255 := rfl
  simp [Lit.wf]; omega
def klit (k : Ky) : Lit := .string (keyBytes [.int .u8 k.k0, .int .u8 k.k1, .int .u8 k.k2, .int .u8 k.k3, .int .u8 k.k4, .int .u8 k.k5, .int .u8 k.k6, .int .u8 k.k7])
theorem klit_key (k : Ky) (h : k.ok) : keyOf Tryz.prog 63 (kval k) = some (klit k) := by
  have hkt := arrK.keyType ⟨_, rfl⟩
  unfold keyOf kval
  simp only [arrK.hu]
  rw [if_pos (by simp [hkt, Value.formed, arrK.hu, arrK.size])]
  unfold Program.keyLits
  simp only [arrK.hu, Value.cells]
  rw [if_pos (by rw [arrK.size]; rfl), show List.range 8 = [0, 1, 2, 3, 4, 5, 6, 7] from rfl]
  have he : Tryz.prog.underlying 5 = some (.int .u8) := Tryz.underlying5
  obtain ⟨m, hm⟩ : ∃ m, Tryz.prog.types.size = m + 1 := ⟨_, rfl⟩
  rw [hm]
  simp [klit, arrK.one, Program.keyLits, he, wf8 h.h0, wf8 h.h1, wf8 h.h2, wf8 h.h3, wf8 h.h4, wf8 h.h5, wf8 h.h6, wf8 h.h7]
theorem keyedK : Keyed Tryz.prog 63 := Keyed.of_law arrK.law
theorem klit_inj {k k' : Ky} (h : k.ok) (h' : k'.ok) (e : klit k = klit k') : k = k' := by
  have hv := keyedK.inj (klit_key k h) (e ▸ klit_key k' h')
  unfold kval at hv
  simp at hv
  cases k; cases k'; simp_all
theorem mkey : MKey Tryz.prog 63 Ky.ok kval klit := ⟨keyedK, klit_key, fun _ _ h h' e => klit_inj h h' e⟩

/-- How a key stands, and what is held of it. -/
def evE (p : Qt × Qt) : Value := .agg #[.int .u8 p.1.kd, .int .u64 p.1.x, .int .u64 p.1.y, .int .u64 p.1.lv, .int .u64 p.1.wn, .int .u8 p.2.kd, .int .u64 p.2.x, .int .u64 p.2.y, .int .u64 p.2.lv, .int .u64 p.2.wn]
def ezero : Value := .agg #[.int .u8 0, .int .u64 0, .int .u64 0, .int .u64 0, .int .u64 0, .int .u8 0, .int .u64 0, .int .u64 0, .int .u64 0, .int .u64 0]
theorem zeroE (w : World) : (zeroValue 177).run Tryz.prog w = .ok ezero w := by kernel_rfl
abbrev Es := List (Ky × (Qt × Qt))
/-- Block b is a map of keys that holds just these. -/
def MapE (w : World) (b : Nat) (es : Es) : Prop := MapG Tryz.prog 63 Ky.ok klit evE w b es
/-- How the keys stand. -/
def stands (es : Es) : List (Ky × Qt) := es.map fun p => (p.1, p.2.1)
theorem stands_fst (es : Es) : (stands es).map Prod.fst = es.map Prod.fst := by
  unfold stands
  rw [List.map_map]
  rfl
theorem fnd_stands (k : Ky) : ∀ (es : Es), fnd k (stands es) = (fndG k es).map Prod.fst
  | [] => rfl
  | (k', p) :: r => by
    show fnd k ((k', p.1) :: stands r) = _
    unfold fnd fndG
    split
    · rfl
    · exact fnd_stands k r
theorem upd_stands (k : Ky) (p : Qt × Qt) : ∀ (es : Es), stands (updG k p es) = upd k p.1 (stands es)
  | [] => rfl
  | (k', p') :: r => by
    show stands (updG k p ((k', p') :: r)) = upd k p.1 ((k', p'.1) :: stands r)
    unfold updG upd
    split
    · rfl
    · show (k', p'.1) :: stands (updG k p r) = _
      rw [upd_stands k p r]
theorem del_stands (k : Ky) : ∀ (es : Es), stands (delG k es) = del k (stands es)
  | [] => rfl
  | (k', p') :: r => by
    show stands (delG k ((k', p') :: r)) = del k ((k', p'.1) :: stands r)
    unfold delG del
    split
    · rfl
    · show (k', p'.1) :: stands (delG k r) = _
      rw [del_stands k r]
theorem len_stands (es : Es) : (stands es).length = es.length := by unfold stands; simp
theorem app_stands (k : Ky) (p : Qt × Qt) (es : Es) : stands (es ++ [(k, p)]) = stands es ++ [(k, p.1)] := by unfold stands; simp
end Go.Proofs.YtnlgndpcddngoaaGreatDoor

namespace Go.Proofs.YtnlgndpcddngoaaGreatDoor
open Go.RowKit Go.Maps
variable [dK] [iK]

section
variable {P : Program} {kt : TypeId} {K V : Type} [DecidableEq K] {ok : K → Prop} {kv : K → Value} {kl : K → Lit} {ev : V → Value}
/-- What comes of a map that is ranged over. -/
theorem DatG.come {D : DataW Value} {es : List (K × V)} (M : MKey P kt ok kv kl) (h : DatG ok kl ev D es) {key v : Value} {l : Lit} {y : DataW Value × List MemPlace} (hk : keyOf P kt key = some l) (hv : heldE v = some y) (hat : ∀ zd, D.atKey l zd = y.1) :
    ∃ k p, ok k ∧ l = kl k ∧ fndG k es = some p ∧ key = kv k ∧ v = ev p := by
  have hh := has_true_of_atKey hat
  obtain ⟨k, hok, rfl⟩ := h.shut l hh
  rw [h.has k hok] at hh
  obtain ⟨p, hp⟩ := Option.isSome_iff_exists.1 hh
  have e1 := h.at_ k p (.held v) hok hp
  rw [hat] at e1
  have e2 : DataW.held v = y.1 := by
    have := congrArg (Option.map Prod.fst) hv
    simpa [heldE] using this
  rw [← e2] at e1
  exact ⟨k, p, hok, rfl, hp, M.val hk hok rfl, DataW.held.inj e1⟩

variable (w : World) {ops : Array Oper} {rest : List Oper} {o : Oper} {a : Act} {Q : Exit → Act → World → Prop}
/-- The step of a range over a map. -/
theorem wpList_next_G (M : MKey P kt ok kv kl) (hg : o.guard = none) (it : Operand) (hop : o.op = Op.next it false) (b r n : Nat) (D : DataW Value) (es : List (K × V)) (hD : DatG ok kl ev D es) (left : Lit → Bool) (cnt : Nat)
    (hit : a.eval it = .pointer (some ⟨r, 0, none⟩)) (h : w.ranges P kt heldE b r n D left cnt)
    (hDone : cnt = 0 → (∀ l, left l = false) → wpList P ops Q rest (a.put o.dst (.tuple #[.bool false])) w)
    (hMore : ∀ (k : K) (p : V) (w' : World) (cnt' : Nat), ok k → fndG k es = some p → left (kl k) = true → (∀ zd, D.atKey (kl k) zd = .held (ev p)) → w'.ranges P kt heldE b r n D (fun z => left z && !z.sameKey (kl k)) cnt' → cnt' < cnt →
      w.grownBy w' (some r) → w'.heap.size = w.heap.size → (Instr.entry (.pointer (some ⟨r, 0, none⟩))).run P w' = .ok (.tuple #[kv k, ev p]) w' → wpList P ops Q rest (a.put o.dst (.tuple #[.bool true, kv k, ev p])) w') :
    wpList P ops Q (o :: rest) a w := by
  refine wpList_plain hg fun K' hK' => ?_
  unfold Oper.wp
  rcases h.next M.keyed o.type with ⟨h0, hl, hrun⟩ | ⟨key, v, l, y, w', cnt', hkey, hlk, hv, hat, hrun, hrg, hlt, hgr, hsz, hen⟩
  · simp [execOp, hop, hit, hrun, Result.andThen]
    exact hK' _ _ (hDone h0 hl)
  · obtain ⟨k, p, hok, rfl, hp, rfl, rfl⟩ := hD.come M hkey hv hat
    simp [execOp, hop, hit, hrun, Result.andThen]
    exact hK' _ _ (hMore k p w' cnt' hok hp hlk (fun zd => hD.at_ k p zd hok hp) hrg hlt hgr hsz hen)
end

theorem undE : Tryz.prog.underlying 121 = some (.map 63 177) := Tryz.underlying121

set_option maxRecDepth 100000 in
set_option maxHeartbeats 2000000 in
/-- A map is copied into one that is empty. -/
theorem copy173 (b nb n : Nat) (D0 : DataW Value) (es : Es) (w : World) (hD : DatG Ky.ok klit evE D0 es) (hs : w.ownsMap Tryz.prog 63 heldE b n D0) (hd : w.ownsMap Tryz.prog 63 heldE nb 0 (.map [])) (hne : b ≠ nb) (hmax : Maps.size D0 ≤ 1000) :
    Calls Tryz.prog 173 #[.map (some nb), .map (some b)] w fun e w' => e = .returned (.tuple #[]) ∧ w'.ownsMap Tryz.prog 63 heldE nb (Maps.size D0) D0 ∧ Keep (fun c => c = nb) w w' := by
  have hbl := hs.lt
  have hnl := hd.lt
  have HD := hide hD
  have HS := hide hs
  have HDD := hide hd
  go_enter Tryz.func173, Tryz.ntmps173
  go_wp2_with (first
    | (at_range; refine wpList_range_own _ rfl _ 121 rfl 63 177 keyedK undE _ b n _ rfl hs ?_; intro w0 hrg0 hg0 hs0)
    | go_in)
  go_frame
  have hk0 : Keep (fun c => c = nb) w w0 := ⟨hg0.os, hg0.tape, hg0.output, hg0.size, fun k hk _ => hg0.block k hk (by simp)⟩
  have hd0 := hd.kept hg0 (by simp)
  have HK0 := hide hk0
  have HD0 := hide hd0
  have HR0 := hide hrg0
  clear hD hs hd hk0 hd0 hrg0 hg0 hs0
  go_loopw [8] (fun _ wr => ∃ (left : Lit → Bool) (cnt : Nat) (Dout : DataW Value), wr.ranges Tryz.prog 63 heldE b w.heap.size n D0 left cnt ∧ cnt ≤ Maps.size D0 ∧
      wr.ownsMap Tryz.prog 63 heldE nb (Maps.size D0 - cnt) Dout ∧ Agree Dout D0 left ∧ Keep (fun c => c = nb) w wr)
    (fun _ wr => wr.rangeLeft b w.heap.size)
  case atStart => exact ⟨_, _, .map [], HR0.out, Nat.le_refl _, HD0.out.mono (Nat.zero_le _), agree_start D0, HK0.out⟩
  case round =>
    obtain ⟨left, cnt, Dout, hrg, hcs, hout, hA, hnx⟩ := hrel
    have HOUT := hide hout
    have HA := hide hA
    have HNX := hide hnx
    clear hout hA hnx
    go_wp2_with (first
      | (at_next; refine wpList_next_G (P := Tryz.prog) (kt := 63) _ mkey rfl _ rfl b w.heap.size n D0 es HD.out left cnt rfl hrg ?_ ?_)
      | go_in)
    · intro hc0 hl0
      go_wp2
      go_end0
      subst hc0
      have e := agree_end HA.out hl0 (HOUT.out.canon keyedK) (HS.out.canon keyedK)
      exact ⟨rfl, by have := HOUT.out; rw [e] at this; simpa using this, HNX.out⟩
    · intro k p1 p2 w1 cnt1 hok hp hlk hat hrg1 hlt hg1 hs1 hen
      have hrl : w.heap.size < wr.heap.size := hrg.lt
      have hwr := HNX.out.size
      simp only [kval, evE] at hen ⊢
      have hout1 := HOUT.out.kept hg1 (by intro e; injection e with e; omega)
      obtain ⟨V, hV⟩ : ∃ V, V = (w1.alloc (.cells #[.int .u8 k.k0, .int .u8 k.k1, .int .u8 k.k2, .int .u8 k.k3, .int .u8 k.k4, .int .u8 k.k5, .int .u8 k.k6, .int .u8 k.k7] 63)).alloc (.cells #[.int .u8 p1.kd, .int .u64 p1.x, .int .u64 p1.y, .int .u64 p1.lv, .int .u64 p1.wn, .int .u8 p2.kd, .int .u64 p2.x, .int .u64 p2.y, .int .u64 p2.lv, .int .u64 p2.wn] 177) := ⟨_, rfl⟩
      have houtV : V.ownsMap Tryz.prog 63 heldE nb (Maps.size D0 - cnt) Dout := hV ▸ (hout1.alloc _).alloc _
      have hrgV : V.ranges Tryz.prog 63 heldE b w.heap.size n D0 (fun z => left z && !z.sameKey (klit k)) cnt1 := hV ▸ (hrg1.alloc _).alloc _
      have hkV : Keep (fun c => c = nb) w V := by
        rw [hV]
        refine Keep.alloc (Keep.alloc ?_ _) _
        exact ⟨hg1.os.trans HNX.out.os, hg1.tape.trans HNX.out.tape, hg1.output.trans HNX.out.output, Nat.le_trans hwr hg1.size, fun i hi hn => (hg1.block i (by omega) (by intro e; injection e with e; omega)).trans (HNX.out.block i hi hn)⟩
      have hk0 : V.heap[w1.heap.size]? = some (.cells #[.int .u8 k.k0, .int .u8 k.k1, .int .u8 k.k2, .int .u8 k.k3, .int .u8 k.k4, .int .u8 k.k5, .int .u8 k.k6, .int .u8 k.k7] 63) := hV ▸ upB (heapNew _ _) _
      have he0 : V.heap[w1.heap.size + 1]? = some (.cells #[.int .u8 p1.kd, .int .u64 p1.x, .int .u64 p1.y, .int .u64 p1.lv, .int .u64 p1.wn, .int .u8 p2.kd, .int .u64 p2.x, .int .u64 p2.y, .int .u64 p2.lv, .int .u64 p2.wn] 177) := hV ▸ heapN (by simp)
      have hle : Maps.size D0 - cnt < maxLen := by unfold maxLen; omega
      have HRG := hide hrgV
      have HKV := hide hkV
      have HLT := hide hlt
      have HRG0 := hide hrg
      have HAT := hide hat
      have hkl := klit_key k hok
      unfold kval at hkl
      clear hrgV hkV hrg1 hg1 hs1 hout1 hlt hwr hrl hlk hp hat hrg
      go_upto_region 3 with fail
      rw [← hV]
      clear hV hen
      have c1 := cellB hk0
      have c2 := cellB he0
      go_wp2_with (first
        | (at_mapUpdate; refine wpList_mapUpdate_own _ rfl _ _ _ 121 rfl 63 177 keyedK undE _ nb _ _ rfl houtV hle _ _ _ rfl rfl hkl (.held (evE (p1, p2))) [] rfl ?_; intro w2 hout2 hg2; go_frame)
        | go_in)
      have hrg2 := HRG.out.kept hg2 (fun e => hne (Option.some.inj e)) (fun e => by have := Option.some.inj e; omega)
      go_roundw
      case rel =>
        refine ⟨_, cnt1, _, hrg2, by have := HLT.out; omega, hout2.mono (by have := HLT.out; omega), agree_step HA.out HOUT.out.isMap (keyedK.key (klit_key k hok)) HAT.out, ?_⟩
        exact HKV.out.then (T := fun c => c = nb) ⟨hg2.os, hg2.tape, hg2.output, hg2.size, fun i hi hn => hg2.block i hi (fun e => hn (Option.some.inj e))⟩ (fun i _ h => h)
      case measure => rw [hrg2.left_eq, HRG0.out.left_eq]; exact HLT.out
end Go.Proofs.YtnlgndpcddngoaaGreatDoor

namespace Go.Proofs.YtnlgndpcddngoaaGreatDoor
open Go.RowKit
variable [dK] [iK]

theorem own_keptE {w w' : World} {base e sz : Nat} {v : Value} {n : Nat} {xs : List Value} (h : w.ownsRow base e sz v n xs) (hb : ∀ g, v.ownBlock = some g → w'.heap[g]? = w.heap[g]?) : w'.ownsRow base e sz v n xs := by
  obtain ⟨h1, h2⟩ := h
  refine ⟨h1, ?_⟩
  rcases h2 with h2 | ⟨g, cap, cur, hv, hg, hh, r⟩
  · exact Or.inl h2
  · exact Or.inr ⟨g, cap, cur, hv, hg, (hb g (by rw [hv]; rfl)).trans hh, r⟩
theorem own_sliceE {w : World} {base e sz : Nat} {v : Value} {n : Nat} {xs : List Value} (h : w.ownsRow base e sz v n xs) : ∃ a c, v = .slice a n c := by
  rcases h.2 with ⟨rfl, rfl⟩ | ⟨g, cap, cur, hv, _⟩
  · exact ⟨_, _, rfl⟩
  · exact ⟨_, _, hv⟩
theorem own_neE {w : World} {base e sz : Nat} {v : Value} {n : Nat} {xs : List Value} (h : w.ownsRow base e sz v n xs) {g k : Nat} (hg : v.ownBlock = some g) {a : Array Value} {t : TypeId} {fr : Nat × Nat} (hk : w.heap[k]? = some (.cells a t fr)) (ht : t ≠ e) : g ≠ k := by
  rcases h.2 with ⟨rfl, rfl⟩ | ⟨g', cap, cur, hv, _, hh, _⟩
  · simp [Value.ownBlock] at hg
  · rw [hv] at hg
    simp [Value.ownBlock] at hg
    subst hg
    intro e'
    subst e'
    rw [hh] at hk
    simp at hk
    exact ht hk.2.1.symm
theorem own_ltE {w : World} {base e sz : Nat} {v : Value} {n : Nat} {xs : List Value} (h : w.ownsRow base e sz v n xs) {g : Nat} (hg : v.ownBlock = some g) : base ≤ g ∧ g < w.heap.size := by
  rcases h.2 with ⟨rfl, rfl⟩ | ⟨g', cap, cur, hv, hb, hh, _⟩
  · simp [Value.ownBlock] at hg
  · rw [hv] at hg
    simp [Value.ownBlock] at hg
    subst hg
    exact ⟨hb, ltB hh⟩

/-- append in a region that draws, of whatever elements. -/
theorem step_append_any {ops : Array Oper} {o : Oper} {a : Act} {w : World} {K : Act → World → Prop} {Q : Exit → Act → World → Prop} {E : Prop} (hg : o.guard = none) (s x : Operand) (t e : TypeId) (i0 : TypeInfo) (z : Value) (size bytes : Nat)
    (ht : Tryz.prog.underlying t = some (.slice e)) (hi : Tryz.prog.info? e = some i0) (hz0 : i0.zero = some z) (hz1 : i0.size = size) (hz2 : i0.bytes = bytes) (hzc : z.cells.size = size) (hsz : 0 < size)
    (hop : o.op = .call { callee := .builtin .append, args := #[s, x], argTypes := #[t, t] }) (base : Nat) (v : Value) (n : Nat) (xs : List Value) (hs : a.eval s = v) (hown : w.ownsRow base e size v n xs)
    (ad : Addr) (m c : Nat) (news : List Value) (hx : a.eval x = .slice (some ad) m c) (hm : news.length = m * size) (hc : ∀ j u, news[j]? = some u → w.cell? (ad.add j) = some u) (h1 : ∀ u ∈ news, u.oneCell' = true) (hb : n + m ≤ 4194304) (hby : (n + m) * bytes ≤ 140737488355328) (hbase : base ≤ w.heap.size)
    (hK : ∀ v' w', w'.ownsRow base e size v' (n + m) (xs ++ news) → w.grownBy w' v.ownBlock → (v'.ownBlock = v.ownBlock ∨ v'.ownBlock = some w.heap.size) → K (a.put o.dst v') w') :
    if Region.wanted o (yielded ops a.tmps) = true then Oper.wp Tryz.prog o a w K Q else E := by
  have hw : Region.wanted o (yielded ops a.tmps) = true := by simp [Region.wanted, hg]
  rw [if_pos hw]
  obtain ⟨v', w', hr, h2, h3, h4, h5⟩ := run_append_own_at (P := Tryz.prog) (w := w) base t o.type e i0 z size bytes ht hi hz0 hz1 hz2 hzc hsz v n _ hown ad m c news hm hc h1 (by unfold maxLen; omega) hby hbase
  unfold Oper.wp execOp
  simp only [hop, resolve, invoke, builtin, Sem.run_bind, Sem.run_pure, Result.andThen_ok, List.map_toArray, List.map_cons, List.map_nil, hs, hx, hr]
  exact hK v' w' h2 h3 h5
end Go.Proofs.YtnlgndpcddngoaaGreatDoor

namespace Go.Proofs.YtnlgndpcddngoaaGreatDoor
open Go.RowKit
variable [dK] [iK]

/-- One bit taken off a sum's row. -/
def divM (r : Int) : Int := if bits BinOp.and IntKind.u64 r 1 = 1 then bits BinOp.xor IntKind.u64 (r / 2) 14514072000185962306 else r / 2
def divTo (r : Int) : Nat → Int
  | 0 => r
  | j + 1 => divM (divTo r j)
def rowM (i : Nat) : Int := divTo i 8
theorem bits_u64 (op : BinOp) (a b : Int) : 0 ≤ bits op .u64 a b ∧ bits op .u64 a b ≤ 18446744073709551615 := by
  have h := bounds_u64 (Go.wf_bits op .u64 a b)
  exact ⟨h.1, by omega⟩
theorem divM_ok (r : Int) (h0 : 0 ≤ r) (h1 : r ≤ 18446744073709551615) : 0 ≤ divM r ∧ divM r ≤ 18446744073709551615 := by
  unfold divM
  split
  · exact bits_u64 _ _ _
  · omega
theorem divTo_ok (r : Int) (h0 : 0 ≤ r) (h1 : r ≤ 18446744073709551615) : ∀ j, 0 ≤ divTo r j ∧ divTo r j ≤ 18446744073709551615
  | 0 => ⟨h0, h1⟩
  | j + 1 => divM_ok _ (divTo_ok r h0 h1 j).1 (divTo_ok r h0 h1 j).2

set_option maxRecDepth 100000 in
theorem divide_any (r : Int) (w : World) (_h0 : 0 ≤ r) (_h1 : r ≤ 18446744073709551615) :
    Calls Tryz.prog 223 #[.int .u64 r] w fun e w' => e = .returned (.int .u64 (divM r)) ∧ w' = w := by
  unfold divM
  by_cases h : bits BinOp.and IntKind.u64 r 1 = 1
  · have h' : (bits BinOp.and IntKind.u64 r 1 == 1) = true := by simp [h]
    rw [if_pos h]
    clear h
    go_enter Tryz.func223, Tryz.ntmps223
    go_wp2
    go_ret
    exact ⟨rfl, rfl⟩
  · have h' : (bits BinOp.and IntKind.u64 r 1 == 1) = false := by simp [h]
    rw [if_neg h]
    clear h
    go_enter Tryz.func223, Tryz.ntmps223
    go_wp2
    go_ret
    exact ⟨rfl, rfl⟩

/-- A table of sums in memory: its rows from the i-th on stand as r says. -/
structure TabI (w : World) (g o : Nat) (i : Nat) (wr : World) : Prop where
  row : ∀ j, j < 256 → ∃ u, wr.cell? ⟨g, o + 3 + j, none⟩ = some (.int .u64 u) ∧ (j < i → u = rowM j)
  fro : ∀ j, j < 256 → wr.frozen? ⟨g, o + 3 + j, none⟩ = false
  cel : ∀ j, (j < o + 3 ∨ o + 259 ≤ j) → wr.cell? ⟨g, j, none⟩ = w.cell? ⟨g, j, none⟩ ∧ wr.frozen? ⟨g, j, none⟩ = w.frozen? ⟨g, j, none⟩
  keep : Keep (fun b => b = g) w wr
theorem TabI.step {w : World} {g o i : Nat} {wr : World} (h : TabI w g o i wr) (hi : i < 256) : TabI w g o (i + 1) (wr.setCell ⟨g, o + 3 + i, none⟩ (.int .u64 (rowM i))) := by
  refine ⟨fun j hj => ?_, fun j hj => by rw [World.frozen?_setCell]; exact h.fro j hj, fun j hj => ?_, h.keep.set (Or.inl rfl) _ _⟩
  · by_cases e : j = i
    · subst e
      obtain ⟨u, hu, _⟩ := h.row j hj
      exact ⟨rowM j, World.cell?_setCell_same wr _ _ hu, fun _ => rfl⟩
    · obtain ⟨u, hu, hr⟩ := h.row j hj
      refine ⟨u, ?_, fun hl => hr (by omega)⟩
      rw [World.cell?_setCell_other wr _ _ _ (by intro e'; injection e' with _ e2 _; omega)]
      exact hu
  · obtain ⟨h1, h2⟩ := h.cel j hj
    refine ⟨?_, by rw [World.frozen?_setCell]; exact h2⟩
    rw [World.cell?_setCell_other wr _ _ _ (by intro e'; injection e' with _ e2 _; omega)]
    exact h1

set_option maxRecDepth 100000 in
set_option maxHeartbeats 1000000 in
theorem fill_any (g o : Nat) (w : World) (h : TabI w g o 0 w) :
    Calls Tryz.prog 203 #[.pointer (some ⟨g, o, none⟩)] w fun e w' => e = .returned (.tuple #[]) ∧ TabI w g o 256 w' := by
  go_enter Tryz.func203, Tryz.ntmps203
  go_wp2
  go_loopw [4] (fun s4 wr => ∃ i : Nat, i ≤ 256 ∧ s4 = .int .i64 i ∧ TabI w g o i wr) (fun s4 _ => 256 - (intOf s4).toNat)
  case atStart => exact ⟨0, by omega, rfl, h⟩
  case round =>
    obtain ⟨i, hi, rfl, I⟩ := hrel
    obtain ⟨Y, rfl⟩ : ∃ Y, Y = wr := ⟨_, rfl⟩
    have HI := hide I
    clear I
    by_cases hlt : i < 256
    · have hltI : (i : Int) < 256 := by omega
      have hi0 : (0 : Int) ≤ (i : Int) := by omega
      have hw : IntKind.u64.wrap (i : Int) = (i : Int) := by rw [IntKind.wrap_u64]; omega
      go_wp2
      go_loopw [3, 9] (fun s3 s9 X => ∃ j : Nat, j ≤ 8 ∧ s9 = .int .i64 j ∧ s3 = .int .u64 (divTo i j) ∧ X = Y) (fun _ s9 _ => 8 - (intOf s9).toNat)
      case atStart => exact ⟨0, by omega, rfl, by first | rfl | trivial, by first | rfl | trivial⟩
      case round =>
        obtain ⟨j, hj, rfl, rfl, rfl⟩ := hrel
        by_cases hlj : j < 8
        · have hljI : (j : Int) < 8 := by omega
          have hd := divTo_ok i (by omega) (by omega) j
          go_wp2_with (go_at_call 223; refine (divide_any _ _ hd.1 hd.2).mono ?_; rintro e w' ⟨rfl, rfl⟩)
          go_roundw
          case rel => exact ⟨j + 1, by omega, by go_num, by first | rfl | trivial, by first | rfl | trivial⟩
          case measure => simp [intOf]; omega
        · obtain rfl : j = 8 := by omega
          obtain ⟨u, hu, _⟩ := HI.out.row i hlt
          have hf := HI.out.fro i hlt
          obtain ⟨R, hR⟩ : ∃ R, R = divTo (i : Int) 8 := ⟨_, rfl⟩
          rw [← hR]
          have HR := hide hR
          clear hR
          go_wp2
          go_roundw
          case rel => exact ⟨i + 1, by omega, by go_num, by rw [HR.out]; exact HI.out.step hlt⟩
          case measure => simp [intOf]; omega
    · obtain rfl : i = 256 := by omega
      go_wp2
      go_end0
      exact ⟨rfl, HI.out⟩
/-- What is spread behind i rounds. -/
def sprA (v : Int) (i : Nat) : Array Value := #[.int .u8 (if 8 ≤ i then nb v 0 else 0), .int .u8 (if 7 ≤ i then nb v 1 else 0), .int .u8 (if 6 ≤ i then nb v 2 else 0), .int .u8 (if 5 ≤ i then nb v 3 else 0), .int .u8 (if 4 ≤ i then nb v 4 else 0), .int .u8 (if 3 ≤ i then nb v 5 else 0), .int .u8 (if 2 ≤ i then nb v 6 else 0), .int .u8 (if 1 ≤ i then nb v 7 else 0)]

set_option maxRecDepth 100000 in
set_option maxHeartbeats 1000000 in
theorem spread_any (v : Int) (w : World) (h0 : 0 ≤ v) (h1 : v ≤ 18446744073709551615) :
    Calls Tryz.prog 204 #[.int .u64 v] w fun e w' => e = .returned (.agg #[.int .u8 (nb v 0), .int .u8 (nb v 1), .int .u8 (nb v 2), .int .u8 (nb v 3), .int .u8 (nb v 4), .int .u8 (nb v 5), .int .u8 (nb v 6), .int .u8 (nb v 7)]) ∧ Below w.heap.size w w' := by
  go_enter Tryz.func204, Tryz.ntmps204
  go_wp2
  go_loopw [5] (fun s5 wr => ∃ i : Nat, i ≤ 8 ∧ s5 = .int .i64 i ∧ wr = (w.alloc (.cells #[.int .u8 0, .int .u8 0, .int .u8 0, .int .u8 0, .int .u8 0, .int .u8 0, .int .u8 0, .int .u8 0] 322)).alloc (.cells (sprA v i) 322)) (fun s5 _ => 8 - (intOf s5).toNat)
  case atStart => exact ⟨0, by omega, rfl, rfl⟩
  case round =>
    obtain ⟨i, hi, rfl, rfl⟩ := hrel
    by_cases hlt : i < 8
    · have hc : i = 0 ∨ i = 1 ∨ i = 2 ∨ i = 3 ∨ i = 4 ∨ i = 5 ∨ i = 6 ∨ i = 7 := by omega
      rcases hc with rfl | rfl | rfl | rfl | rfl | rfl | rfl | rfl
      · simp only [sprA]
        go_wp2
        go_roundw
        case rel => exact ⟨1, by omega, by go_num, by simp [nb]⟩
        case measure => simp [intOf]
      · simp only [sprA]
        go_wp2
        go_roundw
        case rel => exact ⟨2, by omega, by go_num, by simp [nb]⟩
        case measure => simp [intOf]
      · simp only [sprA]
        go_wp2
        go_roundw
        case rel => exact ⟨3, by omega, by go_num, by simp [nb]⟩
        case measure => simp [intOf]
      · simp only [sprA]
        go_wp2
        go_roundw
        case rel => exact ⟨4, by omega, by go_num, by simp [nb]⟩
        case measure => simp [intOf]
      · simp only [sprA]
        go_wp2
        go_roundw
        case rel => exact ⟨5, by omega, by go_num, by simp [nb]⟩
        case measure => simp [intOf]
      · simp only [sprA]
        go_wp2
        go_roundw
        case rel => exact ⟨6, by omega, by go_num, by simp [nb]⟩
        case measure => simp [intOf]
      · simp only [sprA]
        go_wp2
        go_roundw
        case rel => exact ⟨7, by omega, by go_num, by simp [nb]⟩
        case measure => simp [intOf]
      · simp only [sprA]
        go_wp2
        go_roundw
        case rel =>
          have h8 : v / 72057594037927936 % 256 = v / 72057594037927936 := by omega
          exact ⟨8, by omega, by go_num, by simp [nb, h8]⟩
        case measure => simp [intOf]
    · obtain rfl : i = 8 := by omega
      simp only [sprA]
      go_wp2
      refine bodyPost_ret (v := .agg #[.int .u8 (nb v 0), .int .u8 (nb v 1), .int .u8 (nb v 2), .int .u8 (nb v 3), .int .u8 (nb v 4), .int .u8 (nb v 5), .int .u8 (nb v 6), .int .u8 (nb v 7)]) (by simp [results, Tryz.results204, go_sem]) rfl ⟨rfl, ?_⟩
      repeat (first | exact Below.refl _ _ | (refine Below.setCell ?_ (Nat.le_refl _) _) | (refine Below.alloc ?_ (by simp) _))
end Go.Proofs.YtnlgndpcddngoaaGreatDoor

namespace Go.Proofs.YtnlgndpcddngoaaGreatDoor
open Go.RowKit Go.MuLone
variable [dK] [iK]
abbrev muLink : Go.Conc.Locks.MuLink := { lock := 45, unlock := 46, ilock := 70, iunlock := 71, lockSlow := 98, unlockSlow := 101, disable := 94, enable := 96, acquire := 97, relMerge := 99, cas32 := 95, add32 := 100, tMutex := 119, tIMutex := 117, tPMutex := 160, tPIMutex := 201, tPI32 := 203, tUP := 178, tNoCopy := 114, tU32 := 115 }
theorem muLib : Go.Conc.Locks.MuLib Tryz.prog muLink :=
  ⟨Tryz.func45, Tryz.func46, Tryz.func70, Tryz.func71, Tryz.func94, Tryz.func96, Tryz.func97, Tryz.func99, Tryz.func95, Tryz.func100, Tryz.underlying117, Tryz.runUnderlying117, Tryz.sizeOf117, Tryz.isAgg117, Tryz.zeroValue117, Tryz.underlying119, Tryz.runUnderlying119, Tryz.sizeOf119, Tryz.isAgg119, Tryz.zeroValue119, Tryz.underlying160, Tryz.runUnderlying160, Tryz.sizeOf160, Tryz.isAgg160, Tryz.zeroValue160, Tryz.underlying201, Tryz.runUnderlying201, Tryz.sizeOf201, Tryz.isAgg201, Tryz.zeroValue201, Tryz.underlying203, Tryz.runUnderlying203, Tryz.sizeOf203, Tryz.isAgg203, Tryz.zeroValue203, Tryz.underlying178, Tryz.runUnderlying178, Tryz.sizeOf178, Tryz.isAgg178, Tryz.zeroValue178, Tryz.underlying114, Tryz.runUnderlying114, Tryz.sizeOf114, Tryz.isAgg114, Tryz.zeroValue114, Tryz.underlying21, Tryz.runUnderlying21, Tryz.sizeOf21, Tryz.isAgg21, Tryz.zeroValue21, (by kernel_rfl)⟩
/-- A mutex that nobody holds is locked; one that is held is unlocked, deferred. -/
theorem lockA (a : Addr) (w : World) (h : w.cell? a = some (.int .i32 0)) (hf : w.frozen? a = false) :
    Calls Tryz.prog 45 #[.pointer (some a)] w fun e w' => e = .returned (.tuple #[]) ∧ w' = w.setCell a (.int .i32 1) :=
  lock_free muLib a w h hf
theorem unlockA (a : Addr) (u : FrameMode) (w : World) (h : w.cell? a = some (.int .i32 1)) (hf : w.frozen? a = false) :
    CallsD Tryz.prog 46 #[.pointer (some a)] u w fun e u' w' => u' = u ∧ (e = .returned (.tuple #[]) ∧ w' = w.setCell a (.int .i32 0)) :=
  unlock_deferred muLib a u w h hf
end Go.Proofs.YtnlgndpcddngoaaGreatDoor

namespace Go.Proofs.YtnlgndpcddngoaaGreatDoor
open Go.RowKit Go.Lib Go.Shelf
variable [dK] [iK]

namespace Mul
def ren : Go.Shelf.Ren := ⟨fun _ => 224, fun n => if n = 46 then 257 else 23, fun n => n⟩
theorem lays : Lays.n264 Tryz.prog ren where
  mixed := by first | exact Tryz.mixed | kernel_rfl | decide
  f264 := by kernel_rfl
  t46 := by first | exact Tryz.underlying257 | kernel_rfl
  a46 := by first | exact Tryz.isAgg257 | (intro w; kernel_rfl)
  z46 := by first | exact Tryz.sizeOf257 | (intro w; kernel_rfl)
  v46 := by first | exact Tryz.zeroValue257 | (intro w; kernel_rfl)
  t53 := by first | exact Tryz.underlying23 | kernel_rfl
  a53 := by first | exact Tryz.isAgg23 | (intro w; kernel_rfl)
  z53 := by first | exact Tryz.sizeOf23 | (intro w; kernel_rfl)
  v53 := by first | exact Tryz.zeroValue23 | (intro w; kernel_rfl)
end Mul

theorem mul64_any (x y : Nat) (hx : x < 18446744073709551616) (hy : y < 18446744073709551616) (w : World) :
    Calls Tryz.prog 224 #[.int .u64 x, .int .u64 y] w fun e w' => e = .returned (.tuple #[.int .u64 ((x * y / 18446744073709551616 : Nat) : Int), .int .u64 ((x * y % 18446744073709551616 : Nat) : Int)]) ∧ w' = w :=
  Any.bits_Mul64 Mul.lays x y hx hy w

set_option maxRecDepth 100000 in
theorem product_room (a b : Int) (w : World) (ha : 0 ≤ a) (hb : 0 ≤ b) (ha1 : a ≤ 18446744073709551615) (hb1 : b ≤ 18446744073709551615) (p : Int) (hp : a * b = p) (h : p ≤ 18446744073709551615) :
    Calls Tryz.prog 205 #[.int .u64 a, .int .u64 b] w fun e w' => e = .returned (.tuple #[.int .u64 p, .bool true]) ∧ w' = w := by
  obtain ⟨x, rfl⟩ := Int.eq_ofNat_of_zero_le ha
  obtain ⟨y, rfl⟩ := Int.eq_ofNat_of_zero_le hb
  have hc := mul64_any x y (by omega) (by omega) w
  have hp' : ((x * y : Nat) : Int) = p := by rw [← hp]; exact Int.natCast_mul x y
  generalize x * y = z at hc hp'
  subst hp'
  clear hp
  rw [Nat.div_eq_of_lt (by omega), Nat.mod_eq_of_lt (by omega)] at hc
  go_enter Tryz.func205, Tryz.ntmps205
  go_wp2_with (go_at_call 224; refine hc.mono ?_; rintro e w' ⟨rfl, rfl⟩)
  go_ret2
  exact ⟨rfl, rfl⟩

set_option maxRecDepth 100000 in
theorem product_none (a b : Int) (w : World) (ha : 0 ≤ a) (hb : 0 ≤ b) (ha1 : a ≤ 18446744073709551615) (hb1 : b ≤ 18446744073709551615) (p : Int) (hp : a * b = p) (h : 18446744073709551615 < p) :
    Calls Tryz.prog 205 #[.int .u64 a, .int .u64 b] w fun e w' => e = .returned (.tuple #[.int .u64 0, .bool false]) ∧ w' = w := by
  obtain ⟨x, rfl⟩ := Int.eq_ofNat_of_zero_le ha
  obtain ⟨y, rfl⟩ := Int.eq_ofNat_of_zero_le hb
  have hc := mul64_any x y (by omega) (by omega) w
  have hp' : ((x * y : Nat) : Int) = p := by rw [← hp]; exact Int.natCast_mul x y
  generalize x * y = z at hc hp'
  subst hp'
  clear hp
  have h2 : 0 < z / 18446744073709551616 := Nat.div_pos (by omega) (by omega)
  generalize z / 18446744073709551616 = q at hc h2
  have h4 : ¬ ((q : Int) = 0) := by omega
  have h3 : ((q : Int) != 0) = true := by simp; omega
  clear h2 h
  go_enter Tryz.func205, Tryz.ntmps205
  go_wp2_with (go_at_call 224; refine hc.mono ?_; rintro e w' ⟨rfl, rfl⟩)
  go_ret2
  exact ⟨rfl, rfl⟩
end Go.Proofs.YtnlgndpcddngoaaGreatDoor

namespace Go.Proofs.YtnlgndpcddngoaaGreatDoor
open Go.RowKit
variable [dK] [iK]

/-- The names of the two files. -/
def name0 : ByteArray := ⟨#[108, 101, 100, 103, 101, 114, 46, 48]⟩
def name1 : ByteArray := ⟨#[108, 101, 100, 103, 101, 114, 46, 49]⟩
def nameB (b : Bool) : ByteArray := if b then name1 else name0

set_option maxRecDepth 100000 in
theorem small0 (w : World) : Calls Tryz.prog 198 #[.int .i64 0] w fun e w' => e = .returned (.string ⟨#[48]⟩) ∧ w' = w := by
  go_enter Tryz.func198, Tryz.ntmps198
  go_wp2
  go_ret
  exact ⟨rfl, rfl⟩
set_option maxRecDepth 100000 in
theorem small1 (w : World) : Calls Tryz.prog 198 #[.int .i64 1] w fun e w' => e = .returned (.string ⟨#[49]⟩) ∧ w' = w := by
  go_enter Tryz.func198, Tryz.ntmps198
  go_wp2
  go_ret
  exact ⟨rfl, rfl⟩
set_option maxRecDepth 100000 in
theorem fmt0 (w : World) : Calls Tryz.prog 168 #[.int .u64 0, .int .i64 10] w fun e w' => e = .returned (.string ⟨#[48]⟩) ∧ w' = w := by
  go_enter Tryz.func168, Tryz.ntmps168
  go_wp2_with (first | (go_at_call 198; refine (small0 _).mono ?_; rintro e w' ⟨rfl, rfl⟩) | (go_at_call 185; go_in))
  go_ret
  exact ⟨rfl, rfl⟩
set_option maxRecDepth 100000 in
theorem fmt1 (w : World) : Calls Tryz.prog 168 #[.int .u64 1, .int .i64 10] w fun e w' => e = .returned (.string ⟨#[49]⟩) ∧ w' = w := by
  go_enter Tryz.func168, Tryz.ntmps168
  go_wp2_with (first | (go_at_call 198; refine (small1 _).mono ?_; rintro e w' ⟨rfl, rfl⟩) | (go_at_call 185; go_in))
  go_ret
  exact ⟨rfl, rfl⟩
set_option maxRecDepth 100000 in
theorem name_any (t : Int) (w : World) (h0 : 0 ≤ t) (_h1 : t ≤ 18446744073709551615) : Calls Tryz.prog 147 #[.int .u64 t] w fun e w' => e = .returned (.string (nameB (t % 2 == 1))) ∧ w' = w := by
  have ht : t.tmod 2 = t % 2 := Int.tmod_eq_emod_of_nonneg h0
  rcases Int.emod_two_eq t with h | h
  · have e : nameB (t % 2 == 1) = name0 := by rw [h]; rfl
    rw [e]
    rw [h] at ht
    clear e
    go_enter Tryz.func147, Tryz.ntmps147
    go_wp2_with (go_at_call 168; refine (fmt0 _).mono ?_; rintro e w' ⟨rfl, rfl⟩)
    go_ret
    exact ⟨rfl, rfl⟩
  · have e : nameB (t % 2 == 1) = name1 := by rw [h]; rfl
    rw [e]
    rw [h] at ht
    clear e
    go_enter Tryz.func147, Tryz.ntmps147
    go_wp2_with (go_at_call 168; refine (fmt1 _).mono ?_; rintro e w' ⟨rfl, rfl⟩)
    go_ret
    exact ⟨rfl, rfl⟩
end Go.Proofs.YtnlgndpcddngoaaGreatDoor

namespace Go.Proofs.YtnlgndpcddngoaaGreatDoor
open Go.RowKit Go.Maps
variable [dK] [iK]

theorem Keep.turned {w w' : World} {b : Nat} (h : w.mapTurned w' b) : Keep (fun c => c = b) w w' := by
  have g := h.grown
  exact ⟨g.os, g.tape, g.output, g.size, fun k hk hne => g.block k hk (fun e => hne (Option.some.inj e))⟩

def nkv (b : Bool) : Value := .string (nameB b)
def nkl (b : Bool) : Lit := .string (nameB b).data.toList
theorem nameB_size (b : Bool) : (nameB b).size = 8 := by cases b <;> rfl
theorem mname : MKey Tryz.prog 9 (fun _ : Bool => True) nkv nkl := by
  refine ⟨string_keyed Tryz.underlying9, fun b _ => Go.WideMaps.keyOf_string_mk Tryz.underlying9 (by rw [nameB_size]; unfold maxLen; omega), fun a b _ _ e => ?_⟩
  cases a <;> cases b <;> first | rfl | (exfalso; simp [nkl, nameB, name0, name1] at e)
/-- A file: where its bytes lie, and what they are. -/
def evF (p : Nat × ByteArray) : Value := .pointer (some ⟨p.1, 0, none⟩)
abbrev Fs := List (Bool × (Nat × ByteArray))
/-- Block b is a directory of files. -/
structure DirAt (w : World) (b : Nat) (fs : Fs) : Prop where
  map : MapG Tryz.prog 9 (fun _ : Bool => True) nkl evF w b fs
  nd : (fs.map Prod.fst).Nodup
  str : ∀ p ∈ fs, w.heap[p.2.1]? = some (.cells #[.string p.2.2] 9)
theorem DirAt.len {w : World} {b : Nat} {fs : Fs} (h : DirAt w b fs) : fs.length ≤ 2 := by
  have h1 := h.nd
  have h2 : (fs.map Prod.fst).length ≤ 2 := by
    match fs.map Prod.fst, h1 with
    | [], _ => simp
    | [_], _ => simp
    | [_, _], _ => simp
    | a :: b :: c :: r, h => cases a <;> cases b <;> cases c <;> simp at h
  simpa using h2
theorem DirAt.kept {w w' : World} {b : Nat} {fs : Fs} (h : DirAt w b fs) (hb : w'.heap[b]? = w.heap[b]?) (hs : ∀ p ∈ fs, w'.heap[p.2.1]? = w.heap[p.2.1]?) : DirAt w' b fs :=
  ⟨h.map.kept hb, h.nd, fun p hp => (hs p hp).trans (h.str p hp)⟩
theorem DirAt.keep {w w' : World} {b : Nat} {fs : Fs} (h : DirAt w b fs) {S : Nat → Prop} (hk : Keep S w w') (h1 : ¬ S b) (h2 : ∀ p ∈ fs, ¬ S p.2.1) : DirAt w' b fs :=
  h.kept (hk.block b h.map.lt h1) (fun p hp => hk.block _ (ltB (h.str p hp)) (h2 p hp))
theorem DirAt.empty {w : World} {b : Nat} (h : w.heap[b]? = some (.map #[] 0)) : DirAt w b [] := ⟨MapG.empty h, by simp, fun p hp => by cases hp⟩

set_option maxRecDepth 100000 in
set_option maxHeartbeats 1000000 in
theorem writes262 (db : Nat) (m0 m1 pv : Value) (l f : Int) (w : World) (hd : w.heap[db]? = some (.cells #[m0, m1, pv, .int .i64 l, .int .i64 f, .bool false] 88)) (hl : -9223372036854775808 < l ∧ l < 0) (hf : -9223372036854775808 < f ∧ f < 0) :
    Calls Tryz.prog 262 #[.pointer (some ⟨db, 0, none⟩)] w fun e w' => e = .returned .nilIface ∧ w'.heap[db]? = some (.cells #[m0, m1, pv, .int .i64 (l - 1), .int .i64 (f - 1), .bool false] 88) ∧ Keep (fun b => b = db) w w' := by
  have a1 := cellB hd
  have a2 := frozenB hd
  have n1 : (l == 0) = false := by simp; omega
  have n2 : (f == 0) = false := by simp; omega
  have w1 : IntKind.i64.wrap (l - 1) = l - 1 := by rw [IntKind.wrap_i64]; omega
  have w2 : IntKind.i64.wrap (f - 1) = f - 1 := by rw [IntKind.wrap_i64]; omega
  have HL := hide hl
  have HF := hide hf
  clear hl hf
  go_enter Tryz.func262, Tryz.ntmps262
  go_wp2
  go_ret
  refine ⟨rfl, by simpa using heapSet (heapSet hd 3 (.int .i64 (l - 1))) 4 (.int .i64 (f - 1)), ?_⟩
  exact Keep.set (S := fun b => b = db) (b := db) (Keep.set (S := fun b => b = db) (b := db) (Keep.refl _ w) (Or.inl rfl) _ _) (Or.inl rfl) _ _

theorem zeroP (w : World) : (zeroValue 95).run Tryz.prog w = .ok (.pointer none) w := by kernel_rfl

set_option maxRecDepth 100000 in
set_option maxHeartbeats 1000000 in
/-- A file is written. -/
theorem do59w (mb : Nat) (fs : Fs) (b : Bool) (s : ByteArray) (w : World) (hD : DirAt w mb fs) :
    Calls Tryz.prog 59 #[.map (some mb), .agg #[.int .i64 1, .string (nameB b), .string s]] w fun e w' => e = .returned (.tuple #[]) ∧ DirAt w' mb (putG b (w.heap.size + 1, s) fs) ∧ Keep (fun c => c = mb) w w' := by
  obtain ⟨V, hV⟩ : ∃ V, V = (w.alloc (.cells #[.int .i64 1, .string (nameB b), .string s] 146)).alloc (.cells #[.string s] 9) := ⟨_, rfl⟩
  have h0 : V.heap[w.heap.size]? = some (.cells #[.int .i64 1, .string (nameB b), .string s] 146) := hV ▸ upB (heapNew _ _) _
  have h1 : V.heap[w.heap.size + 1]? = some (.cells #[.string s] 9) := hV ▸ heapN (by simp)
  have hK : Keep (fun c => c = mb) w V := hV ▸ ((Keep.refl _ w).alloc _).alloc _
  have hDV : DirAt V mb fs := hD.kept (hV ▸ (heapOld _ _ (by have := hD.map.lt; simp; omega)).trans (heapOld _ _ hD.map.lt)) (fun p hp => hV ▸ (heapOld _ _ (by have := ltB (hD.str p hp); simp; omega)).trans (heapOld _ _ (ltB (hD.str p hp))))
  obtain ⟨w2, hrun, hT, hM⟩ := hDV.map.store mname (by have := hD.len; omega) (k := b) trivial (w.heap.size + 1, s) Tryz.underlying85
  have hrun' : (Instr.mapUpdate 85 (.map (some mb)) (.string (nameB b)) (.pointer (some ⟨w.heap.size + 1, 0, none⟩))).run Tryz.prog V = .ok () w2 := hrun
  have a1 := cellB h0
  have HM := hide hM
  have HT := hide hT
  have HK := hide hK
  have HDV := hide hDV
  have HH1 := hide h1
  clear hrun hM hT hK hDV
  go_enter Tryz.func59, Tryz.ntmps59
  go_upto_region 2 with fail
  rw [← hV]
  clear hV
  go_wp2
  go_end0
  have hk2 := Keep.turned HT.out
  have ne : ∀ g c t fr, V.heap[g]? = some (.cells c t fr) → ¬ g = mb := fun g c t fr h e => HDV.out.map.ne h e.symm
  refine ⟨rfl, ⟨HM.out, putG_nodup HDV.out.nd, fun p hp => ?_⟩, HK.out.then hk2 (fun i _ h => h)⟩
  rcases mem_putG hp with h | h
  · have h2 := HDV.out.str p h
    exact (hk2.block _ (ltB h2) (ne _ _ _ _ h2)).trans h2
  · subst h
    exact (hk2.block _ (ltB HH1.out) (ne _ _ _ _ HH1.out)).trans HH1.out
end Go.Proofs.YtnlgndpcddngoaaGreatDoor

namespace Go.Proofs.YtnlgndpcddngoaaGreatDoor
open Go.RowKit Go.Maps
variable [dK] [iK]

set_option maxRecDepth 100000 in
theorem copied155 (b : Nat) (es : Es) (w : World) (h : MapE w b es) (hl : es.length ≤ 1000) :
    Calls Tryz.prog 155 #[.map (some b)] w fun e w' => e = .returned (.map (some w.heap.size)) ∧ MapE w' w.heap.size es ∧ Below w.heap.size w w' := by
  have hmm := @run_makeMap Tryz.prog
  obtain ⟨n, D0, ho, hD⟩ := h
  have hbl := ho.lt
  have H := hide (copy173 b w.heap.size n D0 es (w.alloc (.map #[] 0)) hD (ho.alloc _) (World.ownsMap_made w _ _ _) (by omega) (by rw [hD.size]; omega))
  have HD := hide hD
  clear ho hD
  go_enter Tryz.func155, Tryz.ntmps155
  go_wp2_with fail
  refine H.out.mono ?_
  rintro e w2 ⟨rfl, h2, hk2⟩
  have H2 := hide h2
  have HK2 := hide hk2
  clear h2 hk2
  go_wp2
  go_ret
  refine ⟨rfl, ⟨_, _, H2.out, HD.out⟩, ?_⟩
  exact ((Below.refl _ w).alloc (Nat.le_refl _) _).trans (HK2.out.below (by simp) (fun k hk => by omega))

set_option maxRecDepth 100000 in
set_option maxHeartbeats 1000000 in
theorem with135 (b : Nat) (es : Es) (k : Ky) (p : Qt × Qt) (w : World) (h : MapE w b es) (hl : es.length ≤ 900) (hk : k.ok) :
    Calls Tryz.prog 135 #[.map (some b), .agg #[.int .u8 k.k0, .int .u8 k.k1, .int .u8 k.k2, .int .u8 k.k3, .int .u8 k.k4, .int .u8 k.k5, .int .u8 k.k6, .int .u8 k.k7], .agg #[.int .u8 p.1.kd, .int .u64 p.1.x, .int .u64 p.1.y, .int .u64 p.1.lv, .int .u64 p.1.wn, .int .u8 p.2.kd, .int .u64 p.2.x, .int .u64 p.2.y, .int .u64 p.2.lv, .int .u64 p.2.wn]] w fun e w' => ∃ nb, e = .returned (.map (some nb)) ∧ w.heap.size ≤ nb ∧ MapE w' nb (putG k p es) ∧ Below w.heap.size w w' := by
  obtain ⟨p1, p2⟩ := p
  dsimp only
  obtain ⟨V, hV⟩ : ∃ V, V = (w.alloc (.cells #[.int .u8 k.k0, .int .u8 k.k1, .int .u8 k.k2, .int .u8 k.k3, .int .u8 k.k4, .int .u8 k.k5, .int .u8 k.k6, .int .u8 k.k7] 63)).alloc (.cells #[.int .u8 p1.kd, .int .u64 p1.x, .int .u64 p1.y, .int .u64 p1.lv, .int .u64 p1.wn, .int .u8 p2.kd, .int .u64 p2.x, .int .u64 p2.y, .int .u64 p2.lv, .int .u64 p2.wn] 177) := ⟨_, rfl⟩
  have hB : Below w.heap.size w V := hV ▸ ((Below.refl _ w).alloc (Nat.le_refl _) _).alloc (by simp) _
  have hk0 : V.heap[w.heap.size]? = some (.cells #[.int .u8 k.k0, .int .u8 k.k1, .int .u8 k.k2, .int .u8 k.k3, .int .u8 k.k4, .int .u8 k.k5, .int .u8 k.k6, .int .u8 k.k7] 63) := hV ▸ upB (heapNew _ _) _
  have he0 : V.heap[w.heap.size + 1]? = some (.cells #[.int .u8 p1.kd, .int .u64 p1.x, .int .u64 p1.y, .int .u64 p1.lv, .int .u64 p1.wn, .int .u8 p2.kd, .int .u64 p2.x, .int .u64 p2.y, .int .u64 p2.lv, .int .u64 p2.wn] 177) := hV ▸ heapN (by simp)
  have hm : MapE V b es := MapG.kept h (hB.block b (MapG.lt h))
  have HM := hide hm
  have HB := hide hB
  clear h hm hB
  go_enter Tryz.func135, Tryz.ntmps135
  go_upto_region 1 with fail
  rw [← hV]
  clear hV
  go_wp2_with fail
  refine (copied155 b es V HM.out (by omega)).mono ?_
  rintro e w2 ⟨rfl, hm2, hb2⟩
  have hk2 := (hb2.block _ (ltB hk0)).trans hk0
  have he2 := (hb2.block _ (ltB he0)).trans he0
  have c1 := cellB hk2
  have c2 := cellB he2
  obtain ⟨nb, hnb⟩ : ∃ nb, nb = V.heap.size := ⟨_, rfl⟩
  rw [← hnb] at hm2 ⊢
  obtain ⟨w3, hrun, hT, hM3⟩ := MapG.store mkey hm2 (by omega) hk (p1, p2) undE
  have hrun' : (Instr.mapUpdate 121 (.map (some nb)) (.agg #[.int .u8 k.k0, .int .u8 k.k1, .int .u8 k.k2, .int .u8 k.k3, .int .u8 k.k4, .int .u8 k.k5, .int .u8 k.k6, .int .u8 k.k7]) (.agg #[.int .u8 p1.kd, .int .u64 p1.x, .int .u64 p1.y, .int .u64 p1.lv, .int .u64 p1.wn, .int .u8 p2.kd, .int .u64 p2.x, .int .u64 p2.y, .int .u64 p2.lv, .int .u64 p2.wn])).run Tryz.prog w2 = .ok () w3 := hrun
  have HM3 := hide hM3
  have HT := hide hT
  have HB2 := hide hb2
  have HNB := hide hnb
  clear hm2 hrun hM3 hT hb2 hnb
  go_wp2
  go_ret
  have hs := HB.out.size
  have hk3 := Keep.turned HT.out
  refine ⟨nb, rfl, by rw [HNB.out]; exact hs, HM3.out, ?_⟩
  exact (HB.out.trans (HB2.out.mono hs)).trans (hk3.below (Nat.le_trans hs HB2.out.size) (fun c hc => by rw [hc, HNB.out]; exact hs))

set_option maxRecDepth 100000 in
set_option maxHeartbeats 1000000 in
theorem without141 (b : Nat) (es : Es) (k : Ky) (w : World) (h : MapE w b es) (hl : es.length ≤ 900) (hk : k.ok) (hnd : (es.map Prod.fst).Nodup) :
    Calls Tryz.prog 141 #[.map (some b), .agg #[.int .u8 k.k0, .int .u8 k.k1, .int .u8 k.k2, .int .u8 k.k3, .int .u8 k.k4, .int .u8 k.k5, .int .u8 k.k6, .int .u8 k.k7]] w fun e w' => ∃ nb, e = .returned (.map (some nb)) ∧ w.heap.size ≤ nb ∧ MapE w' nb (delG k es) ∧ Below w.heap.size w w' := by
  obtain ⟨V, hV⟩ : ∃ V, V = w.alloc (.cells #[.int .u8 k.k0, .int .u8 k.k1, .int .u8 k.k2, .int .u8 k.k3, .int .u8 k.k4, .int .u8 k.k5, .int .u8 k.k6, .int .u8 k.k7] 63) := ⟨_, rfl⟩
  have hB : Below w.heap.size w V := hV ▸ (Below.refl _ w).alloc (Nat.le_refl _) _
  have hk0 : V.heap[w.heap.size]? = some (.cells #[.int .u8 k.k0, .int .u8 k.k1, .int .u8 k.k2, .int .u8 k.k3, .int .u8 k.k4, .int .u8 k.k5, .int .u8 k.k6, .int .u8 k.k7] 63) := hV ▸ heapNew _ _
  have hm : MapE V b es := MapG.kept h (hB.block b (MapG.lt h))
  have HM := hide hm
  have HB := hide hB
  have HND := hide hnd
  clear h hm hB hnd
  go_enter Tryz.func141, Tryz.ntmps141
  go_upto_region 1 with fail
  rw [← hV]
  clear hV
  go_wp2_with fail
  refine (copied155 b es V HM.out (by omega)).mono ?_
  rintro e w2 ⟨rfl, hm2, hb2⟩
  have hk2 := (hb2.block _ (ltB hk0)).trans hk0
  have c1 := cellB hk2
  obtain ⟨nb, hnb⟩ : ∃ nb, nb = V.heap.size := ⟨_, rfl⟩
  rw [← hnb] at hm2 ⊢
  obtain ⟨w3, hrun, hT, hM3⟩ := MapG.drop mkey hm2 HND.out hk undE 0
  have hrun' : (Builtin.delete_ #[121, 63] 0 #[.map (some nb), .agg #[.int .u8 k.k0, .int .u8 k.k1, .int .u8 k.k2, .int .u8 k.k3, .int .u8 k.k4, .int .u8 k.k5, .int .u8 k.k6, .int .u8 k.k7]]).run Tryz.prog w2 = .ok (.tuple #[]) w3 := hrun
  have HM3 := hide hM3
  have HT := hide hT
  have HB2 := hide hb2
  have HNB := hide hnb
  clear hm2 hrun hM3 hT hb2 hnb
  go_wp2
  go_ret
  have hs := HB.out.size
  have hk3 := Keep.turned HT.out
  refine ⟨nb, rfl, by rw [HNB.out]; exact hs, HM3.out, ?_⟩
  exact (HB.out.trans (HB2.out.mono hs)).trans (hk3.below (Nat.le_trans hs HB2.out.size) (fun c hc => by rw [hc, HNB.out]; exact hs))
end Go.Proofs.YtnlgndpcddngoaaGreatDoor

namespace Go.Proofs.YtnlgndpcddngoaaGreatDoor
open Go.RowKit
variable [dK] [iK]

set_option maxRecDepth 100000 in
theorem bpass (sb : Nat) (s0 s1 mv mq ms adm : Value) (time now t : Int) (ht : (if time < now then now else time) = t) (w : World) (hs : w.heap[sb]? = some (.cells #[s0, s1, .int .u64 time, mv, mq, ms, adm] 130)) :
    Calls Tryz.prog 47 #[.pointer (some ⟨sb, 2, none⟩), .int .u64 now] w fun e w' => e = .returned (.tuple #[]) ∧ w'.heap[sb]? = some (.cells #[s0, s1, .int .u64 t, mv, mq, ms, adm] 130) ∧ Keep (fun b => b = sb) w w' := by
  have a1 := cellB hs
  have a2 := frozenB hs
  by_cases h : time < now
  · rw [if_pos h] at ht
    subst ht
    go_enter Tryz.func47, Tryz.ntmps47
    go_wp2
    go_end0
    exact ⟨rfl, by simpa using heapSet hs 2 (.int .u64 now), Keep.set (S := fun b => b = sb) (b := sb) (Keep.refl _ w) (Or.inl rfl) _ _⟩
  · rw [if_neg h] at ht
    subst ht
    go_enter Tryz.func47, Tryz.ntmps47
    go_wp2
    go_end0
    exact ⟨rfl, by simpa using heapSet hs 2 (.int .u64 time), Keep.set (S := fun b => b = sb) (b := sb) (Keep.refl _ w) (Or.inl rfl) _ _⟩

set_option maxRecDepth 100000 in
theorem bclock (sb : Nat) (s0 s1 mv mq ms adm : Value) (time : Int) (w : World) (hs : w.heap[sb]? = some (.cells #[s0, s1, .int .u64 time, mv, mq, ms, adm] 130)) :
    Calls Tryz.prog 114 #[.pointer (some ⟨sb, 2, none⟩)] w fun e w' => e = .returned (.agg #[.int .u8 1, .int .u64 time, .int .u64 0]) ∧ Below w.heap.size w w' := by
  have a1 := upC hs (.cells #[.int .u8 0, .int .u64 0, .int .u64 0] 40)
  go_enter Tryz.func114, Tryz.ntmps114
  go_wp2
  exact bodyPost_ret (v := .agg #[.int .u8 1, .int .u64 time, .int .u64 0]) (by simp [results, Tryz.results114, go_sem]) rfl ⟨rfl, (Below.refl _ w).alloc (Nat.le_refl _) _⟩

set_option maxRecDepth 100000 in
theorem atomAdd (sb : Nat) (s0 s1 s2 s3 s4 s5 : Value) (x n t : Int) (ht : IntKind.u64.wrap (x + n) = t) (w : World) (hs : w.heap[sb]? = some (.cells #[s0, s1, s2, s3, s4, s5, .int .u64 x] 130)) :
    Calls Tryz.prog 136 #[.pointer (some ⟨sb, 6, none⟩), .int .u64 n] w fun e w' => e = .returned (.int .u64 t) ∧ w' = w.setCell ⟨sb, 6, none⟩ (.int .u64 t) := by
  have a1 := cellB hs 6
  have a2 := frozenB hs 6
  have hadd := run_call_add (P := Tryz.prog) Tryz.func156 (by kernel_rfl) (by kernel_rfl) (by kernel_rfl) .u64 (by kernel_rfl) (a := ⟨sb, 6, none⟩) (x := x) (y := n) (s := t) a1 a2 (by rw [← ht]; simp [go_sem])
  go_enter Tryz.func136, Tryz.ntmps136
  go_wp2
  go_ret
  exact ⟨rfl, rfl⟩

set_option maxRecDepth 100000 in
theorem atomLoad (sb : Nat) (s0 s1 s2 s3 s4 s5 : Value) (x : Int) (w : World) (hs : w.heap[sb]? = some (.cells #[s0, s1, s2, s3, s4, s5, .int .u64 x] 130)) :
    Calls Tryz.prog 88 #[.pointer (some ⟨sb, 6, none⟩)] w fun e w' => e = .returned (.int .u64 x) ∧ w' = w := by
  have a1 := cellB hs 6
  have hadd := run_call_load (P := Tryz.prog) Tryz.func121 (by kernel_rfl) (by kernel_rfl) (by kernel_rfl) .u64 (by kernel_rfl) (a := ⟨sb, 6, none⟩) (x := x) a1
  go_enter Tryz.func88, Tryz.ntmps88
  go_wp2
  go_ret
  exact ⟨rfl, rfl⟩

set_option maxRecDepth 100000 in
theorem admitted54 (sb : Nat) (s0 s1 s2 s3 s4 s5 : Value) (x : Int) (w : World) (hs : w.heap[sb]? = some (.cells #[s0, s1, s2, s3, s4, s5, .int .u64 x] 130)) :
    Calls Tryz.prog 58 #[.pointer (some ⟨sb, 0, none⟩)] w fun e w' => e = .returned (.int .u64 x) ∧ w' = w := by
  go_enter Tryz.func58, Tryz.ntmps58
  go_wp2_with (go_at_call 88; refine (atomLoad sb s0 s1 s2 s3 s4 s5 x _ hs).mono ?_; rintro e w' ⟨rfl, rfl⟩)
  go_ret
  exact ⟨rfl, rfl⟩

set_option maxRecDepth 100000 in
theorem scount_in (sb : Nat) (s0 s1 s2 s3 s4 s5 : Value) (x n t a b : Int) (ht : IntKind.u64.wrap (x + n) = t) (w : World) (hs : w.heap[sb]? = some (.cells #[s0, s1, s2, s3, s4, s5, .int .u64 x] 130)) :
    Calls Tryz.prog 110 #[.pointer (some ⟨sb, 0, none⟩), .int .u64 n, .agg #[.int .u8 2, .int .u64 a, .int .u64 b]] w fun e w' => e = .returned (.agg #[.int .u8 2, .int .u64 a, .int .u64 b]) ∧ w'.heap[sb]? = some (.cells #[s0, s1, s2, s3, s4, s5, .int .u64 t] 130) ∧ Keep (fun b => b = sb) w w' := by
  have hl := ltB hs
  have hs1 := upB (upB hs (.cells #[.int .u8 2, .int .u64 a, .int .u64 b] 40)) (.cells #[.int .u8 0, .int .u64 0, .int .u64 0] 40)
  go_enter Tryz.func110, Tryz.ntmps110
  go_wp2_with (go_at_call 136; refine (atomAdd sb s0 s1 s2 s3 s4 s5 x n t ht _ hs1).mono ?_; rintro e w' ⟨rfl, rfl⟩)
  exact bodyPost_ret (v := .agg #[.int .u8 2, .int .u64 a, .int .u64 b]) (by simp [results, Tryz.results110, go_sem]) rfl ⟨rfl, upB (upB (by simpa using heapSet hs 6 (.int .u64 t)) _) _, ((Keep.set (S := fun b => b = sb) (b := sb) (Keep.refl _ w) (Or.inl rfl) _ _).alloc _).alloc _⟩

set_option maxRecDepth 100000 in
theorem scount_out (sb : Nat) (n c a b : Int) (hc : (c == 2) = false) (w : World) :
    Calls Tryz.prog 110 #[.pointer (some ⟨sb, 0, none⟩), .int .u64 n, .agg #[.int .u8 c, .int .u64 a, .int .u64 b]] w fun e w' => e = .returned (.agg #[.int .u8 c, .int .u64 a, .int .u64 b]) ∧ Below w.heap.size w w' := by
  go_enter Tryz.func110, Tryz.ntmps110
  go_wp2
  exact bodyPost_ret (v := .agg #[.int .u8 c, .int .u64 a, .int .u64 b]) (by simp [results, Tryz.results110, go_sem]) rfl ⟨rfl, ((Below.refl _ w).alloc (Nat.le_refl _) _).alloc (by simp) _⟩

end Go.Proofs.YtnlgndpcddngoaaGreatDoor

namespace Go.Proofs.YtnlgndpcddngoaaGreatDoor
open Go.RowKit Go.Maps
variable [dK] [iK]

set_option maxRecDepth 100000 in
set_option maxHeartbeats 1000000 in
/-- A file is removed. -/
theorem do59d (mb : Nat) (fs : Fs) (b : Bool) (s : ByteArray) (w : World) (hD : DirAt w mb fs) :
    Calls Tryz.prog 59 #[.map (some mb), .agg #[.int .i64 3, .string (nameB b), .string s]] w fun e w' => e = .returned (.tuple #[]) ∧ DirAt w' mb (delG b fs) ∧ Keep (fun c => c = mb) w w' := by
  obtain ⟨V, hV⟩ : ∃ V, V = (w.alloc (.cells #[.int .i64 3, .string (nameB b), .string s] 146)).alloc (.cells #[.string s] 9) := ⟨_, rfl⟩
  have h0 : V.heap[w.heap.size]? = some (.cells #[.int .i64 3, .string (nameB b), .string s] 146) := hV ▸ upB (heapNew _ _) _
  have hK : Keep (fun c => c = mb) w V := hV ▸ ((Keep.refl _ w).alloc _).alloc _
  have hDV : DirAt V mb fs := hD.kept (hV ▸ (heapOld _ _ (by have := hD.map.lt; simp; omega)).trans (heapOld _ _ hD.map.lt)) (fun p hp => hV ▸ (heapOld _ _ (by have := ltB (hD.str p hp); simp; omega)).trans (heapOld _ _ (ltB (hD.str p hp))))
  obtain ⟨w2, hrun, hT, hM⟩ := hDV.map.drop mname hDV.nd (k := b) trivial Tryz.underlying85 0
  have hrun' : (Builtin.delete_ #[85, 9] 0 #[.map (some mb), .string (nameB b)]).run Tryz.prog V = .ok (.tuple #[]) w2 := hrun
  have a1 := cellB h0
  have HM := hide hM
  have HT := hide hT
  have HK := hide hK
  have HDV := hide hDV
  clear hrun hM hT hK hDV
  go_enter Tryz.func59, Tryz.ntmps59
  go_upto_region 2 with fail
  rw [← hV]
  clear hV
  go_wp2
  go_end0
  have hk2 := Keep.turned HT.out
  have ne : ∀ g c t fr, V.heap[g]? = some (.cells c t fr) → ¬ g = mb := fun g c t fr h e => HDV.out.map.ne h e.symm
  refine ⟨rfl, ⟨HM.out, HDV.out.nd.sublist (delG_sub.map _), fun p hp => ?_⟩, HK.out.then hk2 (fun i _ h => h)⟩
  have h2 := HDV.out.str p (delG_sub.subset hp)
  exact (hk2.block _ (ltB h2) (ne _ _ _ _ h2)).trans h2
end Go.Proofs.YtnlgndpcddngoaaGreatDoor

namespace Go.Proofs.YtnlgndpcddngoaaGreatDoor
open Go.RowKit
variable [dK] [iK]

theorem getD_app (a b : List Int) (j : Nat) (h : j < a.length) : (a ++ b).getD j 0 = a.getD j 0 := by
  simp [List.getD, List.getElem?_append_left h]
theorem rdTo_congr (f g : Nat → Int) : ∀ n, (∀ j, j < n → f j = g j) → rdTo f n = rdTo g n
  | 0, _ => rfl
  | n + 1, h => by
    simp only [rdTo]
    rw [rdTo_congr f g n (fun j hj => h j (by omega)), h n (by omega)]
theorem num8_app (a b : List Int) (o : Nat) (h : o + 8 ≤ a.length) : num8 (a ++ b) o = num8 a o := by
  unfold num8
  exact rdTo_congr _ _ 8 (fun j hj => getD_app a b (o + j) (by omega))

/-- The shape of bytes that begin with a whole frame. -/
theorem rdErr_zero {a : List Int} (h : rdErr a = 0) : ∃ b0 b1 t, a = b0 :: b1 :: t ∧ 1 ≤ b0 ∧ b0 ≤ 26 ∧ b0 = reqLen b1 ∧ b0 < (a.length : Int) := by
  cases a with
  | nil => simp [rdErr] at h
  | cons b0 t =>
    cases t with
    | nil =>
      simp only [rdErr] at h
      split at h <;> omega
    | cons b1 r =>
      simp only [rdErr] at h
      split at h
      · omega
      · split at h
        · split at h
          · omega
          · exact ⟨b0, b1, r, rfl, by omega, by omega, by assumption, by omega⟩
        · omega
theorem rdErr_app0 (a b : List Int) (h : rdErr a = 0) : rdErr (a ++ b) = 0 := by
  obtain ⟨b0, b1, t, rfl, h1, h2, h3, h4⟩ := rdErr_zero h
  simp only [List.cons_append, rdErr]
  rw [if_neg (by omega), if_pos h3, if_neg]
  simp only [List.length_cons, List.length_append] at *
  omega
theorem rdErr_app2 (a b : List Int) (h : rdErr a = 2) : rdErr (a ++ b) = 2 := by
  cases a with
  | nil => simp [rdErr] at h
  | cons b0 t =>
    cases t with
    | nil =>
      simp only [rdErr] at h
      split at h
      · rename_i hb
        simp only [List.cons_append, rdErr]
        rw [if_pos hb]
      · omega
    | cons b1 r =>
      simp only [rdErr] at h
      simp only [List.cons_append, rdErr]
      split at h
      · rename_i hb; rw [if_pos hb]
      · rename_i hb
        rw [if_neg hb]
        split at h
        · split at h <;> omega
        · rename_i hc; rw [if_neg hc]
theorem rdN_app (a b : List Int) (h : rdErr a = 0) : rdN (a ++ b) = rdN a := by
  obtain ⟨b0, b1, t, e, _⟩ := rdErr_zero h
  unfold rdN
  rw [if_pos h, if_pos (rdErr_app0 a b h), e]
  rfl
theorem rdQ_app (a b : List Int) (h : rdErr a = 0) : rdQ (a ++ b) = rdQ a := by
  obtain ⟨b0, b1, t, e, h1, h2, h3, h4⟩ := rdErr_zero h
  have hl : 2 ≤ a.length := by rw [e]; simp
  have e1 : a.getD 1 0 = b1 := by rw [e]; rfl
  have g1 := getD_app a b 1 (by omega)
  unfold rdQ
  rw [if_pos h, if_pos (rdErr_app0 a b h), g1, e1]
  by_cases c1 : b1 = 1
  · have hb : b0 = 26 := by rw [h3, c1]; rfl
    rw [if_pos c1, if_pos c1, getD_app a b 2 (by omega), getD_app a b 3 (by omega), getD_app a b 4 (by omega), getD_app a b 5 (by omega), getD_app a b 6 (by omega), getD_app a b 7 (by omega), getD_app a b 8 (by omega), getD_app a b 9 (by omega), getD_app a b 10 (by omega), num8_app a b 11 (by omega), num8_app a b 19 (by omega)]
  · rw [if_neg c1, if_neg c1]
    by_cases c2 : b1 = 2
    · have hb : b0 = 17 := by rw [h3, c2]; rfl
      rw [if_pos c2, if_pos c2, getD_app a b 2 (by omega), getD_app a b 3 (by omega), getD_app a b 4 (by omega), getD_app a b 5 (by omega), getD_app a b 6 (by omega), getD_app a b 7 (by omega), getD_app a b 8 (by omega), getD_app a b 9 (by omega), num8_app a b 10 (by omega)]
    · rw [if_neg c2, if_neg c2]
      by_cases c3 : b1 = 3 ∨ b1 = 4
      · have hb : b0 = 9 := by rw [h3]; unfold reqLen; rw [if_neg c1, if_neg c2, if_pos c3]
        rw [if_pos c3, if_pos c3, getD_app a b 2 (by omega), getD_app a b 3 (by omega), getD_app a b 4 (by omega), getD_app a b 5 (by omega), getD_app a b 6 (by omega), getD_app a b 7 (by omega), getD_app a b 8 (by omega), getD_app a b 9 (by omega)]
      · rw [if_neg c3, if_neg c3]

/-- Bytes behind bytes: the frames of the first, then those of what is left and the second. -/
theorem runL_app (b : List Int) : ∀ (n : Nat) (a : List Int) (L : Ld), a.length ≤ n →
    ((runL L a).2.2.2 = 2 → runL L (a ++ b) = ((runL L a).1, (runL L a).2.1, (runL L a).2.2.1 ++ b, 2)) ∧
    ((runL L a).2.2.2 ≠ 2 → (runL L a).2.2.2 = 1 ∧ runL L (a ++ b) = ((runL (runL L a).1 ((runL L a).2.2.1 ++ b)).1, (runL L a).2.1 ++ (runL (runL L a).1 ((runL L a).2.2.1 ++ b)).2.1, (runL (runL L a).1 ((runL L a).2.2.1 ++ b)).2.2)) := by
  intro n
  induction n with
  | zero =>
    intro a L h
    have e : a = [] := List.length_eq_zero_iff.1 (by omega)
    subst e
    have e1 : runL L [] = (L, [], [], 1) := runL_stop L [] (by simp [rdErr])
    rw [e1]
    refine ⟨fun h => ?_, fun _ => ⟨rfl, ?_⟩⟩
    · simp at h
    · simp only [List.nil_append]
  | succ n ih =>
    intro a L h
    rcases rdErr_cases a with h0 | h1 | h2
    · have eA := runL_step L a h0
      have eB := runL_step L (a ++ b) (rdErr_app0 a b h0)
      obtain ⟨r1, r2, _, _⟩ := rdN_ok a h0
      rw [rdN_app a b h0, rdQ_app a b h0, List.drop_append_of_le_length r2] at eB
      obtain ⟨i1, i2⟩ := ih (a.drop (rdN a).toNat) (doM L (rdQ a)).1 (by rw [List.length_drop]; omega)
      generalize runL (doM L (rdQ a)).1 (a.drop (rdN a).toNat) = R at *
      rw [eA, eB]
      refine ⟨fun h => ?_, fun h => ?_⟩
      · rw [i1 h]
      · obtain ⟨j1, j2⟩ := i2 h
        refine ⟨j1, ?_⟩
        rw [j2]
        rfl
    · have eA := runL_stop L a (by omega)
      rw [h1] at eA
      rw [eA]
      refine ⟨fun h => by simp at h, fun _ => ⟨rfl, ?_⟩⟩
      simp only [List.nil_append]
    · have eA := runL_stop L a (by omega)
      have eB := runL_stop L (a ++ b) (by rw [rdErr_app2 a b h2]; omega)
      rw [h2] at eA
      rw [rdErr_app2 a b h2] at eB
      rw [eA]
      refine ⟨fun _ => eB, fun h => by simp at h⟩

theorem doM_time (L : Ld) (q : Rq) : (doM L q).1.time = L.time := by
  unfold doM
  split
  · split
    · rfl
    · split
      · rfl
      · split <;> rfl
  · split
    · split <;> rfl
    · split
      · split <;> rfl
      · split
        · split <;> rfl
        · split <;> rfl
theorem runL_time : ∀ (n : Nat) (a : List Int) (L : Ld), a.length ≤ n → (runL L a).1.time = L.time := by
  intro n
  induction n with
  | zero =>
    intro a L h
    have e : a = [] := List.length_eq_zero_iff.1 (by omega)
    subst e
    rw [runL_stop L [] (by simp [rdErr])]
  | succ n ih =>
    intro a L h
    by_cases h0 : rdErr a = 0
    · rw [runL_step L a h0]
      obtain ⟨r1, r2, _, _⟩ := rdN_ok a h0
      have := ih (a.drop (rdN a).toNat) (doM L (rdQ a)).1 (by rw [List.length_drop]; omega)
      exact this.trans (doM_time L (rdQ a))
    · rw [runL_stop L a h0]
theorem passM_same (L : Ld) (now : Int) (h : now ≤ L.time) : passM L now = L := by
  unfold passM
  rw [if_neg (by omega)]
theorem passM_le (L : Ld) (now : Int) : now ≤ (passM L now).time := by
  unfold passM
  dsimp only
  split <;> omega

theorem feedM_good (L : Ld) (c : Cn) (now : Int) (bs : List Int) (h : c.bad = false) : feedM L c now bs =
    if (runL (passM L now) (c.waits ++ bs)).2.2.2 = 2 then ((runL (passM L now) (c.waits ++ bs)).1, ⟨[], true⟩, (runL (passM L now) (c.waits ++ bs)).2.1 ++ [⟨6, 0, 0⟩])
    else ((runL (passM L now) (c.waits ++ bs)).1, ⟨(runL (passM L now) (c.waits ++ bs)).2.2.1, false⟩, (runL (passM L now) (c.waits ++ bs)).2.1) := by
  unfold feedM
  rw [if_neg (by rw [h]; simp)]
  rfl
theorem feedM_bad (L : Ld) (c : Cn) (now : Int) (bs : List Int) (h : c.bad = true) : feedM L c now bs = (passM L now, c, []) := by
  unfold feedM
  rw [if_pos h]
theorem feedM_time (L : Ld) (c : Cn) (now : Int) (bs : List Int) : now ≤ (feedM L c now bs).1.time := by
  cases h : c.bad with
  | true => rw [feedM_bad _ _ _ _ h]; exact passM_le L now
  | false =>
    rw [feedM_good _ _ _ _ h]
    have := runL_time _ (c.waits ++ bs) (passM L now) (Nat.le_refl _)
    have := passM_le L now
    split <;> (dsimp only; omega)

/-- Split, the reckoning (P6, P7). -/
theorem split_reckon (L : Ld) (now : Int) (a b : List Int) (c1 : Cn) (h1 : c1 = ⟨[], false⟩) (c2 : Cn) (h2 : c2 = ⟨[], false⟩) (A : Ld × Cn × List Rp) (hA : A = feedM L c1 now a) (X : Ld × Cn × List Rp) (hX : X = feedM A.1 c2 now [1]) :
    encs (feedM L c1 now (a ++ b)).2.2 = encs A.2.2 ++ encs (feedM X.1 A.2.1 now b).2.2 := by
  have hAt : now ≤ A.1.time := hA ▸ feedM_time L c1 now a
  have hXe : X.1 = A.1 := by
    rw [hX, feedM_good _ _ _ _ (by rw [h2]), h2]
    have e : runL (passM A.1 now) ([] ++ [1]) = (passM A.1 now, [], [1], 1) := runL_stop _ _ (by simp [rdErr])
    rw [e, if_neg (by simp)]
    exact passM_same _ _ hAt
  rw [hXe]
  subst h1
  have g0 := feedM_good L ⟨[], false⟩ now (a ++ b) rfl
  have g1 := feedM_good L ⟨[], false⟩ now a rfl
  simp only [List.nil_append] at g0 g1
  obtain ⟨i1, i2⟩ := runL_app b _ a (passM L now) (Nat.le_refl _)
  have ht := runL_time _ a (passM L now) (Nat.le_refl _)
  have hp := passM_le L now
  generalize hP : passM L now = P at *
  generalize hR : runL P a = R at *
  by_cases he : R.2.2.2 = 2
  · rw [if_pos he] at g1
    rw [i1 he, if_pos rfl] at g0
    rw [g0, hA, g1, feedM_bad _ _ _ _ rfl]
    simp [encs]
  · obtain ⟨j1, j2⟩ := i2 he
    rw [if_neg he] at g1
    rw [g0, hA, g1, j2, feedM_good _ _ _ _ rfl]
    have e : passM R.1 now = R.1 := passM_same _ _ (by omega)
    dsimp only
    rw [e]
    generalize runL R.1 (R.2.2.1 ++ b) = S
    split <;> simp [encs]
end Go.Proofs.YtnlgndpcddngoaaGreatDoor

namespace Go.Proofs.YtnlgndpcddngoaaGreatDoor
open Go.RowKit
variable [dK] [iK]

/-- What is drawn over a key on which nobody has drawn: the reckoning (P9, P10). -/
theorem drawn_spacedQ (x y t m : Int) (hx : 1 ≤ x ∧ x ≤ 50) (hy : 0 ≤ y ∧ y ≤ 200) (ht : 1 ≤ t ∧ t ≤ 2000) (hm : m = y / x + 1) :
    admQ ⟨1, x, y, 0, 0⟩ t (m + 1) = (⟨1, x, y, 0, 0⟩, ⟨3, 18446744073709551615, 0⟩) ∧
    admQ ⟨1, x, y, 0, 0⟩ t m = (⟨1, x, y, t + m * x, 0⟩, ⟨2, t + m * x, 0⟩) ∧
    admQ ⟨1, x, y, t + m * x, 0⟩ t 1 = (⟨1, x, y, t + m * x, 0⟩, ⟨3, t + m * x - y, 0⟩) ∧
    t < t + m * x - y ∧ t + m * x - y ≤ 3000 ∧
    admQ ⟨1, x, y, t + m * x, 0⟩ (t + m * x - y - 1) 1 = (⟨1, x, y, t + m * x, 0⟩, ⟨3, t + m * x - y, 0⟩) ∧
    (admQ ⟨1, x, y, t + m * x, 0⟩ (t + m * x - y) 1).2.c = 2 := by
  have hd := Int.emod_add_mul_ediv y x
  have h0 : 0 ≤ y % x := Int.emod_nonneg _ (by omega)
  have h1 : y % x < x := Int.emod_lt_of_pos _ (by omega)
  have hq : x * (y / x) = (m - 1) * x := by rw [hm, Int.mul_comm]; congr 1; omega
  have hm1 : (m - 1) * x = m * x - x := by rw [Int.sub_mul]; omega
  have hm2 : (m + 1) * x = m * x + x := by rw [Int.add_mul]; omega
  have hdv : 0 ≤ y / x := Int.ediv_nonneg (by omega) (by omega)
  generalize hM : m * x = M at *
  have e1 : (1 : Int) * x = x := by omega
  have hmn : ¬ m = 0 := by omega
  have hmn1 : ¬ m + 1 = 0 := by omega
  have e3 : (m + 1 - 1) * x = M := by rw [← hM]; congr 1; omega
  have o1 : orNever (t + y) = t + y := by unfold orNever; split <;> omega
  have o2 : orNever (t + M - y - 1 + y) = t + M - 1 := by unfold orNever; split <;> omega
  have o3 : orNever (t + M - y + y) = t + M := by unfold orNever; split <;> omega
  refine ⟨?_, ?_, ?_, by omega, by omega, ?_, ?_⟩
  · simp only [admQ, admS, startM, if_true, hmn1, if_false, e3, hm2]
    rw [if_pos (by omega : (0 : Int) < t), if_neg (by omega), if_pos (by omega)]
  · simp only [admQ, admS, startM, if_true, hmn, if_false, hM, hm1, o1]
    rw [if_pos (by omega : (0 : Int) < t), if_neg (by omega), if_neg (by omega), if_neg (by omega)]
  · simp only [admQ, admS, startM, if_true, o1, e1]
    rw [if_neg (by omega : ¬ t + M < t), if_neg (by omega), if_neg (by omega), if_neg (by omega), if_pos (by omega)]
    simp
  · simp only [admQ, admS, startM, if_true, o2, e1]
    rw [if_neg (by omega : ¬ t + M < t + M - y - 1), if_neg (by omega), if_neg (by omega), if_neg (by omega), if_pos (by omega)]
    simp
  · simp only [admQ, admS, startM, if_true, o3, e1]
    rw [if_neg (by omega : ¬ t + M < t + M - y), if_neg (by omega), if_neg (by omega), if_neg (by omega), if_neg (by omega)]

theorem drawn_windowQ (x y t : Int) (hx : 0 ≤ x ∧ x ≤ 20) (hy : 1 ≤ y ∧ y ≤ 100) (ht : 1 ≤ t ∧ t ≤ 2000) :
    admQ ⟨2, x, y, 0, 0⟩ t (x + 1) = (⟨2, x, y, 0, t / y⟩, ⟨3, 18446744073709551615, 0⟩) ∧
    admQ ⟨2, x, y, 0, t / y⟩ t x = (⟨2, x, y, x, t / y⟩, ⟨2, x, t / y⟩) ∧
    (x = 0 → (admQ ⟨2, x, y, x, t / y⟩ t 1).2 = ⟨3, 18446744073709551615, 0⟩) ∧
    (x ≠ 0 → admQ ⟨2, x, y, x, t / y⟩ t 1 = (⟨2, x, y, x, t / y⟩, ⟨3, t / y * y + y, 0⟩) ∧ t < t / y * y + y ∧ t / y * y + y ≤ 3000 ∧
      admQ ⟨2, x, y, x, t / y⟩ (t / y * y + y - 1) 1 = (⟨2, x, y, x, t / y⟩, ⟨3, t / y * y + y, 0⟩) ∧
      (admQ ⟨2, x, y, x, t / y⟩ (t / y * y + y) 1).2.c = 2) := by
  have hd := Int.emod_add_mul_ediv t y
  have h0 : 0 ≤ t % y := Int.emod_nonneg _ (by omega)
  have h1 : t % y < y := Int.emod_lt_of_pos _ (by omega)
  have hdv : 0 ≤ t / y := Int.ediv_nonneg (by omega) (by omega)
  have hc : y * (t / y) = t / y * y := Int.mul_comm _ _
  have d1 : (t / y * y + y - 1) / y = t / y := by
    have e : t / y * y + y - 1 = (y - 1) + y * (t / y) := by omega
    rw [e, Int.add_mul_ediv_left _ _ (by omega), Int.ediv_eq_zero_of_lt (by omega) (by omega)]
    omega
  have d2 : (t / y * y + y) / y = t / y + 1 := by
    have e : t / y * y + y = 0 + y * (t / y + 1) := by rw [Int.mul_add]; omega
    rw [e, Int.add_mul_ediv_left _ _ (by omega)]
    simp
  have o1 : orNever (t / y * y + y) = t / y * y + y := by unfold orNever; split <;> omega
  have n2 : ¬ (2 : Int) = 1 := by omega
  generalize hW : t / y = W at *
  have t0 : (if W = 0 then (⟨2, x, y, 0, 0⟩ : Qt) else ⟨2, x, y, 0, W⟩) = ⟨2, x, y, 0, W⟩ := by
    split
    · rename_i h; rw [h]
    · rfl
  refine ⟨?_, ?_, ?_, ?_⟩
  · simp only [admQ, n2, if_false, turnM, hW, t0, admW]
    rw [if_neg (by omega), if_pos (by omega)]
  · simp only [admQ, n2, if_false, turnM, hW, if_true, admW]
    rw [if_pos (by omega)]
    simp
  · intro h
    simp only [admQ, n2, if_false, turnM, hW, if_true, admW]
    rw [if_neg (by omega), if_pos (by omega)]
  · intro h
    refine ⟨?_, by omega, by omega, ?_, ?_⟩
    · simp only [admQ, n2, if_false, turnM, hW, if_true, admW, o1]
      rw [if_neg (by omega), if_neg (by omega)]
    · simp only [admQ, n2, if_false, turnM, d1, if_true, admW, o1]
      rw [if_neg (by omega), if_neg (by omega)]
    · simp only [admQ, n2, if_false, turnM, d2, admW]
      rw [if_neg (by omega : ¬ W + 1 = W)]
      rw [if_pos (by show (0 : Int) + 1 ≤ x; omega)]
theorem admM_den {z z' : Qt} {T n a b : Int} (h : admQ z T n = (z', ⟨3, a, b⟩)) : admM z T n = (z, ⟨3, a, b⟩) := by
  unfold admM
  rw [h]
  simp
theorem admM_in {z z' : Qt} {T n a b : Int} (h : admQ z T n = (z', ⟨2, a, b⟩)) (hn : n ≠ 0) : admM z T n = (z', ⟨2, a, b⟩) := by
  unfold admM
  rw [h]
  simp [hn]
theorem admM_none {z : Qt} {T : Int} : admM z T 0 = (z, (admQ z T 0).2) := by
  unfold admM
  simp
theorem admM_c {z : Qt} {T n : Int} : (admM z T n).2 = (admQ z T n).2 := rfl
theorem drawn_spaced (x y t m : Int) (hx : 1 ≤ x ∧ x ≤ 50) (hy : 0 ≤ y ∧ y ≤ 200) (ht : 1 ≤ t ∧ t ≤ 2000) (hm : m = y / x + 1) :
    admM ⟨1, x, y, 0, 0⟩ t (m + 1) = (⟨1, x, y, 0, 0⟩, ⟨3, 18446744073709551615, 0⟩) ∧
    admM ⟨1, x, y, 0, 0⟩ t m = (⟨1, x, y, t + m * x, 0⟩, ⟨2, t + m * x, 0⟩) ∧
    admM ⟨1, x, y, t + m * x, 0⟩ t 1 = (⟨1, x, y, t + m * x, 0⟩, ⟨3, t + m * x - y, 0⟩) ∧
    t < t + m * x - y ∧ t + m * x - y ≤ 3000 ∧
    admM ⟨1, x, y, t + m * x, 0⟩ (t + m * x - y - 1) 1 = (⟨1, x, y, t + m * x, 0⟩, ⟨3, t + m * x - y, 0⟩) ∧
    (admM ⟨1, x, y, t + m * x, 0⟩ (t + m * x - y) 1).2.c = 2 := by
  obtain ⟨g1, g2, g3, g4, g5, g6, g7⟩ := drawn_spacedQ x y t m hx hy ht hm
  have hd : 0 ≤ y / x := Int.ediv_nonneg (by omega) (by omega)
  exact ⟨admM_den g1, admM_in g2 (by omega), admM_den g3, g4, g5, admM_den g6, g7⟩
theorem drawn_window (x y t : Int) (hx : 0 ≤ x ∧ x ≤ 20) (hy : 1 ≤ y ∧ y ≤ 100) (ht : 1 ≤ t ∧ t ≤ 2000) :
    admM ⟨2, x, y, 0, 0⟩ t (x + 1) = (⟨2, x, y, 0, 0⟩, ⟨3, 18446744073709551615, 0⟩) ∧
    (x = 0 → admM ⟨2, x, y, 0, 0⟩ t x = (⟨2, x, y, 0, 0⟩, ⟨2, x, t / y⟩) ∧ admM ⟨2, x, y, 0, 0⟩ t 1 = (⟨2, x, y, 0, 0⟩, ⟨3, 18446744073709551615, 0⟩)) ∧
    (x ≠ 0 → admM ⟨2, x, y, 0, 0⟩ t x = (⟨2, x, y, x, t / y⟩, ⟨2, x, t / y⟩) ∧ admM ⟨2, x, y, x, t / y⟩ t 1 = (⟨2, x, y, x, t / y⟩, ⟨3, t / y * y + y, 0⟩) ∧ t < t / y * y + y ∧ t / y * y + y ≤ 3000 ∧
      admM ⟨2, x, y, x, t / y⟩ (t / y * y + y - 1) 1 = (⟨2, x, y, x, t / y⟩, ⟨3, t / y * y + y, 0⟩) ∧
      (admM ⟨2, x, y, x, t / y⟩ (t / y * y + y) 1).2.c = 2) := by
  obtain ⟨g1, g2, g3, g4⟩ := drawn_windowQ x y t hx hy ht
  have e0 : ∀ n, admQ ⟨2, x, y, 0, 0⟩ t n = admQ ⟨2, x, y, 0, t / y⟩ t n := fun n => by
    have n2 : ¬ (2 : Int) = 1 := by omega
    have tt : turnM ⟨2, x, y, 0, 0⟩ t = turnM ⟨2, x, y, 0, t / y⟩ t := by
      simp only [turnM, n2, if_false, if_true]
      split
      · rename_i h; rw [h]
      · rfl
    simp only [admQ, n2, if_false, tt]
  refine ⟨admM_den g1, fun h => ?_, fun h => ?_⟩
  · have e1 := g2
    rw [← e0] at e1
    refine ⟨?_, ?_⟩
    · unfold admM
      rw [e1]
      simp [h]
    · have e2 := g3 h
      have e3 : admQ ⟨2, x, y, 0, 0⟩ t 1 = admQ ⟨2, x, y, x, t / y⟩ t 1 := by rw [e0, h]
      unfold admM
      rw [e3, e2]
      simp
  · obtain ⟨g5, g6, g7, g8, g9⟩ := g4 h
    have e1 := g2
    rw [← e0] at e1
    exact ⟨admM_in e1 h, admM_den g5, g6, g7, admM_den g8, g9⟩
end Go.Proofs.YtnlgndpcddngoaaGreatDoor
