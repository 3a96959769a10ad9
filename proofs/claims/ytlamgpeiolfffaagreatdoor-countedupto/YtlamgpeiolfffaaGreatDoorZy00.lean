import Derived.Test.YtlamgpeiolfffaaGreatDoorProg
import Derived.WalkKit
import Derived.WalkSpells
import Derived.WalkLawsBesides
import Derived.Laws.CopyOwn
import Derived.BigQuiet
import Derived.Deep.QuietTactic
import Derived.Deep.RegionLaw
import Derived.Laws.Externs
import Derived.Laws.EntriesVeiled
import Derived.BigRegion
import Derived.RegionTactic
import Derived.Deep.WholeRow
import Derived.Maps.OwnSet
import Derived.WideKeyArr
import Derived.Shelf.Bits.Mul64
import Derived.Deep.RegionWith
import Derived.Deep.DeepCutAuto
import Derived.Laws.LoneSync
import Derived.Laws.Small
import Derived.Conc.MuLone
import Derived.Deep.RegionHeld3
import Derived.LoopN
import Derived.Maps.RangeWalk
import Derived.Laws.IdiomRangeMap
import Derived.Defers
import Derived.Recover
import Derived.Laws.Pointers
import Derived.Carry
import Derived.Maps.Own
set_option linter.unusedSectionVars false
namespace Go.Proofs.YtlamgpeiolfffaaGreatDoor
open Go.RowKit

theorem hide {p : Prop} (h : p) : Hid p := h
theorem unhide {p : Prop} (h : Hid p) : p := h

/-- How many bytes follow the first of a request. -/
def reqLen (op : Int) : Int := if op = 1 then 26 else if op = 2 then 17 else if op = 3 ∨ op = 4 then 9 else if op = 5 ∨ op = 6 then 1 else 0

set_option maxHeartbeats 400000 in
theorem len_any (op : Int) (w : World) :
    Calls Tryz.prog 62 #[.int .u8 op] w fun e w' => e = .returned (.int .i64 (reqLen op)) ∧ w' = w := by
  by_cases h1 : op = 1
  · subst h1
    go_enter Tryz.func62, Tryz.ntmps62
    go_wp2
    go_ret
    exact ⟨rfl, rfl⟩
  by_cases h2 : op = 2
  · subst h2
    go_enter Tryz.func62, Tryz.ntmps62
    go_wp2
    go_ret
    exact ⟨rfl, rfl⟩
  by_cases h3 : op = 3
  · subst h3
    go_enter Tryz.func62, Tryz.ntmps62
    go_wp2
    go_ret
    exact ⟨rfl, rfl⟩
  by_cases h4 : op = 4
  · subst h4
    go_enter Tryz.func62, Tryz.ntmps62
    go_wp2
    go_ret
    exact ⟨rfl, rfl⟩
  by_cases h5 : op = 5
  · subst h5
    go_enter Tryz.func62, Tryz.ntmps62
    go_wp2
    go_ret
    exact ⟨rfl, rfl⟩
  by_cases h6 : op = 6
  · subst h6
    go_enter Tryz.func62, Tryz.ntmps62
    go_wp2
    go_ret
    exact ⟨rfl, rfl⟩
  have e : reqLen op = 0 := by simp [reqLen, h1, h2, h3, h4, h5, h6]
  rw [e]
  have b1 : (op == 1) = false := by simpa using h1
  have b2 : (op == 2) = false := by simpa using h2
  have b3 : (op == 3) = false := by simpa using h3
  have b4 : (op == 4) = false := by simpa using h4
  have b5 : (op == 5) = false := by simpa using h5
  have b6 : (op == 6) = false := by simpa using h6
  clear h1 h2 h3 h4 h5 h6 e
  go_enter Tryz.func62, Tryz.ntmps62
  go_wp2
  go_ret
  exact ⟨rfl, rfl⟩

theorem Tryz.info5 : (Tryz.prog.info? 5).map (fun i => (i.zero, i.size, i.bytes)) = some (some (.int .u8 0), 1, 1) := by kernel_rfl

theorem cell_two (w : World) (u v : Value) : ∀ j x, ([u, v] : List Value)[j]? = some x → (w.alloc (.cells #[u, v] 5)).cell? ((⟨w.heap.size, 0, none⟩ : Addr).add j) = some x := by
  intro j x hj
  match j, hj with
  | 0, hj => simp at hj; subst hj; simp [Addr.add]
  | 1, hj => simp at hj; subst hj; simp [Addr.add]

set_option maxRecDepth 100000 in
set_option maxHeartbeats 400000 in
theorem start_any (n : Nat) (s : Int) (w : World) (h0 : 0 < n) (h1 : n ≤ 26) :
    Calls Tryz.prog 63 #[.int .i64 n, .int .u8 s] w fun e w' => e = .returned (.slice (some ⟨w.heap.size, 0, none⟩) 2 (1 + n)) ∧ w'.ownsRow w.heap.size 5 1 (.slice (some ⟨w.heap.size, 0, none⟩) 2 (1 + n)) 2 [.int .u8 n, .int .u8 s] ∧ Below w.heap.size w w' := by
  obtain ⟨i0, hi, hz0, hz1, hz2⟩ := info_parts Tryz.info5
  go_enter Tryz.func63, Tryz.ntmps63
  go_wp2_with (first | (at_make; refine wpList_make_own _ rfl _ _ 69 rfl w.heap.size 5 i0 (.int .u8 0) 1 Tryz.underlying69 hi hz0 hz1 _ _ _ (1 + n) rfl rfl (by omega) (by rw [hz2]; omega) (by unfold maxLen; omega) (Nat.le_refl _) ?_; intro w1 hown1 hgrow1) | (at_builtin; refine wpList_append_fits _ rfl _ _ 69 rfl w.heap.size 5 i0 1 Tryz.underlying69 hi hz1 w.heap.size 0 (1 + n) [] rfl (hown1.alloc _) ⟨w1.heap.size, 0, none⟩ 2 2 [.int .u8 n, .int .u8 s] rfl rfl (cell_two _ _ _) (by simp [Value.oneCell']) (by omega) ?_; intro w2 hown2 hgrow2))
  go_ret
  refine ⟨rfl, by simpa using hown2, ?_⟩
  exact (((Below.refl _ _).grown hgrow1 (Nat.le_refl _) (by simp)).alloc hgrow1.size _).grown hgrow2 (by have := hgrow1.size; simp; omega) (by intro k hk; injection hk with hk; omega)
theorem start_at (n : Nat) (s : Int) (w : World) (B : Nat) (hB : w.heap.size = B) (h0 : 0 < n) (h1 : n ≤ 26) :
    Calls Tryz.prog 63 #[.int .i64 n, .int .u8 s] w fun e w' => e = .returned (.slice (some ⟨B, 0, none⟩) 2 (1 + n)) ∧ w'.ownsRow B 5 1 (.slice (some ⟨B, 0, none⟩) 2 (1 + n)) 2 [.int .u8 n, .int .u8 s] ∧ Below B w w' := by
  subst hB; exact start_any n s w h0 h1
end Go.Proofs.YtlamgpeiolfffaaGreatDoor

namespace Go.Proofs.YtlamgpeiolfffaaGreatDoor
open Go.RowKit

/-- The byte number j of a number, the highest first. -/
def nb (v : Int) (j : Nat) : Int := v / 2 ^ (56 - 8 * j) % 256
def be8 (v : Int) : List Int := [nb v 0, nb v 1, nb v 2, nb v 3, nb v 4, nb v 5, nb v 6, nb v 7]

theorem be8_take (v : Int) (j : Nat) (h : j < 8) : (be8 v).take (j + 1) = (be8 v).take j ++ [v / 2 ^ (56 - 8 * j) % 256] := by
  match j, h with
  | 0, _ => rfl
  | 1, _ => rfl
  | 2, _ => rfl
  | 3, _ => rfl
  | 4, _ => rfl
  | 5, _ => rfl
  | 6, _ => rfl
  | 7, _ => rfl
set_option maxRecDepth 100000 in
set_option maxHeartbeats 400000 in
theorem num_any (g k cap base : Nat) (xs : List Value) (v : Int) (w : World) (hown : w.ownsRow base 5 1 (.slice (some ⟨g, 0, none⟩) k cap) k xs) (hroom : k + 8 ≤ cap) (_hv0 : 0 ≤ v) (_hv1 : v ≤ 18446744073709551615) :
    Calls Tryz.prog 64 #[.slice (some ⟨g, 0, none⟩) k cap, .int .u64 v] w fun e w' => e = .returned (.slice (some ⟨g, 0, none⟩) (k + 8) cap) ∧ w'.ownsRow base 5 1 (.slice (some ⟨g, 0, none⟩) (k + 8) cap) (k + 8) (xs ++ (be8 v).map (Value.int .u8)) ∧ w.grownBy w' (some g) := by
  obtain ⟨i0, hi, hz0, hz1, hz2⟩ := info_parts Tryz.info5
  go_enter Tryz.func64, Tryz.ntmps64
  go_wp2
  go_loopw [0, 5] (fun b s wr => ∃ j : Nat, j ≤ 8 ∧ s = .int .i64 (56 - 8 * (j : Int)) ∧ b = .slice (some ⟨g, 0, none⟩) (k + j) cap ∧ wr.ownsRow base 5 1 (.slice (some ⟨g, 0, none⟩) (k + j) cap) (k + j) (xs ++ ((be8 v).take j).map (Value.int .u8)) ∧ w.grownBy wr (some g)) (fun _ s _ => (intOf s + 8).toNat)
  case atStart => exact ⟨0, Nat.zero_le _, rfl, rfl, by simpa using hown, World.grownBy.refl _ _⟩
  case round =>
    obtain ⟨j, hj, rfl, rfl, hownr, hgr⟩ := hrel
    by_cases hlt : j < 8
    · go_wp2_with (at_builtin; refine wpList_append_fits _ rfl _ _ 69 rfl base 5 i0 1 Tryz.underlying69 hi hz1 g (k + j) cap _ rfl (hownr.alloc _) ⟨wr.heap.size, 0, none⟩ 1 1 [.int .u8 (v / 2 ^ (56 - 8 * j) % 256)] rfl rfl (cell_one_new _ _ _) (by simp [Value.oneCell']) (by omega) ?_; intro w2 hown2 hgrow2)
      go_roundw
      case rel => exact ⟨j + 1, by omega, by go_num, rfl, by rw [be8_take v j hlt]; simpa [Nat.add_assoc] using hown2, (hgr.trans (World.grownBy_alloc _ _ _)).trans hgrow2⟩
      case measure => simp [intOf]; omega
    · obtain rfl : j = 8 := by omega
      go_wp2
      go_ret
      exact ⟨rfl, hownr, hgr⟩
end Go.Proofs.YtlamgpeiolfffaaGreatDoor

namespace Go.Proofs.YtlamgpeiolfffaaGreatDoor
open Go.RowKit

set_option maxHeartbeats 400000 in
theorem size_any (op : Int) (w : World) :
    Calls Tryz.prog 78 #[.int .u8 op] w fun e w' => e = .returned (.int .i64 (reqLen op)) ∧ w' = w := by
  by_cases h1 : op = 1
  · subst h1
    go_enter Tryz.func78, Tryz.ntmps78
    go_wp2
    go_ret
    exact ⟨rfl, rfl⟩
  by_cases h2 : op = 2
  · subst h2
    go_enter Tryz.func78, Tryz.ntmps78
    go_wp2
    go_ret
    exact ⟨rfl, rfl⟩
  by_cases h3 : op = 3
  · subst h3
    go_enter Tryz.func78, Tryz.ntmps78
    go_wp2
    go_ret
    exact ⟨rfl, rfl⟩
  by_cases h4 : op = 4
  · subst h4
    go_enter Tryz.func78, Tryz.ntmps78
    go_wp2
    go_ret
    exact ⟨rfl, rfl⟩
  by_cases h5 : op = 5
  · subst h5
    go_enter Tryz.func78, Tryz.ntmps78
    go_wp2
    go_ret
    exact ⟨rfl, rfl⟩
  by_cases h6 : op = 6
  · subst h6
    go_enter Tryz.func78, Tryz.ntmps78
    go_wp2
    go_ret
    exact ⟨rfl, rfl⟩
  have e : reqLen op = 0 := by simp [reqLen, h1, h2, h3, h4, h5, h6]
  rw [e]
  have b1 : (op == 1) = false := by simpa using h1
  have b2 : (op == 2) = false := by simpa using h2
  have b3 : (op == 3) = false := by simpa using h3
  have b4 : (op == 4) = false := by simpa using h4
  have b5 : (op == 5) = false := by simpa using h5
  have b6 : (op == 6) = false := by simpa using h6
  clear h1 h2 h3 h4 h5 h6 e
  go_enter Tryz.func78, Tryz.ntmps78
  go_wp2
  go_ret
  exact ⟨rfl, rfl⟩


theorem div_step (n : Int) (j : Nat) : n / 256 ^ j / 256 = n / 256 ^ (j + 1) := by
  rw [Int.ediv_ediv_of_nonneg (Int.pow_nonneg (by omega)), Int.pow_succ]
theorem nb_eq (n : Int) (j : Nat) (hj : j < 8) : n / 256 ^ (7 - j) % 256 = n / 2 ^ (56 - 8 * j) % 256 := by
  match j, hj with
  | 0, _ => rfl
  | 1, _ => rfl
  | 2, _ => rfl
  | 3, _ => rfl
  | 4, _ => rfl
  | 5, _ => rfl
  | 6, _ => rfl
  | 7, _ => rfl

set_option maxRecDepth 100000 in
set_option maxHeartbeats 1000000 in
theorem refnum_any (v : Value) (k base : Nat) (xs : List Value) (n : Int) (w : World) (hown : w.ownsRow base 5 1 v k xs) (hb : base ≤ w.heap.size) (hk : k ≤ 1000) (hn0 : 0 ≤ n) (hn1 : n ≤ 18446744073709551615) :
    Calls Tryz.prog 79 #[v, .int .u64 n] w fun e w' => ∃ v', e = .returned v' ∧ w'.ownsRow base 5 1 v' (k + 8) (xs ++ (be8 n).map (Value.int .u8)) ∧ Below base w w' := by
  obtain ⟨i0, hi, hz0, hz1, hz2⟩ := info_parts Tryz.info5
  go_enter Tryz.func79, Tryz.ntmps79
  go_wp2
  go_loopw [0, 5] (fun b s wr => ∃ j : Nat, j ≤ 8 ∧ s = .int .i64 (7 - (j : Int)) ∧ wr.ownsRow base 5 1 b (k + j) (xs ++ ((be8 n).take j).map (Value.int .u8)) ∧ Below base w wr) (fun _ s _ => (intOf s + 1).toNat)
  case atStart => exact ⟨0, Nat.zero_le _, rfl, by simpa using hown, Below.refl _ _⟩
  case round =>
    obtain ⟨j, hj, rfl, hownr, hBr⟩ := hrel
    by_cases hlt : j < 8
    · have hd : decide ((j : Int) ≤ 7) = true := by simp; omega
      go_wp2
      go_loop [6, 7] (fun b kk => ∃ (m : Nat) (bv : Int), m ≤ 7 - j ∧ kk = .int .i64 m ∧ b = .int .u64 bv ∧ 0 ≤ bv ∧ bv ≤ 18446744073709551615 ∧ Hid (bv = n / 256 ^ m)) (fun _ kk => (7 - j) - (intOf kk).toNat)
      case atStart => exact ⟨0, n, Nat.zero_le _, rfl, rfl, hn0, hn1, by show n = n / 256 ^ 0; simp⟩
      case round =>
        obtain ⟨m, bv, hm, rfl, rfl, hb0, hb1, HV⟩ := hrel
        by_cases hml : m < 7 - j
        · go_wp2
          go_round
          case rel => exact ⟨m + 1, bv / 256, by omega, by go_num, rfl, by omega, by omega, by show bv / 256 = n / 256 ^ (m + 1); rw [HV.out, div_step]⟩
          case measure => simp [intOf]; omega
        · obtain rfl : m = 7 - j := by omega
          have HB : Hid (bv % 256 = n / 2 ^ (56 - 8 * j) % 256) := by show _ = _; rw [HV.out, nb_eq n j hlt]
          clear HV
          go_wp2_with (at_builtin; refine wpList_append_own _ rfl _ _ 69 rfl base 5 i0 (.int .u8 0) 1 1 Tryz.underlying69 hi hz0 hz1 hz2 rfl (by decide) u0 (k + j) _ rfl (hownr.alloc _) ⟨wr.heap.size, 0, none⟩ 1 1 [.int .u8 (bv % 256)] rfl rfl (cell_one_new _ _ _) (by simp [Value.oneCell']) (by unfold maxLen; omega) (by omega) (by have := hBr.size; simp; omega) ?_; intro v2 w2 hown2 hgrow2 _)
          go_roundw
          case rel => exact ⟨j + 1, by omega, by go_num, by rw [be8_take n j hlt, ← HB.out]; simpa [Nat.add_assoc] using hown2, (hBr.alloc (by have := hBr.size; omega) _).grown hgrow2 (by have := hBr.size; simp; omega) (fun kk hkk => (hownr.lt kk hkk).1)⟩
          case measure => simp [intOf]; omega
    · obtain rfl : j = 8 := by omega
      go_wp2
      go_ret
      exact ⟨_, rfl, hownr, hBr⟩
end Go.Proofs.YtlamgpeiolfffaaGreatDoor

namespace Go.Proofs.YtlamgpeiolfffaaGreatDoor
open Go.RowKit

set_option maxRecDepth 100000 in
set_option maxHeartbeats 400000 in
theorem small_more (F g o m : Nat) (b : Int) (w : World) (hF : w.cell? ⟨F, 0, none⟩ = some (.slice (some ⟨g, o, none⟩) m m)) (hz : w.frozen? ⟨F, 0, none⟩ = false) (hm : 1 < m) (hm1 : m ≤ 255) (hc : w.cell? ⟨g, o, none⟩ = some (.int .u8 b)) :
    Calls Tryz.prog 99 #[.pointer (some ⟨F, 0, none⟩)] w fun e w' => e = .returned (.int .u8 b) ∧ w' = w.setCell ⟨F, 0, none⟩ (.slice (some ⟨g, o + 1, none⟩) (m - 1) (m - 1)) := by
  have hmp : 0 < m := by omega
  have hmI : (0 : Int) < m := by omega
  have hme : ¬ m = 1 := by omega
  go_enter Tryz.func99, Tryz.ntmps99
  go_wp2
  go_ret
  exact ⟨rfl, rfl⟩

set_option maxRecDepth 100000 in
set_option maxHeartbeats 400000 in
theorem small_last (F g o : Nat) (b : Int) (w : World) (hF : w.cell? ⟨F, 0, none⟩ = some (.slice (some ⟨g, o, none⟩) 1 1)) (hz : w.frozen? ⟨F, 0, none⟩ = false) (hc : w.cell? ⟨g, o, none⟩ = some (.int .u8 b)) :
    Calls Tryz.prog 99 #[.pointer (some ⟨F, 0, none⟩)] w fun e w' => e = .returned (.int .u8 b) ∧ ∃ v, w' = w.setCell ⟨F, 0, none⟩ v := by
  go_enter Tryz.func99, Tryz.ntmps99
  go_wp2
  go_ret
  exact ⟨rfl, _, rfl⟩

/-- The number whose first j bytes are c 0, c 1, .. -/
def rdTo (c : Nat → Int) : Nat → Int
  | 0 => 0
  | j + 1 => rdTo c j * 256 + c j

theorem u64_small (n : Int) (h0 : 0 ≤ n) (h1 : n < 2 ^ 64) : IntKind.u64.wrap n = n := by rw [IntKind.wrap_u64]; omega
theorem or_byte (x c : Int) (hx : 0 ≤ x) (hx1 : x < 2 ^ 56) (hc : 0 ≤ c) (hc1 : c ≤ 255) : bits BinOp.or IntKind.u64 (IntKind.u64.wrap (x * 256)) c = x * 256 + c := by
  rw [u64_small _ (by omega) (by omega)]
  exact bits_join .u64 64 (by decide) (fun n => u64_small n) 8 (x * 256) c (by omega) (by omega) (by omega) hc (by omega) (by omega)
theorem rdTo_bound (c : Nat → Int) (hr : ∀ j, 0 ≤ c j ∧ c j ≤ 255) : ∀ j, 0 ≤ rdTo c j ∧ rdTo c j < 256 ^ j
  | 0 => by simp [rdTo]
  | j + 1 => by
    have h := rdTo_bound c hr j
    have hj := hr j
    simp only [rdTo]
    rw [Int.pow_succ]
    omega
theorem rdTo_lt (c : Nat → Int) (hr : ∀ j, 0 ≤ c j ∧ c j ≤ 255) (j : Nat) (hj : j < 8) : 0 ≤ rdTo c j ∧ rdTo c j < 2 ^ 56 := by
  have h := rdTo_bound c hr j
  refine ⟨h.1, ?_⟩
  match j, hj with
  | 0, _ => omega
  | 1, _ => omega
  | 2, _ => omega
  | 3, _ => omega
  | 4, _ => omega
  | 5, _ => omega
  | 6, _ => omega
  | 7, _ => omega
theorem int_u64 {a b : Int} (h : a = b) : Value.int .u64 a = .int .u64 b := by rw [h]

set_option maxRecDepth 100000 in
set_option maxHeartbeats 400000 in
theorem number_any (F g o m : Nat) (c : Nat → Int) (w : World) (hF : w.cell? ⟨F, 0, none⟩ = some (.slice (some ⟨g, o, none⟩) m m)) (hz : w.frozen? ⟨F, 0, none⟩ = false) (hm : 8 ≤ m) (hm1 : m ≤ 255) (hc : ∀ j, j < 8 → w.cell? ⟨g, o + j, none⟩ = some (.int .u8 (c j))) (hr : ∀ j, 0 ≤ c j ∧ c j ≤ 255) :
    Calls Tryz.prog 101 #[.pointer (some ⟨F, 0, none⟩)] w fun e w' => e = .returned (.int .u64 (rdTo c 8)) ∧ ∃ ao, w' = w.setCell ⟨F, 0, none⟩ (.slice ao (m - 8) (m - 8)) ∧ (8 < m → ao = some ⟨g, o + 8, none⟩) := by
  go_enter Tryz.func101, Tryz.ntmps101
  go_wp2
  go_loop [3, 12] (fun v i => ∃ j : Nat, j ≤ 8 ∧ i = .int .i64 j ∧ v = .int .u64 (rdTo c j)) (fun _ i => 8 - (intOf i).toNat)
  case atStart => exact ⟨0, by omega, rfl, rfl⟩
  case round =>
    obtain ⟨j, hj, rfl, rfl⟩ := hrel
    by_cases hlt : j < 8
    · have hcj := hc j hlt
      have hrj := hr j
      have HB := hide (rdTo_lt c hr j hlt)
      have HR := hide hrj
      go_wp2
      go_round
      case rel => exact ⟨j + 1, by omega, by go_num, int_u64 (or_byte _ _ HB.out.1 HB.out.2 HR.out.1 HR.out.2)⟩
      case measure => simp [intOf]; omega
    · obtain rfl : j = 8 := by omega
      by_cases hme : m = 8
      · subst hme
        go_wp2

        go_ret
        exact ⟨rfl, _, rfl⟩
      · go_wp2

        go_ret
        exact ⟨rfl, _, rfl, fun _ => rfl⟩
end Go.Proofs.YtlamgpeiolfffaaGreatDoor

namespace Go.Proofs.YtlamgpeiolfffaaGreatDoor
open Go.RowKit

set_option maxRecDepth 100000 in
set_option maxHeartbeats 400000 in
theorem refread (g o m cap : Nat) (c : Nat → Int) (w : World) (hm : 8 ≤ m) (hm1 : m ≤ 1048576) (hc : ∀ j, j < 8 → w.cell? ⟨g, o + j, none⟩ = some (.int .u8 (c j))) (hr : ∀ j, 0 ≤ c j ∧ c j ≤ 255) :
    Calls Tryz.prog 81 #[.slice (some ⟨g, o, none⟩) m cap] w fun e w' => e = .returned (.int .u64 (rdTo c 8)) ∧ w' = w := by
  go_enter Tryz.func81, Tryz.ntmps81
  go_wp2
  go_loop [3, 4] (fun v i => ∃ (j : Nat) (x : Int), j ≤ 8 ∧ i = .int .i64 j ∧ v = .int .u64 x ∧ 0 ≤ x ∧ (j < 8 → x < 72057594037927936) ∧ Hid (x = rdTo c j)) (fun _ i => 8 - (intOf i).toNat)
  case atStart => exact ⟨0, 0, by omega, rfl, rfl, by omega, by omega, by show (0 : Int) = 0; rfl⟩
  case round =>
    obtain ⟨j, x, hj, rfl, rfl, hx0, hx1, HX⟩ := hrel
    by_cases hlt : j < 8
    · have hcj := hc j hlt
      have hrj := hr j
      have hxb := hx1 hlt
      have hjm : j < m := by omega

      have HC := hide hr
      clear hx1 hr
      go_wp2
      go_round
      case rel => exact ⟨j + 1, rdTo c (j + 1), by omega, by go_num, int_u64 (by rw [HX.out]; rfl), (rdTo_bound c HC.out (j + 1)).1, fun h => by have := (rdTo_lt c HC.out (j + 1) h).2; omega, rfl⟩
      case measure => simp [intOf]; omega
    · obtain rfl : j = 8 := by omega
      go_wp2
      go_ret
      exact ⟨by rw [← HX.out]; rfl, rfl⟩
end Go.Proofs.YtlamgpeiolfffaaGreatDoor

namespace Go.Proofs.YtlamgpeiolfffaaGreatDoor
open Go.RowKit

theorem add64_run (x y : Int) (hx : 0 ≤ x) (hy : 0 ≤ y) (w : World) :
    (callFunc 144 #[.int .u64 x, .int .u64 y, .int .u64 0]).run Tryz.prog w =
      .ok (.value (.tuple #[.int .u64 ((x + y + 0) % 18446744073709551616), .int .u64 ((x + y + 0) / 18446744073709551616)])) w := by
  rw [run_callFunc_extern Tryz.func144 (by kernel_rfl) (by kernel_rfl) (by kernel_rfl) (e := add64Entry) (by kernel_rfl), run_add64 x y 0 hx hy (by omega) (by omega)]
  rfl

set_option maxRecDepth 100000 in
theorem sum_room (a b : Int) (w : World) (ha : 0 ≤ a) (hb : 0 ≤ b) (h : a + b ≤ 18446744073709551615) :
    Calls Tryz.prog 141 #[.int .u64 a, .int .u64 b] w fun e w' => e = .returned (.tuple #[.int .u64 (a + b), .bool true]) ∧ w' = w := by
  have hrun := add64_run a b ha hb w
  have e1 : (a + b + 0) % 18446744073709551616 = a + b := by omega
  have e2 : (a + b + 0) / 18446744073709551616 = 0 := by omega
  rw [e1, e2] at hrun
  go_enter Tryz.func141, Tryz.ntmps141
  go_wp2
  go_ret2
  exact ⟨rfl, rfl⟩

set_option maxRecDepth 100000 in
theorem sum_none (a b : Int) (w : World) (ha : 0 ≤ a) (hb : 0 ≤ b) (ha1 : a ≤ 18446744073709551615) (hb1 : b ≤ 18446744073709551615) (h : 18446744073709551615 < a + b) :
    Calls Tryz.prog 141 #[.int .u64 a, .int .u64 b] w fun e w' => e = .returned (.tuple #[.int .u64 0, .bool false]) ∧ w' = w := by
  have hrun := add64_run a b ha hb w
  have e2 : (a + b + 0) / 18446744073709551616 = 1 := by omega
  rw [e2] at hrun
  go_enter Tryz.func141, Tryz.ntmps141
  go_wp2
  go_ret2
  exact ⟨rfl, rfl⟩

/-- A number, or NEVER. -/
def orNever (x : Int) : Int := if x ≤ 18446744073709551615 then x else 18446744073709551615

set_option maxRecDepth 100000 in
theorem sumNever_any (a b : Int) (w : World) (ha : 0 ≤ a) (hb : 0 ≤ b) (ha1 : a ≤ 18446744073709551615) (hb1 : b ≤ 18446744073709551615) :
    Calls Tryz.prog 140 #[.int .u64 a, .int .u64 b] w fun e w' => e = .returned (.int .u64 (orNever (a + b))) ∧ w' = w := by
  by_cases h : a + b ≤ 18446744073709551615
  · have hc := sum_room a b w ha hb h
    rw [orNever, if_pos h]
    go_enter Tryz.func140, Tryz.ntmps140
    go_wp2_with (go_at_call 141; refine hc.mono ?_; rintro e w' ⟨rfl, rfl⟩)
    go_ret
    exact ⟨rfl, rfl⟩
  · have hc := sum_none a b w ha hb ha1 hb1 (by omega)
    rw [orNever, if_neg h]
    go_enter Tryz.func140, Tryz.ntmps140
    go_wp2_with (go_at_call 141; refine hc.mono ?_; rintro e w' ⟨rfl, rfl⟩)
    go_ret
    exact ⟨rfl, rfl⟩
end Go.Proofs.YtlamgpeiolfffaaGreatDoor

namespace Go.Proofs.YtlamgpeiolfffaaGreatDoor
open Go.RowKit

/-- A request, as numbers. -/
structure Rq where
  op : Int
  k0 : Int
  k1 : Int
  k2 : Int
  k3 : Int
  k4 : Int
  k5 : Int
  k6 : Int
  k7 : Int
  kd : Int
  x : Int
  y : Int
  n : Int
def Rq.zero : Rq := ⟨0, 0, 0, 0, 0, 0, 0, 0, 0, 0, 0, 0, 0⟩

/-- What is wrong with bytes (P4): 0: nothing; 1: they end too early; 2: they are no frame. -/
def rdErr (bs : List Int) : Int :=
  match bs with
  | [] => 1
  | b0 :: t => if b0 < 1 ∨ 26 < b0 then 2 else
    match t with
    | [] => 1
    | b1 :: _ => if b0 = reqLen b1 then (if (bs.length : Int) ≤ b0 then 1 else 0) else 2
def rdN (bs : List Int) : Int := if rdErr bs = 0 then bs.getD 0 0 + 1 else 0
def num8 (bs : List Int) (o : Nat) : Int := rdTo (fun j => bs.getD (o + j) 0) 8
def rdQ (bs : List Int) : Rq :=
  if rdErr bs = 0 then
    if bs.getD 1 0 = 1 then ⟨1, bs.getD 2 0, bs.getD 3 0, bs.getD 4 0, bs.getD 5 0, bs.getD 6 0, bs.getD 7 0, bs.getD 8 0, bs.getD 9 0, bs.getD 10 0, num8 bs 11, num8 bs 19, 0⟩
    else if bs.getD 1 0 = 2 then ⟨2, bs.getD 2 0, bs.getD 3 0, bs.getD 4 0, bs.getD 5 0, bs.getD 6 0, bs.getD 7 0, bs.getD 8 0, bs.getD 9 0, 0, 0, 0, num8 bs 10⟩
    else if bs.getD 1 0 = 3 ∨ bs.getD 1 0 = 4 then ⟨bs.getD 1 0, bs.getD 2 0, bs.getD 3 0, bs.getD 4 0, bs.getD 5 0, bs.getD 6 0, bs.getD 7 0, bs.getD 8 0, bs.getD 9 0, 0, 0, 0, 0⟩
    else ⟨bs.getD 1 0, 0, 0, 0, 0, 0, 0, 0, 0, 0, 0, 0, 0⟩
  else Rq.zero

/-- A reply, as numbers. -/
structure Rp where
  c : Int
  a : Int
  b : Int

/-- The bytes of a reply, by the document (P3). -/
def encRep (c a b : Int) : List Int := [17, c] ++ be8 a ++ be8 b

/-- A key. -/
structure Ky where
  k0 : Int
  k1 : Int
  k2 : Int
  k3 : Int
  k4 : Int
  k5 : Int
  k6 : Int
  k7 : Int
abbrev dK := DecidableEq Ky
abbrev iK := Inhabited Ky
variable [dK] [iK]
def Rq.key (q : Rq) : Ky := ⟨q.k0, q.k1, q.k2, q.k3, q.k4, q.k5, q.k6, q.k7⟩
structure Ky.ok (k : Ky) : Prop where
  h0 : 0 ≤ k.k0 ∧ k.k0 ≤ 255
  h1 : 0 ≤ k.k1 ∧ k.k1 ≤ 255
  h2 : 0 ≤ k.k2 ∧ k.k2 ≤ 255
  h3 : 0 ≤ k.k3 ∧ k.k3 ≤ 255
  h4 : 0 ≤ k.k4 ∧ k.k4 ≤ 255
  h5 : 0 ≤ k.k5 ∧ k.k5 ≤ 255
  h6 : 0 ≤ k.k6 ∧ k.k6 ≤ 255
  h7 : 0 ≤ k.k7 ∧ k.k7 ≤ 255

/-- A policy, and how a key stands by it. -/
structure Qt where
  kd : Int
  x : Int
  y : Int
  lv : Int
  wn : Int

/-- There is such a policy. -/
abbrev soundM (kd x y : Int) : Prop := (kd = 1 ∧ 1 ≤ x) ∨ (kd = 2 ∧ 1 ≤ y)
structure Qt.ok (q : Qt) : Prop where
  kd : soundM q.kd q.x q.y
  x : 0 ≤ q.x ∧ q.x ≤ 18446744073709551615
  y : 0 ≤ q.y ∧ q.y ≤ 18446744073709551615
  lv : 0 ≤ q.lv ∧ q.lv ≤ 18446744073709551615
  wn : 0 ≤ q.wn ∧ q.wn ≤ 18446744073709551615

/-- A quota at a time. -/
def turnM (q : Qt) (now : Int) : Qt := if q.kd = 1 then q else if now / q.y = q.wn then q else ⟨q.kd, q.x, q.y, 0, now / q.y⟩
def startM (q : Qt) (now : Int) : Int := if q.lv < now then now else q.lv
/-- P9. -/
def admS (q : Qt) (now n : Int) : Qt × Rp :=
  if n = 0 then (q, ⟨2, q.lv, q.wn⟩)
  else if 18446744073709551615 < startM q now + n * q.x then (q, ⟨3, 18446744073709551615, 0⟩)
  else if q.y < (n - 1) * q.x then (q, ⟨3, 18446744073709551615, 0⟩)
  else if orNever (now + q.y) < startM q now + (n - 1) * q.x then (q, ⟨3, startM q now + (n - 1) * q.x - q.y, 0⟩)
  else (⟨q.kd, q.x, q.y, startM q now + n * q.x, q.wn⟩, ⟨2, startM q now + n * q.x, q.wn⟩)
/-- P10. -/
def admW (q : Qt) (n : Int) : Qt × Rp :=
  if q.lv + n ≤ q.x then (⟨q.kd, q.x, q.y, q.lv + n, q.wn⟩, ⟨2, q.lv + n, q.wn⟩)
  else if q.x < n then (q, ⟨3, 18446744073709551615, 0⟩)
  else (q, ⟨3, orNever (q.wn * q.y + q.y), 0⟩)
def admM (q : Qt) (now n : Int) : Qt × Rp := if q.kd = 1 then admS q now n else admW (turnM q now) n

/-- The keys of a ledger, in the order in which they were defined. -/
def fnd (k : Ky) : List (Ky × Qt) → Option Qt
  | [] => none
  | (k', q) :: r => if k' = k then some q else fnd k r
def upd (k : Ky) (q : Qt) : List (Ky × Qt) → List (Ky × Qt)
  | [] => []
  | (k', q') :: r => if k' = k then (k', q) :: r else (k', q') :: upd k q r
def del (k : Ky) : List (Ky × Qt) → List (Ky × Qt)
  | [] => []
  | (k', q') :: r => if k' = k then r else (k', q') :: del k r

structure Ld where
  time : Int
  adm : Int
  ks : List (Ky × Qt)

structure Ld.ok (L : Ld) : Prop where
  time : 0 ≤ L.time ∧ L.time ≤ 18446744073709551615
  adm : 0 ≤ L.adm ∧ L.adm ≤ 18446744073709551615
  key : ∀ p ∈ L.ks, p.1.ok
  qt : ∀ p ∈ L.ks, p.2.ok
  nd : (L.ks.map Prod.fst).Nodup
  len : L.ks.length ≤ 12

/-- A request is done (P8 to P11, P16). -/
def doM (L : Ld) (q : Rq) : Ld × Rp :=
  if q.op = 1 then
    if ¬ soundM q.kd q.x q.y then (L, ⟨8, 0, 0⟩)
    else if (fnd q.key L.ks).isSome then (L, ⟨9, 0, 0⟩)
    else if 12 ≤ L.ks.length then (L, ⟨5, 0, 0⟩)
    else (⟨L.time, L.adm, L.ks ++ [(q.key, ⟨q.kd, q.x, q.y, 0, 0⟩)]⟩, ⟨1, 0, 0⟩)
  else if q.op = 2 then
    match fnd q.key L.ks with
    | none => (L, ⟨4, 0, 0⟩)
    | some z => (⟨L.time, if (admM z L.time q.n).2.c = 2 then (L.adm + q.n) % 18446744073709551616 else L.adm, upd q.key (admM z L.time q.n).1 L.ks⟩, (admM z L.time q.n).2)
  else if q.op = 3 then
    match fnd q.key L.ks with
    | none => (L, ⟨4, 0, 0⟩)
    | some z => (L, ⟨1, (turnM z L.time).lv, (turnM z L.time).wn⟩)
  else if q.op = 4 then
    match fnd q.key L.ks with
    | none => (L, ⟨4, 0, 0⟩)
    | some _ => (⟨L.time, L.adm, del q.key L.ks⟩, ⟨1, 0, 0⟩)
  else if q.op = 6 then (L, ⟨1, L.time, 0⟩)
  else (L, ⟨1, 0, 0⟩)

/-- The whole frames of bytes are done, one by one: the ledger, the replies, what is left, what is wrong with it. -/
def runM : Nat → Ld → List Int → Ld × List Rp × List Int × Int
  | 0, L, bs => (L, [], bs, rdErr bs)
  | n + 1, L, bs =>
    if rdErr bs = 0 then
      ((runM n (doM L (rdQ bs)).1 (bs.drop (rdN bs).toNat)).1, (doM L (rdQ bs)).2 :: (runM n (doM L (rdQ bs)).1 (bs.drop (rdN bs).toNat)).2.1, (runM n (doM L (rdQ bs)).1 (bs.drop (rdN bs).toNat)).2.2)
    else (L, [], bs, rdErr bs)

/-- A connection: bytes that wait; none more are read. -/
structure Cn where
  waits : List Int
  bad : Bool
def passM (L : Ld) (now : Int) : Ld := ⟨if L.time < now then now else L.time, L.adm, L.ks⟩
/-- Bytes come by a connection (P6, P7). -/
def feedM (L : Ld) (c : Cn) (now : Int) (bs : List Int) : Ld × Cn × List Rp :=
  if c.bad then (passM L now, c, [])
  else
    if (runM (c.waits ++ bs).length (passM L now) (c.waits ++ bs)).2.2.2 = 2 then
      ((runM (c.waits ++ bs).length (passM L now) (c.waits ++ bs)).1, ⟨[], true⟩, (runM (c.waits ++ bs).length (passM L now) (c.waits ++ bs)).2.1 ++ [⟨6, 0, 0⟩])
    else ((runM (c.waits ++ bs).length (passM L now) (c.waits ++ bs)).1, ⟨(runM (c.waits ++ bs).length (passM L now) (c.waits ++ bs)).2.2.1, false⟩, (runM (c.waits ++ bs).length (passM L now) (c.waits ++ bs)).2.1)
def encs (rs : List Rp) : List Int := rs.flatMap fun r => encRep r.c r.a r.b
end Go.Proofs.YtlamgpeiolfffaaGreatDoor

namespace Go.Proofs.YtlamgpeiolfffaaGreatDoor
open Go.RowKit
variable [dK] [iK]

set_option maxRecDepth 100000 in
set_option maxHeartbeats 400000 in
theorem requests_any (w : World) : Calls Tryz.prog 97 #[] w fun e w' => e = .returned (.agg #[.int .u8 1, .int .u8 26, .func (.func 62) #[] #[]]) ∧ Below w.heap.size w w' := by
  go_enter Tryz.func97, Tryz.ntmps97
  go_wp2
  exact bodyPost_ret (v := .agg #[.int .u8 1, .int .u8 26, .func (.func 62) #[] #[]]) (by simp [results, Tryz.results97, go_sem]) rfl ⟨rfl, (Below.refl _ w).alloc (Nat.le_refl _) _⟩

set_option maxRecDepth 100000 in
set_option maxHeartbeats 400000 in
theorem begin0 (ao : Option Addr) (cap : Nat) (w : World) :
    Calls Tryz.prog 121 #[.agg #[.int .u8 1, .int .u8 26, .func (.func 62) #[] #[]], .slice ao 0 cap] w fun e w' => e = .returned (.iface 46 (.int .i64 1)) ∧ Below w.heap.size w w' := by
  go_enter Tryz.func121, Tryz.ntmps121
  go_wp2
  go_ret
  exact ⟨rfl, (Below.refl _ w).alloc (Nat.le_refl _) _⟩

set_option maxRecDepth 100000 in
set_option maxHeartbeats 400000 in
theorem begin1 (g so n cap : Nat) (b0 : Int) (w : World) (hn : 0 < n) (hg : g < w.heap.size) (hc0 : w.cell? ⟨g, so, none⟩ = some (.int .u8 b0)) (hlo : b0 < 1) :
    Calls Tryz.prog 121 #[.agg #[.int .u8 1, .int .u8 26, .func (.func 62) #[] #[]], .slice (some ⟨g, so, none⟩) n cap] w fun e w' => e = .returned (.iface 46 (.int .i64 2)) ∧ Below w.heap.size w w' := by
  have hd : decide (b0 < 1) = true := by simpa using hlo
  have hn0 : ((n : Int) == 0) = false := by simp; omega
  have hc0' : (w.alloc (.cells #[.int .u8 1, .int .u8 26, .func (.func 62) #[] #[]] 188)).cell? ⟨g, so, none⟩ = some (.int .u8 b0) := by rw [World.cell?_alloc_lt _ _ ⟨g, so, none⟩ hg]; exact hc0
  go_enter Tryz.func121, Tryz.ntmps121
  go_wp2
  go_quiet (fail)
  go_wp2
  go_ret
  exact ⟨rfl, below_drewN ((Below.refl _ w).alloc (Nat.le_refl _) _) _⟩

set_option maxRecDepth 100000 in
set_option maxHeartbeats 400000 in
theorem begin2 (g so n cap : Nat) (b0 : Int) (w : World) (hn : 0 < n) (hg : g < w.heap.size) (hc0 : w.cell? ⟨g, so, none⟩ = some (.int .u8 b0)) (hlo : ¬ b0 < 1) (hhi : 26 < b0) :
    Calls Tryz.prog 121 #[.agg #[.int .u8 1, .int .u8 26, .func (.func 62) #[] #[]], .slice (some ⟨g, so, none⟩) n cap] w fun e w' => e = .returned (.iface 46 (.int .i64 2)) ∧ Below w.heap.size w w' := by
  have hd : decide (b0 < 1) = false := by simpa using hlo
  have hd2 : decide (26 < b0) = true := by simpa using hhi
  have hn0 : ((n : Int) == 0) = false := by simp; omega
  have hc0' : (w.alloc (.cells #[.int .u8 1, .int .u8 26, .func (.func 62) #[] #[]] 188)).cell? ⟨g, so, none⟩ = some (.int .u8 b0) := by rw [World.cell?_alloc_lt _ _ ⟨g, so, none⟩ hg]; exact hc0
  go_enter Tryz.func121, Tryz.ntmps121
  go_wp2
  go_quiet (fail)
  go_wp2
  go_ret
  exact ⟨rfl, below_drewN ((Below.refl _ w).alloc (Nat.le_refl _) _) _⟩

set_option maxRecDepth 100000 in
set_option maxHeartbeats 400000 in
theorem begin3 (g so n cap : Nat) (b0 : Int) (w : World) (hn : 0 < n) (hg : g < w.heap.size) (hc0 : w.cell? ⟨g, so, none⟩ = some (.int .u8 b0)) (hlo : ¬ b0 < 1) (hhi : ¬ 26 < b0) (hn1 : ((n : Int) == 1) = true) :
    Calls Tryz.prog 121 #[.agg #[.int .u8 1, .int .u8 26, .func (.func 62) #[] #[]], .slice (some ⟨g, so, none⟩) n cap] w fun e w' => e = .returned (.iface 46 (.int .i64 1)) ∧ Below w.heap.size w w' := by
  have hd : decide (b0 < 1) = false := by simpa using hlo
  have hd2 : decide (26 < b0) = false := by simpa using hhi
  have hn0 : ((n : Int) == 0) = false := by simp; omega
  have hc0' : (w.alloc (.cells #[.int .u8 1, .int .u8 26, .func (.func 62) #[] #[]] 188)).cell? ⟨g, so, none⟩ = some (.int .u8 b0) := by rw [World.cell?_alloc_lt _ _ ⟨g, so, none⟩ hg]; exact hc0
  go_enter Tryz.func121, Tryz.ntmps121
  go_wp2
  go_quiet (fail)
  go_wp2
  go_ret
  exact ⟨rfl, below_drewN ((Below.refl _ w).alloc (Nat.le_refl _) _) _⟩

set_option maxRecDepth 100000 in
set_option maxHeartbeats 400000 in
theorem begin4 (g so n cap : Nat) (b0 b1 : Int) (w : World) (hn : 1 < n) (hg : g < w.heap.size) (hc0 : w.cell? ⟨g, so, none⟩ = some (.int .u8 b0)) (hc1 : w.cell? ⟨g, so + 1, none⟩ = some (.int .u8 b1)) (hlo : ¬ b0 < 1) (hhi : ¬ 26 < b0) :
    Calls Tryz.prog 121 #[.agg #[.int .u8 1, .int .u8 26, .func (.func 62) #[] #[]], .slice (some ⟨g, so, none⟩) n cap] w fun e w' => e = .returned (if b0 = reqLen b1 then .nilIface else .iface 46 (.int .i64 2)) ∧ Below w.heap.size w w' := by
  have hd : decide (b0 < 1) = false := by simpa using hlo
  have hd2 : decide (26 < b0) = false := by simpa using hhi
  have hn0 : ((n : Int) == 0) = false := by simp; omega
  have hn1 : ((n : Int) == 1) = false := by simp; omega
  have hnp : 0 < n := by omega
  have hnI : (1 : Int) < (n : Int) := by omega
  have hwr : IntKind.i64.wrap b0 = b0 := wrap_small b0 (by omega) (by omega)
  have hc0' : (w.alloc (.cells #[.int .u8 1, .int .u8 26, .func (.func 62) #[] #[]] 188)).cell? ⟨g, so, none⟩ = some (.int .u8 b0) := by rw [World.cell?_alloc_lt _ _ ⟨g, so, none⟩ hg]; exact hc0
  have hc1' : (w.alloc (.cells #[.int .u8 1, .int .u8 26, .func (.func 62) #[] #[]] 188)).cell? ⟨g, so + 1, none⟩ = some (.int .u8 b1) := by rw [World.cell?_alloc_lt _ _ ⟨g, so + 1, none⟩ hg]; exact hc1
  by_cases heq : b0 = reqLen b1
  · rw [if_pos heq]
    have hb : (b0 != reqLen b1) = false := by simpa using heq
    have HQ := hide heq
    clear heq
    go_enter Tryz.func121, Tryz.ntmps121
    go_wp2
    go_quiet (fail)
    go_wp2
    go_quiet ((go_at_call 62; refine (len_any _ _).mono ?_; rintro e w2 ⟨rfl, rfl⟩; exact ⟨rfl, _, rfl⟩))
    go_wp2
    go_ret
    exact ⟨rfl, below_drewN (below_drewN ((Below.refl _ w).alloc (Nat.le_refl _) _) _) _⟩
  · rw [if_neg heq]
    have hb : (b0 != reqLen b1) = true := by simpa using heq
    go_enter Tryz.func121, Tryz.ntmps121
    go_wp2
    go_quiet (fail)
    go_wp2
    go_quiet ((go_at_call 62; refine (len_any _ _).mono ?_; rintro e w2 ⟨rfl, rfl⟩; exact ⟨rfl, _, rfl⟩))
    go_wp2
    go_ret
    exact ⟨rfl, below_drewN ((Below.refl _ w).alloc (Nat.le_refl _) _) _⟩
end Go.Proofs.YtlamgpeiolfffaaGreatDoor

namespace Go.Proofs.YtlamgpeiolfffaaGreatDoor
open Go.RowKit
variable [dK] [iK]

theorem copy8 (g o m : Nat) (k0 k1 k2 k3 k4 k5 k6 k7 : Int) (w : World) (hgl : g < w.heap.size) (hm : 8 ≤ m)
    (h0 : w.cell? ⟨g, o, none⟩ = some (.int .u8 k0))
    (h1 : w.cell? ⟨g, o + 1, none⟩ = some (.int .u8 k1))
    (h2 : w.cell? ⟨g, o + 2, none⟩ = some (.int .u8 k2))
    (h3 : w.cell? ⟨g, o + 3, none⟩ = some (.int .u8 k3))
    (h4 : w.cell? ⟨g, o + 4, none⟩ = some (.int .u8 k4))
    (h5 : w.cell? ⟨g, o + 5, none⟩ = some (.int .u8 k5))
    (h6 : w.cell? ⟨g, o + 6, none⟩ = some (.int .u8 k6))
    (h7 : w.cell? ⟨g, o + 7, none⟩ = some (.int .u8 k7)) :
    (Builtin.copy_ #[69, 69] 3 #[.slice (some ⟨w.heap.size + 1, 0, none⟩) 8 8, .slice (some ⟨g, o, none⟩) m m]).run Tryz.prog (((w.alloc (.cells #[.int .u8 0, .int .u8 0, .int .u8 0, .int .u8 0, .int .u8 0, .int .u8 0, .int .u8 0, .int .u8 0] 56)).alloc (.cells #[.int .u8 0, .int .u8 0, .int .u8 0, .int .u8 0, .int .u8 0, .int .u8 0, .int .u8 0, .int .u8 0] 56)).drew)
      = .ok (.int .i64 8) (((w.alloc (.cells #[.int .u8 0, .int .u8 0, .int .u8 0, .int .u8 0, .int .u8 0, .int .u8 0, .int .u8 0, .int .u8 0] 56)).alloc (.cells #[.int .u8 k0, .int .u8 k1, .int .u8 k2, .int .u8 k3, .int .u8 k4, .int .u8 k5, .int .u8 k6, .int .u8 k7] 56)).drew) := by
  have hg : (((w.alloc (.cells #[.int .u8 0, .int .u8 0, .int .u8 0, .int .u8 0, .int .u8 0, .int .u8 0, .int .u8 0, .int .u8 0] 56)).alloc (.cells #[.int .u8 0, .int .u8 0, .int .u8 0, .int .u8 0, .int .u8 0, .int .u8 0, .int .u8 0, .int .u8 0] 56)).drew).heap[w.heap.size + 1]? = some (.cells #[.int .u8 0, .int .u8 0, .int .u8 0, .int .u8 0, .int .u8 0, .int .u8 0, .int .u8 0, .int .u8 0] 56 (0, 0)) := by
    show ((w.heap.push _).push _)[w.heap.size + 1]? = _
    rw [Array.getElem?_push, if_pos (by simp)]
  have hs : ∀ j v, ([.int .u8 k0, .int .u8 k1, .int .u8 k2, .int .u8 k3, .int .u8 k4, .int .u8 k5, .int .u8 k6, .int .u8 k7] : List Value)[j]? = some v → (((w.alloc (.cells #[.int .u8 0, .int .u8 0, .int .u8 0, .int .u8 0, .int .u8 0, .int .u8 0, .int .u8 0, .int .u8 0] 56)).alloc (.cells #[.int .u8 0, .int .u8 0, .int .u8 0, .int .u8 0, .int .u8 0, .int .u8 0, .int .u8 0, .int .u8 0] 56)).drew).cell? ((⟨g, o, none⟩ : Addr).add j) = some v := by
    intro j v hj
    rw [Addr.add_lit]
    show ((w.alloc (.cells #[.int .u8 0, .int .u8 0, .int .u8 0, .int .u8 0, .int .u8 0, .int .u8 0, .int .u8 0, .int .u8 0] 56)).alloc (.cells #[.int .u8 0, .int .u8 0, .int .u8 0, .int .u8 0, .int .u8 0, .int .u8 0, .int .u8 0, .int .u8 0] 56)).cell? ⟨g, o + j, none⟩ = some v
    rw [World.cell?_alloc_lt _ _ ⟨g, o + j, none⟩ (by simp; omega), World.cell?_alloc_lt _ _ ⟨g, o + j, none⟩ hgl]
    match j, hj with
    | 0, hj => simp at hj; subst hj; exact h0
    | 1, hj => simp at hj; subst hj; exact h1
    | 2, hj => simp at hj; subst hj; exact h2
    | 3, hj => simp at hj; subst hj; exact h3
    | 4, hj => simp at hj; subst hj; exact h4
    | 5, hj => simp at hj; subst hj; exact h5
    | 6, hj => simp at hj; subst hj; exact h6
    | 7, hj => simp at hj; subst hj; exact h7
  have hmin : Nat.min m 8 = 8 := Nat.min_eq_right hm
  rw [run_copy_row (P := Tryz.prog) _ 69 69 3 5 (w.heap.size + 1) 0 8 8 ⟨g, o, none⟩ m m _ 56 [.int .u8 k0, .int .u8 k1, .int .u8 k2, .int .u8 k3, .int .u8 k4, .int .u8 k5, .int .u8 k6, .int .u8 k7] Tryz.underlying69 (by kernel_rfl) hg (by rw [hmin]; rfl) hs (by simp) (by simp [Value.oneCell'])]
  have e : (((w.alloc (.cells #[.int .u8 0, .int .u8 0, .int .u8 0, .int .u8 0, .int .u8 0, .int .u8 0, .int .u8 0, .int .u8 0] 56)).alloc (.cells #[.int .u8 0, .int .u8 0, .int .u8 0, .int .u8 0, .int .u8 0, .int .u8 0, .int .u8 0, .int .u8 0] 56)).drew).setRow (w.heap.size + 1) #[.int .u8 k0, .int .u8 k1, .int .u8 k2, .int .u8 k3, .int .u8 k4, .int .u8 k5, .int .u8 k6, .int .u8 k7] = ((w.alloc (.cells #[.int .u8 0, .int .u8 0, .int .u8 0, .int .u8 0, .int .u8 0, .int .u8 0, .int .u8 0, .int .u8 0] 56)).alloc (.cells #[.int .u8 k0, .int .u8 k1, .int .u8 k2, .int .u8 k3, .int .u8 k4, .int .u8 k5, .int .u8 k6, .int .u8 k7] 56)).drew := by
    show (((w.alloc (.cells #[.int .u8 0, .int .u8 0, .int .u8 0, .int .u8 0, .int .u8 0, .int .u8 0, .int .u8 0, .int .u8 0] 56)).alloc (.cells #[.int .u8 0, .int .u8 0, .int .u8 0, .int .u8 0, .int .u8 0, .int .u8 0, .int .u8 0, .int .u8 0] 56)).setRow (w.heap.size + 1) #[.int .u8 k0, .int .u8 k1, .int .u8 k2, .int .u8 k3, .int .u8 k4, .int .u8 k5, .int .u8 k6, .int .u8 k7]).drew = _
    have h := World.setRow_alloc_new (w.alloc (.cells #[.int .u8 0, .int .u8 0, .int .u8 0, .int .u8 0, .int .u8 0, .int .u8 0, .int .u8 0, .int .u8 0] 56)) #[.int .u8 0, .int .u8 0, .int .u8 0, .int .u8 0, .int .u8 0, .int .u8 0, .int .u8 0, .int .u8 0] #[.int .u8 k0, .int .u8 k1, .int .u8 k2, .int .u8 k3, .int .u8 k4, .int .u8 k5, .int .u8 k6, .int .u8 k7] 56
    rw [World.size_alloc] at h
    rw [h]
  simp only [List.take_zero, List.nil_append, List.length_cons, List.length_nil]
  exact congrArg _ e

set_option maxRecDepth 100000 in
set_option maxHeartbeats 1000000 in
theorem key_more (F g o m : Nat) (k0 k1 k2 k3 k4 k5 k6 k7 : Int) (w : World) (hFl : F < w.heap.size) (hgl : g < w.heap.size) (hm : 8 < m) (hm1 : m ≤ 255) (hF : w.cell? ⟨F, 0, none⟩ = some (.slice (some ⟨g, o, none⟩) m m)) (hz : w.frozen? ⟨F, 0, none⟩ = false)
    (h0 : w.cell? ⟨g, o, none⟩ = some (.int .u8 k0))
    (h1 : w.cell? ⟨g, o + 1, none⟩ = some (.int .u8 k1))
    (h2 : w.cell? ⟨g, o + 2, none⟩ = some (.int .u8 k2))
    (h3 : w.cell? ⟨g, o + 3, none⟩ = some (.int .u8 k3))
    (h4 : w.cell? ⟨g, o + 4, none⟩ = some (.int .u8 k4))
    (h5 : w.cell? ⟨g, o + 5, none⟩ = some (.int .u8 k5))
    (h6 : w.cell? ⟨g, o + 6, none⟩ = some (.int .u8 k6))
    (h7 : w.cell? ⟨g, o + 7, none⟩ = some (.int .u8 k7)) :
    Calls Tryz.prog 100 #[.pointer (some ⟨F, 0, none⟩)] w fun e w' => e = .returned (.agg #[.int .u8 k0, .int .u8 k1, .int .u8 k2, .int .u8 k3, .int .u8 k4, .int .u8 k5, .int .u8 k6, .int .u8 k7]) ∧ Below w.heap.size (w.setCell ⟨F, 0, none⟩ (.slice (some ⟨g, o + 8, none⟩) (m - 8) (m - 8))) w' := by
  have hcp := copy8 g o m k0 k1 k2 k3 k4 k5 k6 k7 w hgl (by omega) h0 h1 h2 h3 h4 h5 h6 h7
  have hme : ¬ m = 8 := by omega
  have hmI : (8 : Int) ≤ m := by omega
  clear h0 h1 h2 h3 h4 h5 h6 h7
  go_enter Tryz.func100, Tryz.ntmps100
  go_wp2
  go_region
  go_wp2
  exact bodyPost_ret (v := .agg #[.int .u8 k0, .int .u8 k1, .int .u8 k2, .int .u8 k3, .int .u8 k4, .int .u8 k5, .int .u8 k6, .int .u8 k7]) (by simp [results, Tryz.results100, go_sem]) rfl ⟨rfl, (((Below.refl _ _).alloc (by simp) _).alloc (by simp) _).drew⟩

set_option maxRecDepth 100000 in
set_option maxHeartbeats 1000000 in
theorem key_last (F g o : Nat) (k0 k1 k2 k3 k4 k5 k6 k7 : Int) (w : World) (hFl : F < w.heap.size) (hgl : g < w.heap.size) (hF : w.cell? ⟨F, 0, none⟩ = some (.slice (some ⟨g, o, none⟩) 8 8)) (hz : w.frozen? ⟨F, 0, none⟩ = false)
    (h0 : w.cell? ⟨g, o, none⟩ = some (.int .u8 k0))
    (h1 : w.cell? ⟨g, o + 1, none⟩ = some (.int .u8 k1))
    (h2 : w.cell? ⟨g, o + 2, none⟩ = some (.int .u8 k2))
    (h3 : w.cell? ⟨g, o + 3, none⟩ = some (.int .u8 k3))
    (h4 : w.cell? ⟨g, o + 4, none⟩ = some (.int .u8 k4))
    (h5 : w.cell? ⟨g, o + 5, none⟩ = some (.int .u8 k5))
    (h6 : w.cell? ⟨g, o + 6, none⟩ = some (.int .u8 k6))
    (h7 : w.cell? ⟨g, o + 7, none⟩ = some (.int .u8 k7)) :
    Calls Tryz.prog 100 #[.pointer (some ⟨F, 0, none⟩)] w fun e w' => e = .returned (.agg #[.int .u8 k0, .int .u8 k1, .int .u8 k2, .int .u8 k3, .int .u8 k4, .int .u8 k5, .int .u8 k6, .int .u8 k7]) ∧ ∃ v, Below w.heap.size (w.setCell ⟨F, 0, none⟩ v) w' := by
  have hcp := copy8 g o 8 k0 k1 k2 k3 k4 k5 k6 k7 w hgl (by omega) h0 h1 h2 h3 h4 h5 h6 h7
  clear h0 h1 h2 h3 h4 h5 h6 h7
  go_enter Tryz.func100, Tryz.ntmps100
  go_wp2
  go_region
  go_wp2
  exact bodyPost_ret (v := .agg #[.int .u8 k0, .int .u8 k1, .int .u8 k2, .int .u8 k3, .int .u8 k4, .int .u8 k5, .int .u8 k6, .int .u8 k7]) (by simp [results, Tryz.results100, go_sem]) rfl ⟨rfl, _, (((Below.refl _ _).alloc (by simp) _).alloc (by simp) _).drew⟩
end Go.Proofs.YtlamgpeiolfffaaGreatDoor

namespace Go.Proofs.YtlamgpeiolfffaaGreatDoor
open Go.RowKit
variable [dK] [iK]

theorem cellB {w : World} {b : Nat} {c : Array Value} {t : TypeId} {fr : Nat × Nat} (h : w.heap[b]? = some (.cells c t fr)) (j : Nat) : w.cell? ⟨b, j, none⟩ = c[j]? := by
  simp [World.cell?, h]
theorem frozenB {w : World} {b : Nat} {c : Array Value} {t : TypeId} (h : w.heap[b]? = some (.cells c t)) (j : Nat) : w.frozen? ⟨b, j, none⟩ = false := by
  simp [World.frozen?, h]
theorem ltB {w : World} {b : Nat} {o : Obj} (h : w.heap[b]? = some o) : b < w.heap.size := (Array.getElem?_eq_some_iff.1 h).1
theorem heapNew (w : World) (o : Obj) : (w.alloc o).heap[w.heap.size]? = some o := (MapKept.heap_alloc w o).1
theorem heapN {w : World} {o : Obj} {k : Nat} (h : k = w.heap.size) : (w.alloc o).heap[k]? = some o := h ▸ heapNew w o
theorem heapDrew (w : World) (k : Nat) : w.drew.heap[k]? = w.heap[k]? := rfl
theorem heapOld (w : World) (o : Obj) {k : Nat} (h : k < w.heap.size) : (w.alloc o).heap[k]? = w.heap[k]? := Below.heap_alloc w o k h
theorem heapSet {w : World} {b : Nat} {c : Array Value} {t : TypeId} {fr : Nat × Nat} (h : w.heap[b]? = some (.cells c t fr)) (j : Nat) (v : Value) : (w.setCell ⟨b, j, none⟩ v).heap[b]? = some (.cells (c.setIfInBounds j v) t fr) := by
  simp [World.setCell, Array.getElem?_modify, h]
theorem heapSetO {w : World} {b k : Nat} (hne : k ≠ b) (j : Nat) (v : Value) : (w.setCell ⟨b, j, none⟩ v).heap[k]? = w.heap[k]? := Below.heap_setCell w ⟨b, j, none⟩ v k hne

theorem heapSet3 {w : World} {b : Nat} {c0 c1 c2 : Value} {t : TypeId} {fr : Nat × Nat} (h : w.heap[b]? = some (.cells #[c0, c1, c2] t fr)) (v0 v1 v2 : Value) :
    (((w.setCell ⟨b, 0, none⟩ v0).setCell ⟨b, 1, none⟩ v1).setCell ⟨b, 2, none⟩ v2).heap[b]? = some (.cells #[v0, v1, v2] t fr) := by
  simpa using heapSet (heapSet (heapSet h 0 v0) 1 v1) 2 v2
theorem heapSet5 {w : World} {b : Nat} {c0 c1 c2 c3 c4 : Value} {t : TypeId} {fr : Nat × Nat} (h : w.heap[b]? = some (.cells #[c0, c1, c2, c3, c4] t fr)) (v0 v1 v2 v3 v4 : Value) :
    (((((w.setCell ⟨b, 0, none⟩ v0).setCell ⟨b, 1, none⟩ v1).setCell ⟨b, 2, none⟩ v2).setCell ⟨b, 3, none⟩ v3).setCell ⟨b, 4, none⟩ v4).heap[b]? = some (.cells #[v0, v1, v2, v3, v4] t fr) := by
  simpa using heapSet (heapSet (heapSet (heapSet (heapSet h 0 v0) 1 v1) 2 v2) 3 v3) 4 v4
theorem upB {w : World} {b : Nat} {x : Obj} (h : w.heap[b]? = some x) (o : Obj) : (w.alloc o).heap[b]? = some x := (heapOld w o (ltB h)).trans h
theorem upC {w : World} {b : Nat} {c : Array Value} {t : TypeId} {fr : Nat × Nat} (h : w.heap[b]? = some (.cells c t fr)) (o : Obj) (j : Nat) : (w.alloc o).cell? ⟨b, j, none⟩ = c[j]? := cellB (upB h o) j
theorem upF {w : World} {b : Nat} {c : Array Value} {t : TypeId} (h : w.heap[b]? = some (.cells c t)) (o : Obj) (j : Nat) : (w.alloc o).frozen? ⟨b, j, none⟩ = false := frozenB (upB h o) j
theorem Below.toB {B : Nat} {w w' : World} (h : Below B w w') {b : Nat} {x : Obj} (hb : w.heap[b]? = some x) (hB : b < B) : w'.heap[b]? = some x := (h.block b hB).trans hb

/-- All blocks but those of S are as they were. -/
structure Keep (S : Nat → Prop) (w w' : World) : Prop where
  os : w'.os = w.os
  tape : w'.tape = w.tape
  output : w'.output = w.output
  size : w.heap.size ≤ w'.heap.size
  block : ∀ k, k < w.heap.size → ¬ S k → w'.heap[k]? = w.heap[k]?

theorem Keep.refl (S : Nat → Prop) (w : World) : Keep S w w := ⟨rfl, rfl, rfl, Nat.le_refl _, fun _ _ _ => rfl⟩
theorem Keep.of_below {S : Nat → Prop} {w w' : World} (h : Below w.heap.size w w') : Keep S w w' := ⟨h.os, h.tape, h.output, h.size, fun k hk _ => h.block k hk⟩
theorem Keep.mono {S T : Nat → Prop} {w w' : World} (h : Keep S w w') (hs : ∀ k, S k → k < w.heap.size → T k) : Keep T w w' := ⟨h.os, h.tape, h.output, h.size, fun k hk hT => h.block k hk (fun hS => hT (hs k hS hk))⟩
theorem Keep.trans {S : Nat → Prop} {a b c : World} (h : Keep S a b) (k : Keep S b c) : Keep S a c :=
  ⟨k.os.trans h.os, k.tape.trans h.tape, k.output.trans h.output, Nat.le_trans h.size k.size, fun i hi hS => (k.block i (Nat.lt_of_lt_of_le hi h.size) hS).trans (h.block i hi hS)⟩
theorem Keep.then {S T : Nat → Prop} {a b c : World} (h : Keep S a b) (k : Keep T b c) (hst : ∀ i, i < a.heap.size → T i → S i) : Keep S a c :=
  ⟨k.os.trans h.os, k.tape.trans h.tape, k.output.trans h.output, Nat.le_trans h.size k.size, fun i hi hS => (k.block i (Nat.lt_of_lt_of_le hi h.size) (fun hT => hS (hst i hi hT))).trans (h.block i hi hS)⟩
theorem Keep.alloc {S : Nat → Prop} {a w : World} (h : Keep S a w) (o : Obj) : Keep S a (w.alloc o) :=
  ⟨h.os, h.tape, h.output, by rw [World.size_alloc]; exact Nat.le_succ_of_le h.size, fun k hk hS => (heapOld w o (Nat.lt_of_lt_of_le hk h.size)).trans (h.block k hk hS)⟩
theorem Keep.drew {S : Nat → Prop} {a w : World} (h : Keep S a w) : Keep S a w.drew := ⟨h.os, h.tape, h.output, h.size, h.block⟩
theorem Keep.set {S : Nat → Prop} {a w : World} (h : Keep S a w) {b : Nat} (hb : S b ∨ a.heap.size ≤ b) (j : Nat) (v : Value) : Keep S a (w.setCell ⟨b, j, none⟩ v) :=
  ⟨h.os, h.tape, h.output, by rw [World.size_setCell]; exact h.size, fun k hk hS => (heapSetO (fun e => by subst e; rcases hb with hb | hb; exact hS hb; omega) j v).trans (h.block k hk hS)⟩
/-- Where all that may turn is new, nothing old turns. -/
theorem Keep.below {S : Nat → Prop} {w w' : World} (h : Keep S w w') {B : Nat} (hB : B ≤ w.heap.size) (hS : ∀ k, S k → B ≤ k) : Below B w w' :=
  ⟨h.os, h.tape, h.output, h.size, fun k hk => h.block k (Nat.lt_of_lt_of_le hk hB) (fun hs => by have := hS k hs; omega)⟩
end Go.Proofs.YtlamgpeiolfffaaGreatDoor

namespace Go.Proofs.YtlamgpeiolfffaaGreatDoor
open Go.RowKit Go.Maps
variable [dK] [iK]

theorem arr56 : Go.WideMaps.ArrKey Tryz.prog 56 5 8 := ⟨Tryz.underlying56, by kernel_rfl, by kernel_rfl, by kernel_rfl⟩
theorem keyed56 : Keyed Tryz.prog 56 := Keyed.of_law arr56.law
def kval (k : Ky) : Value := .agg #[.int .u8 k.k0, .int .u8 k.k1, .int .u8 k.k2, .int .u8 k.k3, .int .u8 k.k4, .int .u8 k.k5, .int .u8 k.k6, .int .u8 k.k7]
def qval (q : Qt) : Value := .agg #[.int .u8 q.kd, .int .u64 q.x, .int .u64 q.y, .int .u64 q.lv, .int .u64 q.wn]
def qzero : Value := .agg #[.int .u8 0, .int .u64 0, .int .u64 0, .int .u64 0, .int .u64 0]
def heldE (v : Value) : Option (DataW Value × List MemPlace) := some (.held v, [])
theorem wf8 {k : Int} (h : 0 ≤ k ∧ k ≤ 255) : (Lit.int .u8 k).wf = true := by
  have : IntKind.u8.min = 0 := rfl
  have : IntKind.u8.max = 255 := rfl
  simp [Lit.wf]; omega

def klit (k : Ky) : Lit := .string (keyBytes [.int .u8 k.k0, .int .u8 k.k1, .int .u8 k.k2, .int .u8 k.k3, .int .u8 k.k4, .int .u8 k.k5, .int .u8 k.k6, .int .u8 k.k7])
theorem klit_key (k : Ky) (h : k.ok) : keyOf Tryz.prog 56 (kval k) = some (klit k) := by
  have hkt := arr56.keyType ⟨_, rfl⟩
  unfold keyOf kval
  simp only [arr56.hu]
  rw [if_pos (by simp [hkt, Value.formed, arr56.hu, arr56.size])]
  unfold Program.keyLits
  simp only [arr56.hu, Value.cells]
  rw [if_pos (by rw [arr56.size]; rfl), show List.range 8 = [0, 1, 2, 3, 4, 5, 6, 7] from rfl]
  have he : Tryz.prog.underlying 5 = some (.int .u8) := Tryz.underlying5
  obtain ⟨m, hm⟩ : ∃ m, Tryz.prog.types.size = m + 1 := ⟨_, rfl⟩
  rw [hm]
  simp [klit, arr56.one, Program.keyLits, he, wf8 h.h0, wf8 h.h1, wf8 h.h2, wf8 h.h3, wf8 h.h4, wf8 h.h5, wf8 h.h6, wf8 h.h7]
theorem klit_inj {k k' : Ky} (h : k.ok) (h' : k'.ok) (e : klit k = klit k') : k = k' := by
  have hv := keyed56.inj (klit_key k h) (e ▸ klit_key k' h')
  unfold kval at hv
  simp at hv
  cases k; cases k'; simp_all
theorem zero231 (w : World) : (zeroValue 231).run Tryz.prog w = .ok qzero w := by kernel_rfl

/-- Block b is a map that holds just these keys. -/
def MapOf (w : World) (b : Nat) (ks : List (Ky × Qt)) : Prop :=
  ∃ n D, w.ownsMap Tryz.prog 56 heldE b n D ∧ (∀ k : Ky, k.ok → Maps.has D (klit k) = (fnd k ks).isSome) ∧ (∀ (k : Ky) q, k.ok → fnd k ks = some q → D.atKey (klit k) (.held qzero) = .held (qval q)) ∧ Maps.size D = ks.length

theorem MapOf.lt {w : World} {b : Nat} {ks : List (Ky × Qt)} (h : MapOf w b ks) : b < w.heap.size := by
  obtain ⟨n, D, h, _⟩ := h; exact h.lt
theorem MapOf.kept {w w' : World} {b : Nat} {ks : List (Ky × Qt)} (h : MapOf w b ks) (hb : w'.heap[b]? = w.heap[b]?) : MapOf w' b ks := by
  obtain ⟨n, D, ⟨es, clock, h1, h2⟩, h3⟩ := h
  exact ⟨n, D, ⟨es, clock, hb.trans h1, h2⟩, h3⟩
theorem MapOf.made (w : World) : MapOf (w.alloc (.map #[] 0)) w.heap.size [] :=
  ⟨0, .map [], World.ownsMap_made w _ _ _, fun _ _ => rfl, fun _ _ _ h => by simp [fnd] at h, rfl⟩

def qlook : Option Qt → Value
  | some q => qval q
  | none => qzero
theorem MapOf.look {w : World} {b : Nat} {ks : List (Ky × Qt)} (h : MapOf w b ks) {k : Ky} (hk : k.ok) :
    (Instr.lookup 111 (.map (some b)) (kval k) true).run Tryz.prog w = .ok (.tuple #[qlook (fnd k ks), .bool (fnd k ks).isSome]) w := by
  obtain ⟨n, D, ho, h1, h2, _⟩ := h
  obtain ⟨v, ps, hrun, hv⟩ := ho.look_ok keyed56 Tryz.underlying111 (zero231 w) (zd := .held qzero) (zp := []) rfl (klit_key k hk)
  have hv' : DataW.held v = D.atKey (klit k) (.held qzero) := by
    have := congrArg (Option.map Prod.fst) hv
    simpa [heldE] using this
  have hvv : v = qlook (fnd k ks) := by
    cases hf : fnd k ks with
    | none =>
      rw [atKey_of_not_has (by rw [h1 k hk, hf]; rfl)] at hv'
      exact DataW.held.inj hv'
    | some q =>
      rw [h2 k q hk hf] at hv'
      exact DataW.held.inj hv'
  rw [hrun, h1 k hk, hvv]
theorem look_nil {w : World} {k : Ky} (hk : k.ok) : (Instr.lookup 111 (.map none) (kval k) true).run Tryz.prog w = .ok (.tuple #[qzero, .bool false]) w := by
  have h := Maps.look_nil (w := w) true keyed56 Tryz.underlying111 (zero231 w) (klit_key k hk)
  exact h
theorem MapOf.len {w : World} {b : Nat} {ks : List (Ky × Qt)} (h : MapOf w b ks) (ty : TypeId) : (Builtin.len_ #[111] ty #[.map (some b)]).run Tryz.prog w = .ok (.int .i64 ks.length) w := by
  obtain ⟨n, D, ho, _, _, h3⟩ := h
  rw [ho.len Tryz.underlying111 ty, h3]
theorem tight {w : World} {b n : Nat} {D : DataW Value} (h : w.ownsMap Tryz.prog 56 heldE b n D) : w.ownsMap Tryz.prog 56 heldE b (Maps.size D) D := by
  obtain ⟨es, clock, hb, F, hs, rfl⟩ := h
  exact ⟨es, clock, hb, F, by simp [Maps.size, length_sorted], rfl⟩

theorem fnd_upd_same {k : Ky} {q : Qt} : ∀ {ks : List (Ky × Qt)}, (fnd k ks).isSome = true → fnd k (upd k q ks) = some q
  | [], h => by simp [fnd] at h
  | (k', q') :: r, h => by
    unfold upd
    by_cases e : k' = k
    · simp [e, fnd]
    · rw [if_neg e]
      unfold fnd at h ⊢
      rw [if_neg e] at h ⊢
      exact fnd_upd_same h
theorem fnd_upd_other {k k' : Ky} {q : Qt} (hne : k' ≠ k) : ∀ {ks : List (Ky × Qt)}, fnd k' (upd k q ks) = fnd k' ks
  | [] => rfl
  | (k2, q2) :: r => by
    unfold upd
    by_cases e : k2 = k
    · subst e
      rw [if_pos rfl]
      unfold fnd
      rw [if_neg (fun h => hne h.symm), if_neg (fun h => hne h.symm)]
    · rw [if_neg e]
      unfold fnd
      rw [fnd_upd_other hne]
theorem length_upd {k : Ky} {q : Qt} : ∀ {ks : List (Ky × Qt)}, (upd k q ks).length = ks.length
  | [] => rfl
  | (k2, q2) :: r => by
    unfold upd
    split
    · rfl
    · simp [length_upd]
theorem fnd_app {k : Ky} {q : Qt} (k' : Ky) : ∀ {ks : List (Ky × Qt)}, fnd k' (ks ++ [(k, q)]) = if (fnd k' ks).isSome then fnd k' ks else if k = k' then some q else none
  | [] => by simp [fnd]
  | (k2, q2) :: r => by
    show fnd k' ((k2, q2) :: (r ++ [(k, q)])) = _
    unfold fnd
    by_cases e : k2 = k'
    · simp [e]
    · rw [if_neg e, if_neg e]
      exact fnd_app k'
theorem fnd_none_of {k : Ky} : ∀ {ks : List (Ky × Qt)}, k ∉ ks.map Prod.fst → fnd k ks = none
  | [], _ => rfl
  | (k2, q2) :: r, h => by
    simp at h
    unfold fnd
    rw [if_neg (fun e => h.1 e.symm)]
    exact fnd_none_of (by simpa using h.2)
theorem fnd_del_same {k : Ky} : ∀ {ks : List (Ky × Qt)}, (ks.map Prod.fst).Nodup → fnd k (del k ks) = none
  | [], _ => rfl
  | (k2, q2) :: r, h => by
    simp only [List.map_cons, List.nodup_cons] at h
    unfold del
    by_cases e : k2 = k
    · subst e
      rw [if_pos rfl]
      exact fnd_none_of h.1
    · rw [if_neg e]
      unfold fnd
      rw [if_neg e]
      exact fnd_del_same h.2
theorem fnd_del_other {k k' : Ky} (hne : k' ≠ k) : ∀ {ks : List (Ky × Qt)}, fnd k' (del k ks) = fnd k' ks
  | [] => rfl
  | (k2, q2) :: r => by
    unfold del
    by_cases e : k2 = k
    · subst e
      rw [if_pos rfl]
      show _ = fnd k' ((k2, q2) :: r)
      unfold fnd
      rw [if_neg (fun h => hne h.symm)]
      cases r <;> rfl
    · rw [if_neg e]
      unfold fnd
      rw [fnd_del_other hne]
theorem length_del {k : Ky} : ∀ {ks : List (Ky × Qt)}, (fnd k ks).isSome = true → (del k ks).length + 1 = ks.length
  | [], h => by simp [fnd] at h
  | (k2, q2) :: r, h => by
    unfold del
    by_cases e : k2 = k
    · simp [e]
    · rw [if_neg e]
      unfold fnd at h
      rw [if_neg e] at h
      simp [length_del h]

theorem MapOf.store {w : World} {b : Nat} {ks : List (Ky × Qt)} (h : MapOf w b ks) (hl : ks.length ≤ 12) {k : Ky} (hk : k.ok) (q : Qt) :
    ∃ w', (Instr.mapUpdate 111 (.map (some b)) (kval k) (qval q)).run Tryz.prog w = .ok () w' ∧ w.mapTurned w' b ∧
      MapOf w' b (if (fnd k ks).isSome then upd k q ks else ks ++ [(k, q)]) := by
  obtain ⟨n, D, ho, h1, h2, h3⟩ := h
  have ho' := tight ho
  obtain ⟨w', hrun, ho1, ht⟩ := ho'.store keyed56 Tryz.underlying111 (by rw [h3]; unfold maxLen; omega) (klit_key k hk) (val := qval q) (d := .held (qval q)) (ps := []) rfl
  have hkl := keyed56.key (klit_key k hk)
  refine ⟨w', hrun, ht, _, _, ho1, fun k' hk' => ?_, fun k' q' hk' hf => ?_, ?_⟩
  · by_cases e : k' = k
    · subst e
      rw [has_put_same ho.isMap hkl]
      split
      · rw [fnd_upd_same (by assumption)]; rfl
      · rw [fnd_app, if_neg (by assumption), if_pos rfl]; rfl
    · rw [has_put_other (fun h => e (klit_inj hk' hk h)), h1 k' hk']
      split
      · rw [fnd_upd_other e]
      · rw [fnd_app]
        have e' : ¬ k = k' := fun h => e h.symm
        cases fnd k' ks <;> simp [e']
  · by_cases e : k' = k
    · subst e
      rw [atKey_put_same ho.isMap hkl]
      split at hf
      · rw [fnd_upd_same (by assumption)] at hf; exact congrArg (fun z => DataW.held (qval z)) (Option.some.inj hf)
      · rw [fnd_app, if_neg (by assumption), if_pos rfl] at hf; exact congrArg (fun z => DataW.held (qval z)) (Option.some.inj hf)
    · rw [atKey_put_other (fun h => e (klit_inj hk' hk h))]
      refine h2 k' q' hk' ?_
      split at hf
      · rwa [fnd_upd_other e] at hf
      · rw [fnd_app] at hf
        have e' : ¬ k = k' := fun h => e h.symm
        cases hfk : fnd k' ks <;> simp_all
  · rw [size_put (ho.tidy keyed56), h1 k hk]
    split
    · rw [length_upd, h3]
    · simp [h3]
theorem MapOf.drop {w : World} {b : Nat} {ks : List (Ky × Qt)} (h : MapOf w b ks) (hnd : (ks.map Prod.fst).Nodup) {k : Ky} (hk : k.ok) (hin : (fnd k ks).isSome = true) (ty : TypeId) :
    ∃ w', (Builtin.delete_ #[111, 56] ty #[.map (some b), kval k]).run Tryz.prog w = .ok (.tuple #[]) w' ∧ w.mapTurned w' b ∧ MapOf w' b (del k ks) := by
  obtain ⟨n, D, ho, h1, h2, h3⟩ := h
  obtain ⟨w', hrun, ho1, ht⟩ := ho.drop keyed56 Tryz.underlying111 (klit_key k hk) ty
  refine ⟨w', hrun, ht, _, _, ho1, fun k' hk' => ?_, fun k' q' hk' hf => ?_, ?_⟩
  · by_cases e : k' = k
    · subst e
      rw [has_del_same, fnd_del_same hnd]; rfl
    · rw [has_del_other (fun h => e (klit_inj hk' hk h)), fnd_del_other e, h1 k' hk']
  · by_cases e : k' = k
    · subst e
      rw [fnd_del_same hnd] at hf; simp at hf
    · rw [atKey_del_other (fun h => e (klit_inj hk' hk h))]
      rw [fnd_del_other e] at hf
      exact h2 k' q' hk' hf
  · have e1 := size_del (k := klit k) (ho.tidy keyed56)
    rw [h1 k hk, hin, h3] at e1
    have e2 := length_del hin
    simp at e1
    omega
end Go.Proofs.YtlamgpeiolfffaaGreatDoor

namespace Go.Proofs.YtlamgpeiolfffaaGreatDoor
open Go.RowKit
variable [dK] [iK]

structure Rp.ok (r : Rp) : Prop where
  c : 0 ≤ r.c ∧ r.c ≤ 255
  a : 0 ≤ r.a ∧ r.a ≤ 18446744073709551615
  b : 0 ≤ r.b ∧ r.b ≤ 18446744073709551615
structure Rq.ok (q : Rq) : Prop where
  key : q.key.ok
  x : 0 ≤ q.x ∧ q.x ≤ 18446744073709551615
  y : 0 ≤ q.y ∧ q.y ≤ 18446744073709551615
  n : 0 ≤ q.n ∧ q.n ≤ 18446744073709551615
def Bytes (bs : List Int) : Prop := ∀ b ∈ bs, 0 ≤ b ∧ b ≤ 255
theorem Bytes.getD {bs : List Int} (h : Bytes bs) (j : Nat) : 0 ≤ bs.getD j 0 ∧ bs.getD j 0 ≤ 255 := by
  by_cases hj : j < bs.length
  · have e : bs.getD j 0 = bs[j] := by simp [List.getD, List.getElem?_eq_getElem hj]
    rw [e]; exact h _ (List.getElem_mem hj)
  · have e : bs.getD j 0 = 0 := by simp [List.getD, List.getElem?_eq_none (Nat.le_of_not_lt hj)]
    rw [e]; omega
theorem Bytes.drop {bs : List Int} (h : Bytes bs) (n : Nat) : Bytes (bs.drop n) := fun b hb => h b (List.mem_of_mem_drop hb)
theorem Bytes.app {a b : List Int} (ha : Bytes a) (hb : Bytes b) : Bytes (a ++ b) := fun x hx => (List.mem_append.1 hx).elim (ha x) (hb x)

theorem num8_ok (bs : List Int) (h : Bytes bs) (o : Nat) : 0 ≤ num8 bs o ∧ num8 bs o ≤ 18446744073709551615 := by
  have := rdTo_bound (fun j => bs.getD (o + j) 0) (fun j => h.getD (o + j)) 8
  unfold num8
  have e : (256 : Int) ^ 8 = 18446744073709551616 := by decide
  omega
theorem rdQ_ok (bs : List Int) (h : Bytes bs) : (rdQ bs).ok := by
  have z : (0 : Int) ≤ 0 ∧ (0 : Int) ≤ 255 := by omega
  have z' : (0 : Int) ≤ 0 ∧ (0 : Int) ≤ 18446744073709551615 := by omega
  unfold rdQ
  split
  · split
    · exact ⟨⟨h.getD 2, h.getD 3, h.getD 4, h.getD 5, h.getD 6, h.getD 7, h.getD 8, h.getD 9⟩, num8_ok bs h 11, num8_ok bs h 19, z'⟩
    · split
      · exact ⟨⟨h.getD 2, h.getD 3, h.getD 4, h.getD 5, h.getD 6, h.getD 7, h.getD 8, h.getD 9⟩, z', z', num8_ok bs h 10⟩
      · split
        · exact ⟨⟨h.getD 2, h.getD 3, h.getD 4, h.getD 5, h.getD 6, h.getD 7, h.getD 8, h.getD 9⟩, z', z', z'⟩
        · exact ⟨⟨z, z, z, z, z, z, z, z⟩, z', z', z'⟩
  · exact ⟨⟨z, z, z, z, z, z, z, z⟩, z', z', z'⟩
theorem rdErr_cases (bs : List Int) : rdErr bs = 0 ∨ rdErr bs = 1 ∨ rdErr bs = 2 := by
  unfold rdErr
  split
  · omega
  · split
    · omega
    · split
      · omega
      · split
        · split <;> omega
        · omega
theorem reqLen_pos {b : Int} : reqLen b = 0 ∨ 1 ≤ reqLen b ∧ reqLen b ≤ 26 := by
  unfold reqLen; repeat' split <;> omega
/-- A whole frame has two bytes or more, and no more than there are. -/
theorem rdN_ok (bs : List Int) (h : rdErr bs = 0) : 2 ≤ (rdN bs).toNat ∧ (rdN bs).toNat ≤ bs.length ∧ rdN bs = ((rdN bs).toNat : Int) ∧ (rdN bs).toNat ≤ 27 := by
  have hn : rdN bs = bs.getD 0 0 + 1 := by unfold rdN; rw [if_pos h]
  cases bs with
  | nil => simp [rdErr] at h
  | cons b0 t =>
    cases t with
    | nil =>
      simp only [rdErr] at h
      split at h <;> omega
    | cons b1 r =>
      simp only [rdErr] at h
      split at h
      · omega
      · split at h
        · split at h
          · omega
          · rw [hn]
            have e : (b0 :: b1 :: r).getD 0 0 = b0 := rfl
            rw [e]
            simp only [List.length_cons] at *
            omega
        · omega

theorem orNever_ok (x : Int) (h : 0 ≤ x) : 0 ≤ orNever x ∧ orNever x ≤ 18446744073709551615 := by unfold orNever; split <;> omega
theorem startM_ok (q : Qt) (now : Int) (hq : q.ok) (h0 : 0 ≤ now) : 0 ≤ startM q now := by unfold startM; have := hq.lv; split <;> omega
theorem turnM_ok' (q : Qt) (now : Int) (hq : q.ok) (h0 : 0 ≤ now) (h1 : now ≤ 18446744073709551615) : (turnM q now).ok := by
  unfold turnM
  split
  · exact hq
  · split
    · exact hq
    · rcases hq.kd with ⟨hk, _⟩ | ⟨hk, hy⟩
      · contradiction
      · have d0 : 0 ≤ now / q.y := Int.ediv_nonneg h0 (by omega)
        have d1 : now / q.y ≤ now := Int.ediv_le_self q.y h0
        exact ⟨hq.kd, hq.x, hq.y, ⟨by simp, by simp⟩, ⟨d0, by show now / q.y ≤ _; omega⟩⟩
theorem admM_ok (q : Qt) (now n : Int) (hq : q.ok) (h0 : 0 ≤ now) (h1 : now ≤ 18446744073709551615) (n0 : 0 ≤ n) : (admM q now n).1.ok ∧ (admM q now n).2.ok ∧ ((admM q now n).2.c = 2 ∨ (admM q now n).2.c = 3) := by
  have hx := hq.x; have hy := hq.y; have hl := hq.lv; have hw := hq.wn
  have hs := startM_ok q now hq h0
  unfold admM
  split
  · have hkx : 1 ≤ q.x := by rcases hq.kd with h | h <;> omega
    unfold admS
    split
    · exact ⟨hq, ⟨by simp, hl, hw⟩, Or.inl rfl⟩
    · have hp0 : 0 ≤ n * q.x := Int.mul_nonneg n0 (by omega)
      have hn1 : 0 ≤ (n - 1) * q.x := Int.mul_nonneg (by omega) (by omega)
      have hnx : n * q.x = (n - 1) * q.x + q.x := by rw [Int.sub_mul]; omega
      split
      · exact ⟨hq, ⟨by simp, by simp, by simp⟩, Or.inr rfl⟩
      · split
        · exact ⟨hq, ⟨by simp, by simp, by simp⟩, Or.inr rfl⟩
        · split
          · rename_i c3
            refine ⟨hq, ⟨by simp, ?_, by simp⟩, Or.inr rfl⟩
            unfold orNever at c3
            show 0 ≤ startM q now + (n - 1) * q.x - q.y ∧ startM q now + (n - 1) * q.x - q.y ≤ 18446744073709551615
            split at c3 <;> omega
          · have h2 : 0 ≤ startM q now + n * q.x ∧ startM q now + n * q.x ≤ 18446744073709551615 := by omega
            exact ⟨⟨hq.kd, hx, hy, h2, hw⟩, ⟨by simp, h2, hw⟩, Or.inl rfl⟩
  · have ht := turnM_ok' q now hq h0 h1
    have tl := ht.lv; have tx := ht.x; have ty := ht.y; have tw := ht.wn
    unfold admW
    split
    · have h2 : 0 ≤ (turnM q now).lv + n ∧ (turnM q now).lv + n ≤ 18446744073709551615 := by omega
      exact ⟨⟨ht.kd, tx, ty, h2, tw⟩, ⟨by simp, h2, tw⟩, Or.inl rfl⟩
    · split
      · exact ⟨ht, ⟨by simp, by simp, by simp⟩, Or.inr rfl⟩
      · refine ⟨ht, ⟨by simp, orNever_ok _ ?_, by simp⟩, Or.inr rfl⟩
        have := Int.mul_nonneg tw.1 ty.1
        omega

theorem fnd_mem {k : Ky} {q : Qt} : ∀ {ks : List (Ky × Qt)}, fnd k ks = some q → (k, q) ∈ ks
  | [], h => by simp [fnd] at h
  | (k2, q2) :: r, h => by
    unfold fnd at h
    split at h
    · rename_i e
      subst e
      injection h with h
      subst h
      exact List.mem_cons_self
    · exact List.mem_cons_of_mem _ (fnd_mem h)
theorem mem_upd {k : Ky} {q : Qt} {p : Ky × Qt} : ∀ {ks : List (Ky × Qt)}, p ∈ upd k q ks → p ∈ ks ∨ p = (k, q)
  | [], h => by simp [upd] at h
  | (k2, q2) :: r, h => by
    unfold upd at h
    split at h
    · rename_i e
      subst e
      rcases List.mem_cons.1 h with h | h
      · exact Or.inr h
      · exact Or.inl (List.mem_cons_of_mem _ h)
    · rcases List.mem_cons.1 h with h | h
      · exact Or.inl (h ▸ List.mem_cons_self)
      · exact (mem_upd h).imp (List.mem_cons_of_mem _) id
theorem map_upd {k : Ky} {q : Qt} : ∀ {ks : List (Ky × Qt)}, (upd k q ks).map Prod.fst = ks.map Prod.fst
  | [] => rfl
  | (k2, q2) :: r => by
    unfold upd
    split
    · rfl
    · simp [map_upd]
theorem del_sub {k : Ky} : ∀ {ks : List (Ky × Qt)}, (del k ks).Sublist ks
  | [] => List.Sublist.slnil
  | (k2, q2) :: r => by
    unfold del
    split
    · exact List.sublist_cons_self _ _
    · exact del_sub.cons_cons _
theorem fnd_none_not {k : Ky} : ∀ {ks : List (Ky × Qt)}, fnd k ks = none → k ∉ ks.map Prod.fst
  | [], _ => by simp
  | (k2, q2) :: r, h => by
    unfold fnd at h
    split at h
    · simp at h
    · rename_i e
      simp only [List.map_cons, List.mem_cons, not_or]
      exact ⟨fun h' => e h'.symm, fnd_none_not h⟩

theorem doM_ok (L : Ld) (q : Rq) (hL : L.ok) (hq : q.ok) : (doM L q).1.ok ∧ (doM L q).2.ok := by
  have ht := hL.time
  have s1 : ∀ c : Int, 0 ≤ c → c ≤ 255 → (⟨c, 0, 0⟩ : Rp).ok := fun c h h' => ⟨⟨h, h'⟩, by simp, by simp⟩
  unfold doM
  split
  · split
    · exact ⟨hL, s1 8 (by omega) (by omega)⟩
    · split
      · exact ⟨hL, s1 9 (by omega) (by omega)⟩
      · split
        · exact ⟨hL, s1 5 (by omega) (by omega)⟩
        · rename_i hso hf hlen
          refine ⟨⟨ht, hL.adm, ?_, ?_, ?_, ?_⟩, s1 1 (by omega) (by omega)⟩
          · intro p hp
            rcases List.mem_append.1 hp with h | h
            · exact hL.key p h
            · simp at h; subst h; exact hq.key
          · intro p hp
            rcases List.mem_append.1 hp with h | h
            · exact hL.qt p h
            · simp at h; subst h
              exact ⟨Decidable.not_not.1 hso, hq.x, hq.y, by simp, by simp⟩
          · rw [List.map_append]
            refine List.nodup_append.2 ⟨hL.nd, by simp, ?_⟩
            intro a ha b hb e
            simp at hb
            subst hb e
            exact fnd_none_not (by simpa using hf) ha
          · show (L.ks ++ [_]).length ≤ 12
            simp; omega
  · split
    · cases hf : fnd q.key L.ks with
      | none => exact ⟨hL, s1 4 (by omega) (by omega)⟩
      | some z =>
        have hz := hL.qt _ (fnd_mem hf)
        obtain ⟨g1, g2, _⟩ := admM_ok z L.time q.n hz ht.1 ht.2 hq.n.1
        refine ⟨⟨ht, ?_, ?_, ?_, ?_, ?_⟩, g2⟩
        · have ha := hL.adm
          dsimp only
          split <;> omega
        · intro p hp
          rcases mem_upd hp with h | h
          · exact hL.key p h
          · rw [h]; exact hq.key
        · intro p hp
          rcases mem_upd hp with h | h
          · exact hL.qt p h
          · rw [h]; exact g1
        · show ((upd _ _ _).map Prod.fst).Nodup
          rw [map_upd]; exact hL.nd
        · show (upd _ _ _).length ≤ 12
          rw [length_upd]; exact hL.len
    · split
      · cases hf : fnd q.key L.ks with
        | none => exact ⟨hL, s1 4 (by omega) (by omega)⟩
        | some z =>
          have hz := turnM_ok' z L.time (hL.qt _ (fnd_mem hf)) ht.1 ht.2
          exact ⟨hL, ⟨by simp, hz.lv, hz.wn⟩⟩
      · split
        · cases hf : fnd q.key L.ks with
          | none => exact ⟨hL, s1 4 (by omega) (by omega)⟩
          | some z =>
            refine ⟨⟨ht, hL.adm, fun p hp => hL.key p (del_sub.subset hp), fun p hp => hL.qt p (del_sub.subset hp), (del_sub.map _).nodup hL.nd, ?_⟩, s1 1 (by omega) (by omega)⟩
            exact Nat.le_trans del_sub.length_le hL.len
        · split
          · exact ⟨hL, ⟨by simp, ht, by simp⟩⟩
          · exact ⟨hL, s1 1 (by omega) (by omega)⟩

/-- As runM, with fuel enough. -/
theorem runM_fuel : ∀ (n : Nat) (L : Ld) (bs : List Int), bs.length ≤ n → runM n L bs = runM bs.length L bs := by
  intro n
  induction n using Nat.strongRecOn with
  | ind n ih =>
    intro L bs h
    cases n with
    | zero => rw [show bs.length = 0 by omega]
    | succ n =>
      cases hb : bs.length with
      | zero =>
        have e : bs = [] := List.length_eq_zero_iff.1 hb
        subst e
        simp [runM, rdErr]
      | succ m =>
        unfold runM
        by_cases h0 : rdErr bs = 0
        · rw [if_pos h0, if_pos h0]
          obtain ⟨r1, r2, _, _⟩ := rdN_ok bs h0
          have hl : (bs.drop (rdN bs).toNat).length ≤ m := by rw [List.length_drop]; omega
          rw [ih n (by omega) _ _ (by omega), ih m (by omega) _ _ hl]
        · rw [if_neg h0, if_neg h0]
def runL (L : Ld) (bs : List Int) : Ld × List Rp × List Int × Int := runM bs.length L bs
theorem runL_stop (L : Ld) (bs : List Int) (h : rdErr bs ≠ 0) : runL L bs = (L, [], bs, rdErr bs) := by
  unfold runL
  cases hb : bs.length with
  | zero => rfl
  | succ n => unfold runM; rw [if_neg h]
theorem runL_step (L : Ld) (bs : List Int) (h : rdErr bs = 0) : runL L bs = ((runL (doM L (rdQ bs)).1 (bs.drop (rdN bs).toNat)).1, (doM L (rdQ bs)).2 :: (runL (doM L (rdQ bs)).1 (bs.drop (rdN bs).toNat)).2.1, (runL (doM L (rdQ bs)).1 (bs.drop (rdN bs).toNat)).2.2) := by
  obtain ⟨r1, r2, _, _⟩ := rdN_ok bs h
  have e : runL L bs = runM bs.length L bs := rfl
  rw [e]
  cases hb : bs.length with
  | zero => omega
  | succ n =>
    unfold runM
    rw [if_pos h, runM_fuel n _ _ (by rw [List.length_drop]; omega)]
    rfl
end Go.Proofs.YtlamgpeiolfffaaGreatDoor

namespace Go.Proofs.YtlamgpeiolfffaaGreatDoor
open Go.RowKit Go.Lib Go.Shelf
variable [dK] [iK]

namespace Mul
def ren : Go.Shelf.Ren := ⟨fun _ => 145, fun n => if n = 46 then 223 else 23, fun n => n⟩
theorem lays : Lays.n264 Tryz.prog ren where
  mixed := by first | exact Tryz.mixed | kernel_rfl | decide
  f264 := by kernel_rfl
  t46 := by first | exact Tryz.underlying223 | kernel_rfl
  a46 := by first | exact Tryz.isAgg223 | (intro w; kernel_rfl)
  z46 := by first | exact Tryz.sizeOf223 | (intro w; kernel_rfl)
  v46 := by first | exact Tryz.zeroValue223 | (intro w; kernel_rfl)
  t53 := by first | exact Tryz.underlying23 | kernel_rfl
  a53 := by first | exact Tryz.isAgg23 | (intro w; kernel_rfl)
  z53 := by first | exact Tryz.sizeOf23 | (intro w; kernel_rfl)
  v53 := by first | exact Tryz.zeroValue23 | (intro w; kernel_rfl)
end Mul

theorem mul64_any (x y : Nat) (hx : x < 18446744073709551616) (hy : y < 18446744073709551616) (w : World) :
    Calls Tryz.prog 145 #[.int .u64 x, .int .u64 y] w fun e w' => e = .returned (.tuple #[.int .u64 ((x * y / 18446744073709551616 : Nat) : Int), .int .u64 ((x * y % 18446744073709551616 : Nat) : Int)]) ∧ w' = w :=
  Any.bits_Mul64 Mul.lays x y hx hy w

set_option maxRecDepth 100000 in
theorem product_room (a b : Int) (w : World) (ha : 0 ≤ a) (hb : 0 ≤ b) (ha1 : a ≤ 18446744073709551615) (hb1 : b ≤ 18446744073709551615) (p : Int) (hp : a * b = p) (h : p ≤ 18446744073709551615) :
    Calls Tryz.prog 143 #[.int .u64 a, .int .u64 b] w fun e w' => e = .returned (.tuple #[.int .u64 p, .bool true]) ∧ w' = w := by
  obtain ⟨x, rfl⟩ := Int.eq_ofNat_of_zero_le ha
  obtain ⟨y, rfl⟩ := Int.eq_ofNat_of_zero_le hb
  have hc := mul64_any x y (by omega) (by omega) w
  have hp' : ((x * y : Nat) : Int) = p := by rw [← hp]; exact Int.natCast_mul x y
  generalize x * y = z at hc hp'
  subst hp'
  clear hp
  rw [Nat.div_eq_of_lt (by omega), Nat.mod_eq_of_lt (by omega)] at hc
  go_enter Tryz.func143, Tryz.ntmps143
  go_wp2_with (go_at_call 145; refine hc.mono ?_; rintro e w' ⟨rfl, rfl⟩)
  go_ret2
  exact ⟨rfl, rfl⟩

set_option maxRecDepth 100000 in
theorem product_none (a b : Int) (w : World) (ha : 0 ≤ a) (hb : 0 ≤ b) (ha1 : a ≤ 18446744073709551615) (hb1 : b ≤ 18446744073709551615) (p : Int) (hp : a * b = p) (h : 18446744073709551615 < p) :
    Calls Tryz.prog 143 #[.int .u64 a, .int .u64 b] w fun e w' => e = .returned (.tuple #[.int .u64 0, .bool false]) ∧ w' = w := by
  obtain ⟨x, rfl⟩ := Int.eq_ofNat_of_zero_le ha
  obtain ⟨y, rfl⟩ := Int.eq_ofNat_of_zero_le hb
  have hc := mul64_any x y (by omega) (by omega) w
  have hp' : ((x * y : Nat) : Int) = p := by rw [← hp]; exact Int.natCast_mul x y
  generalize x * y = z at hc hp'
  subst hp'
  clear hp
  have h2 : 0 < z / 18446744073709551616 := Nat.div_pos (by omega) (by omega)
  generalize z / 18446744073709551616 = q at hc h2
  have h4 : ¬ ((q : Int) = 0) := by omega
  have h3 : ((q : Int) != 0) = true := by simp; omega
  clear h2 h
  go_enter Tryz.func143, Tryz.ntmps143
  go_wp2_with (go_at_call 145; refine hc.mono ?_; rintro e w' ⟨rfl, rfl⟩)
  go_ret2
  exact ⟨rfl, rfl⟩
end Go.Proofs.YtlamgpeiolfffaaGreatDoor

namespace Go.Proofs.YtlamgpeiolfffaaGreatDoor
open Go.RowKit
variable [dK] [iK]

set_option maxRecDepth 100000 in
theorem qreply (kd x y lv wn c : Int) (w : World) :
    Calls Tryz.prog 133 #[.agg #[.int .u8 kd, .int .u64 x, .int .u64 y, .int .u64 lv, .int .u64 wn], .int .u8 c] w fun e w' => e = .returned (.agg #[.int .u8 c, .int .u64 lv, .int .u64 wn]) ∧ w' = (w.alloc (.cells #[.int .u8 kd, .int .u64 x, .int .u64 y, .int .u64 lv, .int .u64 wn] 231)).alloc (.cells #[.int .u8 c, .int .u64 lv, .int .u64 wn] 40) := by
  go_enter Tryz.func133, Tryz.ntmps133
  go_wp2
  exact bodyPost_ret (v := .agg #[.int .u8 c, .int .u64 lv, .int .u64 wn]) (by simp [results, Tryz.results133, go_sem]) rfl ⟨rfl, rfl⟩

set_option maxRecDepth 100000 in
theorem qdenied (u : Int) (w : World) :
    Calls Tryz.prog 139 #[.int .u64 u] w fun e w' => e = .returned (.agg #[.int .u8 3, .int .u64 u, .int .u64 0]) ∧ w' = w.alloc (.cells #[.int .u8 3, .int .u64 u, .int .u64 0] 40) := by
  go_enter Tryz.func139, Tryz.ntmps139
  go_wp2
  exact bodyPost_ret (v := .agg #[.int .u8 3, .int .u64 u, .int .u64 0]) (by simp [results, Tryz.results139, go_sem]) rfl ⟨rfl, rfl⟩

set_option maxRecDepth 100000 in
theorem qturnSpaced (kd x y lv wn now : Int) (w : World) :
    Calls Tryz.prog 134 #[.agg #[.int .u8 kd, .int .u64 x, .int .u64 y, .int .u64 lv, .int .u64 wn], .int .u64 now] w fun e w' => e = .returned (.agg #[.int .u8 kd, .int .u64 x, .int .u64 y, .int .u64 lv, .int .u64 wn]) ∧ w' = (w.alloc (.cells #[.int .u8 kd, .int .u64 x, .int .u64 y, .int .u64 lv, .int .u64 wn] 231)).alloc (.cells #[.int .u8 kd, .int .u64 x, .int .u64 y, .int .u64 lv, .int .u64 wn] 231) := by
  go_enter Tryz.func134, Tryz.ntmps134
  go_wp2
  exact bodyPost_ret (v := .agg #[.int .u8 kd, .int .u64 x, .int .u64 y, .int .u64 lv, .int .u64 wn]) (by simp [results, Tryz.results134, go_sem]) rfl ⟨rfl, rfl⟩

set_option maxRecDepth 100000 in
theorem qturnWindow_same (kd x y lv wn now : Int) (w : World) (hy : y ≠ 0) (h : IntKind.u64.wrap (now.tdiv y) = wn) :
    Calls Tryz.prog 136 #[.agg #[.int .u8 kd, .int .u64 x, .int .u64 y, .int .u64 lv, .int .u64 wn], .int .u64 now] w fun e w' => e = .returned (.agg #[.int .u8 kd, .int .u64 x, .int .u64 y, .int .u64 lv, .int .u64 wn]) ∧ w' = (w.alloc (.cells #[.int .u8 kd, .int .u64 x, .int .u64 y, .int .u64 lv, .int .u64 wn] 231)).alloc (.cells #[.int .u8 kd, .int .u64 x, .int .u64 y, .int .u64 lv, .int .u64 wn] 231) := by
  have h1 : (wn != wn) = false := by simp
  go_enter Tryz.func136, Tryz.ntmps136
  go_wp2
  exact bodyPost_ret (v := .agg #[.int .u8 kd, .int .u64 x, .int .u64 y, .int .u64 lv, .int .u64 wn]) (by simp [results, Tryz.results136, go_sem]) rfl ⟨rfl, rfl⟩

set_option maxRecDepth 100000 in
theorem qturnWindow_new (kd x y lv wn now d : Int) (w : World) (hy : y ≠ 0) (h : IntKind.u64.wrap (now.tdiv y) = d) (hd : (d != wn) = true) :
    Calls Tryz.prog 136 #[.agg #[.int .u8 kd, .int .u64 x, .int .u64 y, .int .u64 lv, .int .u64 wn], .int .u64 now] w fun e w' => e = .returned (.agg #[.int .u8 kd, .int .u64 x, .int .u64 y, .int .u64 0, .int .u64 d]) ∧ w' = (w.alloc (.cells #[.int .u8 kd, .int .u64 x, .int .u64 y, .int .u64 0, .int .u64 d] 231)).alloc (.cells #[.int .u8 kd, .int .u64 x, .int .u64 y, .int .u64 0, .int .u64 d] 231) := by
  go_enter Tryz.func136, Tryz.ntmps136
  go_wp2
  exact bodyPost_ret (v := .agg #[.int .u8 kd, .int .u64 x, .int .u64 y, .int .u64 0, .int .u64 d]) (by simp [results, Tryz.results136, go_sem]) rfl ⟨rfl, rfl⟩

set_option maxRecDepth 100000 in
theorem qnext_never (kd x y lv wn n : Int) (w : World) (h : x < n) :
    Calls Tryz.prog 142 #[.agg #[.int .u8 kd, .int .u64 x, .int .u64 y, .int .u64 lv, .int .u64 wn], .int .u64 n] w fun e w' => e = .returned (.int .u64 18446744073709551615) ∧ w' = w.alloc (.cells #[.int .u8 kd, .int .u64 x, .int .u64 y, .int .u64 lv, .int .u64 wn] 231) := by
  go_enter Tryz.func142, Tryz.ntmps142
  go_wp2
  go_ret
  exact ⟨rfl, rfl⟩

set_option maxRecDepth 100000 in
theorem qnext_some (kd x y lv wn n p : Int) (w : World) (h : n ≤ x) (hp : IntKind.u64.wrap (wn * y) = p) (hp0 : 0 ≤ p) (hp1 : p ≤ 18446744073709551615) (hy0 : 0 ≤ y) (hy1 : y ≤ 18446744073709551615) :
    Calls Tryz.prog 142 #[.agg #[.int .u8 kd, .int .u64 x, .int .u64 y, .int .u64 lv, .int .u64 wn], .int .u64 n] w fun e w' => e = .returned (.int .u64 (orNever (p + y))) ∧ w' = w.alloc (.cells #[.int .u8 kd, .int .u64 x, .int .u64 y, .int .u64 lv, .int .u64 wn] 231) := by
  go_enter Tryz.func142, Tryz.ntmps142
  go_wp2_with (go_at_call 140; refine (sumNever_any p y _ hp0 hy0 hp1 hy1).mono ?_; rintro e w' ⟨rfl, rfl⟩)
  go_ret
  exact ⟨rfl, rfl⟩

set_option maxRecDepth 100000 in
theorem qafter_room (kd x y lv wn s n p : Int) (w : World) (hp : n * x = p) (hn0 : 0 ≤ n) (hn1 : n ≤ 18446744073709551615) (hx0 : 0 ≤ x) (hx1 : x ≤ 18446744073709551615) (hs0 : 0 ≤ s) (hs1 : s ≤ 18446744073709551615) (hp0 : 0 ≤ p) (h : s + p ≤ 18446744073709551615) :
    Calls Tryz.prog 138 #[.agg #[.int .u8 kd, .int .u64 x, .int .u64 y, .int .u64 lv, .int .u64 wn], .int .u64 s, .int .u64 n] w fun e w' => e = .returned (.tuple #[.int .u64 (s + p), .bool true]) ∧ w' = w.alloc (.cells #[.int .u8 kd, .int .u64 x, .int .u64 y, .int .u64 lv, .int .u64 wn] 231) := by
  go_enter Tryz.func138, Tryz.ntmps138
  go_wp2_with (first | (go_at_call 143; refine (product_room n x _ hn0 hx0 hn1 hx1 p hp (by omega)).mono ?_; rintro e w' ⟨rfl, rfl⟩) | (go_at_call 141; refine (sum_room s p _ hs0 hp0 h).mono ?_; rintro e w' ⟨rfl, rfl⟩))
  go_ret2
  exact ⟨rfl, rfl⟩

set_option maxRecDepth 100000 in
theorem qafter_none (kd x y lv wn s n p : Int) (w : World) (hp : n * x = p) (hn0 : 0 ≤ n) (hn1 : n ≤ 18446744073709551615) (hx0 : 0 ≤ x) (hx1 : x ≤ 18446744073709551615) (hs0 : 0 ≤ s) (hs1 : s ≤ 18446744073709551615) (hp0 : 0 ≤ p) (h : 18446744073709551615 < s + p) :
    Calls Tryz.prog 138 #[.agg #[.int .u8 kd, .int .u64 x, .int .u64 y, .int .u64 lv, .int .u64 wn], .int .u64 s, .int .u64 n] w fun e w' => e = .returned (.tuple #[.int .u64 0, .bool false]) ∧ w' = w.alloc (.cells #[.int .u8 kd, .int .u64 x, .int .u64 y, .int .u64 lv, .int .u64 wn] 231) := by
  by_cases h1 : p ≤ 18446744073709551615
  · go_enter Tryz.func138, Tryz.ntmps138
    go_wp2_with (first | (go_at_call 143; refine (product_room n x _ hn0 hx0 hn1 hx1 p hp (by omega)).mono ?_; rintro e w' ⟨rfl, rfl⟩) | (go_at_call 141; refine (sum_none s p _ hs0 hp0 hs1 h1 h).mono ?_; rintro e w' ⟨rfl, rfl⟩))
    go_ret2
    exact ⟨rfl, rfl⟩
  · go_enter Tryz.func138, Tryz.ntmps138
    go_wp2_with (go_at_call 143; refine (product_none n x _ hn0 hx0 hn1 hx1 p hp (by omega)).mono ?_; rintro e w' ⟨rfl, rfl⟩)
    go_ret2
    exact ⟨rfl, rfl⟩
set_option maxRecDepth 100000 in
theorem qjudges (w : World) :
    Calls Tryz.prog 132 #[] w fun e w' => e = .returned (.agg #[.nilFunc, .nilFunc, .func (.func 134) #[] #[], .func (.func 135) #[] #[], .func (.func 136) #[] #[], .func (.func 137) #[] #[]]) ∧ w' = w.alloc (.cells #[.nilFunc, .nilFunc, .func (.func 134) #[] #[], .func (.func 135) #[] #[], .func (.func 136) #[] #[], .func (.func 137) #[] #[]] 247) := by
  go_enter Tryz.func132, Tryz.ntmps132
  go_wp2
  exact bodyPost_ret (v := .agg #[.nilFunc, .nilFunc, .func (.func 134) #[] #[], .func (.func 135) #[] #[], .func (.func 136) #[] #[], .func (.func 137) #[] #[]]) (by simp [results, Tryz.results132, go_sem]) rfl ⟨rfl, rfl⟩
end Go.Proofs.YtlamgpeiolfffaaGreatDoor

namespace Go.Proofs.YtlamgpeiolfffaaGreatDoor
open Go.RowKit Go.Maps
variable [dK] [iK]

/-- The map in a ledger's field holds just these keys. -/
def MapX (w : World) (mp : Option Nat) (ks : List (Ky × Qt)) : Prop :=
  match mp with
  | none => ks = []
  | some b => MapOf w b ks
theorem MapX.kept {w w' : World} {mp : Option Nat} {ks : List (Ky × Qt)} (h : MapX w mp ks) (hb : ∀ b, mp = some b → w'.heap[b]? = w.heap[b]?) : MapX w' mp ks := by
  cases mp with
  | none => exact h
  | some b => exact MapOf.kept h (hb b rfl)
theorem MapX.lt {w : World} {mp : Option Nat} {ks : List (Ky × Qt)} (h : MapX w mp ks) : ∀ b, mp = some b → b < w.heap.size := by
  rintro b rfl; exact MapOf.lt h
theorem MapX.alloc {w : World} {mp : Option Nat} {ks : List (Ky × Qt)} (h : MapX w mp ks) (o : Obj) : MapX (w.alloc o) mp ks :=
  h.kept fun b hb => heapOld w o (h.lt b hb)
theorem MapX.look {w : World} {mp : Option Nat} {ks : List (Ky × Qt)} (h : MapX w mp ks) {k : Ky} (hk : k.ok) :
    (Instr.lookup 111 (.map mp) (kval k) true).run Tryz.prog w = .ok (.tuple #[qlook (fnd k ks), .bool (fnd k ks).isSome]) w := by
  cases mp with
  | none =>
    have e : ks = [] := h
    subst e
    exact look_nil hk
  | some b => exact MapOf.look h hk
theorem MapX.drew {w : World} {mp : Option Nat} {ks : List (Ky × Qt)} (h : MapX w mp ks) : MapX w.drew mp ks := by
  cases mp with
  | none => exact h
  | some b => exact MapOf.kept h rfl

/-- What a look-up of a key that is not there gives. -/
theorem MapX.look0 {w : World} {mp : Option Nat} {ks : List (Ky × Qt)} (h : MapX w mp ks) {k : Ky} (hk : k.ok) (hf : fnd k ks = none) :
    (Instr.lookup 111 (.map mp) (.agg #[.int .u8 k.k0, .int .u8 k.k1, .int .u8 k.k2, .int .u8 k.k3, .int .u8 k.k4, .int .u8 k.k5, .int .u8 k.k6, .int .u8 k.k7]) true).run Tryz.prog w = .ok (.tuple #[.agg #[.int .u8 0, .int .u64 0, .int .u64 0, .int .u64 0, .int .u64 0], .bool false]) w := by
  have := h.look hk
  rw [hf] at this
  exact this
theorem MapX.look1 {w : World} {mp : Option Nat} {ks : List (Ky × Qt)} (h : MapX w mp ks) {k : Ky} (hk : k.ok) {q : Qt} (hf : fnd k ks = some q) :
    (Instr.lookup 111 (.map mp) (.agg #[.int .u8 k.k0, .int .u8 k.k1, .int .u8 k.k2, .int .u8 k.k3, .int .u8 k.k4, .int .u8 k.k5, .int .u8 k.k6, .int .u8 k.k7]) true).run Tryz.prog w = .ok (.tuple #[.agg #[.int .u8 q.kd, .int .u64 q.x, .int .u64 q.y, .int .u64 q.lv, .int .u64 q.wn], .bool true]) w := by
  have := h.look hk
  rw [hf] at this
  exact this

set_option maxRecDepth 100000 in
set_option maxHeartbeats 1000000 in
theorem bquery_none (sb : Nat) (s0 s1 adm : Value) (time : Int) (mp : Option Nat) (ks : List (Ky × Qt)) (k : Ky) (w : World) (hs : w.heap[sb]? = some (.cells #[s0, s1, .int .u64 time, .map mp, adm] 119)) (hm : MapX w mp ks) (hk : k.ok) (hf : fnd k ks = none) :
    Calls Tryz.prog 105 #[.pointer (some ⟨sb, 2, none⟩), .agg #[.int .u8 k.k0, .int .u8 k.k1, .int .u8 k.k2, .int .u8 k.k3, .int .u8 k.k4, .int .u8 k.k5, .int .u8 k.k6, .int .u8 k.k7]] w fun e w' => e = .returned (.agg #[.int .u8 4, .int .u64 0, .int .u64 0]) ∧ Below w.heap.size w w' := by
  go_enter Tryz.func105, Tryz.ntmps105
  go_upto_region 1 with fail
  obtain ⟨W, hW⟩ : ∃ W, W = (w.alloc (.cells #[.int .u8 k.k0, .int .u8 k.k1, .int .u8 k.k2, .int .u8 k.k3, .int .u8 k.k4, .int .u8 k.k5, .int .u8 k.k6, .int .u8 k.k7] 56)).alloc (.cells #[.int .u8 0, .int .u64 0, .int .u64 0] 40) := ⟨_, rfl⟩
  rw [← hW]
  have hB : Below w.heap.size w W := hW ▸ ((Below.refl _ w).alloc (Nat.le_refl _) _).alloc (by simp) _
  have hk0 : W.heap[w.heap.size]? = some (.cells #[.int .u8 k.k0, .int .u8 k.k1, .int .u8 k.k2, .int .u8 k.k3, .int .u8 k.k4, .int .u8 k.k5, .int .u8 k.k6, .int .u8 k.k7] 56) := hW ▸ upB (heapNew _ _) _
  have hr0 : W.heap[w.heap.size + 1]? = some (.cells #[.int .u8 0, .int .u64 0, .int .u64 0] 40) := hW ▸ heapN (by simp)
  have hs0 : W.heap[sb]? = some (.cells #[s0, s1, .int .u64 time, .map mp, adm] 119) := hW ▸ upB (upB hs _) _
  have hm0 : MapX W mp ks := hW ▸ (hm.alloc _).alloc _
  clear hW hs hm
  have a1 := cellB hk0
  have a2 := upC hk0 (.cells #[.int .u8 0, .int .u64 0, .int .u64 0, .int .u64 0, .int .u64 0] 231)
  have a3 := cellB hs0
  have a4 := upC hs0 (.cells #[.int .u8 0, .int .u64 0, .int .u64 0, .int .u64 0, .int .u64 0] 231)
  have a5 := hm0.drew.look0 hk hf
  have a6 := (hm0.alloc (.cells #[.int .u8 0, .int .u64 0, .int .u64 0, .int .u64 0, .int .u64 0] 231)).drew.look0 hk hf
  go_cut [5, 6] (fun s5 s6 wx => s5 = .pointer (some ⟨W.heap.size, 0, none⟩) ∧ s6 = .bool false ∧ wx = (W.alloc (.cells #[.int .u8 0, .int .u64 0, .int .u64 0, .int .u64 0, .int .u64 0] 231)).drew)
  case first =>
    go_region
    all_goals (go_wp2_with fail; go_meet)
    all_goals exact ⟨rfl, rfl, rfl⟩
  case rest =>
    obtain ⟨rfl, rfl, rfl⟩ := hcut
    have b1 := upC hr0 (.cells #[.int .u8 0, .int .u64 0, .int .u64 0, .int .u64 0, .int .u64 0] 231)
    have b2 := upF hr0 (.cells #[.int .u8 0, .int .u64 0, .int .u64 0, .int .u64 0, .int .u64 0] 231)
    clear a1 a2 a3 a4 a5 a6
    go_wp2
    refine bodyPost_ret (v := .agg #[.int .u8 4, .int .u64 0, .int .u64 0]) (by simp [results, Tryz.results105, go_sem, b1]) rfl ⟨rfl, Below.drew ?_⟩
    repeat (refine Below.setCell ?_ (by simp <;> omega) _)
    exact hB.alloc hB.size _
end Go.Proofs.YtlamgpeiolfffaaGreatDoor

namespace Go.Proofs.YtlamgpeiolfffaaGreatDoor
open Go.RowKit
variable [dK] [iK]

set_option maxRecDepth 100000 in
theorem bpass (sb : Nat) (s0 s1 mv adm : Value) (time now t : Int) (ht : (if time < now then now else time) = t) (w : World) (hs : w.heap[sb]? = some (.cells #[s0, s1, .int .u64 time, mv, adm] 119)) :
    Calls Tryz.prog 43 #[.pointer (some ⟨sb, 2, none⟩), .int .u64 now] w fun e w' => e = .returned (.tuple #[]) ∧ w'.heap[sb]? = some (.cells #[s0, s1, .int .u64 t, mv, adm] 119) ∧ Keep (fun b => b = sb) w w' := by
  have a1 := cellB hs
  have a2 := frozenB hs
  by_cases h : time < now
  · rw [if_pos h] at ht
    subst ht
    go_enter Tryz.func43, Tryz.ntmps43
    go_wp2
    go_end0
    exact ⟨rfl, by simpa using heapSet hs 2 (.int .u64 now), Keep.set (S := fun b => b = sb) (b := sb) (Keep.refl _ w) (Or.inl rfl) _ _⟩
  · rw [if_neg h] at ht
    subst ht
    go_enter Tryz.func43, Tryz.ntmps43
    go_wp2
    go_end0
    exact ⟨rfl, by simpa using heapSet hs 2 (.int .u64 time), Keep.set (S := fun b => b = sb) (b := sb) (Keep.refl _ w) (Or.inl rfl) _ _⟩

set_option maxRecDepth 100000 in
theorem bclock (sb : Nat) (s0 s1 mv adm : Value) (time : Int) (w : World) (hs : w.heap[sb]? = some (.cells #[s0, s1, .int .u64 time, mv, adm] 119)) :
    Calls Tryz.prog 107 #[.pointer (some ⟨sb, 2, none⟩)] w fun e w' => e = .returned (.agg #[.int .u8 1, .int .u64 time, .int .u64 0]) ∧ Below w.heap.size w w' := by
  have a1 := upC hs (.cells #[.int .u8 0, .int .u64 0, .int .u64 0] 40)
  go_enter Tryz.func107, Tryz.ntmps107
  go_wp2
  exact bodyPost_ret (v := .agg #[.int .u8 1, .int .u64 time, .int .u64 0]) (by simp [results, Tryz.results107, go_sem]) rfl ⟨rfl, (Below.refl _ w).alloc (Nat.le_refl _) _⟩

set_option maxRecDepth 100000 in
theorem atomAdd (sb : Nat) (s0 s1 s2 s3 : Value) (x n t : Int) (ht : IntKind.u64.wrap (x + n) = t) (w : World) (hs : w.heap[sb]? = some (.cells #[s0, s1, s2, s3, .int .u64 x] 119)) :
    Calls Tryz.prog 124 #[.pointer (some ⟨sb, 4, none⟩), .int .u64 n] w fun e w' => e = .returned (.int .u64 t) ∧ w' = w.setCell ⟨sb, 4, none⟩ (.int .u64 t) := by
  have a1 := cellB hs 4
  have a2 := frozenB hs 4
  have hadd := run_call_add (P := Tryz.prog) Tryz.func131 (by kernel_rfl) (by kernel_rfl) (by kernel_rfl) .u64 (by kernel_rfl) (a := ⟨sb, 4, none⟩) (x := x) (y := n) (s := t) a1 a2 (by rw [← ht]; simp [go_sem])
  go_enter Tryz.func124, Tryz.ntmps124
  go_wp2
  go_ret
  exact ⟨rfl, rfl⟩

set_option maxRecDepth 100000 in
theorem atomLoad (sb : Nat) (s0 s1 s2 s3 : Value) (x : Int) (w : World) (hs : w.heap[sb]? = some (.cells #[s0, s1, s2, s3, .int .u64 x] 119)) :
    Calls Tryz.prog 83 #[.pointer (some ⟨sb, 4, none⟩)] w fun e w' => e = .returned (.int .u64 x) ∧ w' = w := by
  have a1 := cellB hs 4
  have hadd := run_call_load (P := Tryz.prog) Tryz.func110 (by kernel_rfl) (by kernel_rfl) (by kernel_rfl) .u64 (by kernel_rfl) (a := ⟨sb, 4, none⟩) (x := x) a1
  go_enter Tryz.func83, Tryz.ntmps83
  go_wp2
  go_ret
  exact ⟨rfl, rfl⟩

set_option maxRecDepth 100000 in
theorem admitted54 (sb : Nat) (s0 s1 s2 s3 : Value) (x : Int) (w : World) (hs : w.heap[sb]? = some (.cells #[s0, s1, s2, s3, .int .u64 x] 119)) :
    Calls Tryz.prog 54 #[.pointer (some ⟨sb, 0, none⟩)] w fun e w' => e = .returned (.int .u64 x) ∧ w' = w := by
  go_enter Tryz.func54, Tryz.ntmps54
  go_wp2_with (go_at_call 83; refine (atomLoad sb s0 s1 s2 s3 x _ hs).mono ?_; rintro e w' ⟨rfl, rfl⟩)
  go_ret
  exact ⟨rfl, rfl⟩

set_option maxRecDepth 100000 in
theorem scount_in (sb : Nat) (s0 s1 s2 s3 : Value) (x n t a b : Int) (ht : IntKind.u64.wrap (x + n) = t) (w : World) (hs : w.heap[sb]? = some (.cells #[s0, s1, s2, s3, .int .u64 x] 119)) :
    Calls Tryz.prog 103 #[.pointer (some ⟨sb, 0, none⟩), .int .u64 n, .agg #[.int .u8 2, .int .u64 a, .int .u64 b]] w fun e w' => e = .returned (.agg #[.int .u8 2, .int .u64 a, .int .u64 b]) ∧ w'.heap[sb]? = some (.cells #[s0, s1, s2, s3, .int .u64 t] 119) ∧ Keep (fun b => b = sb) w w' := by
  have hl := ltB hs
  have hs1 := upB (upB hs (.cells #[.int .u8 2, .int .u64 a, .int .u64 b] 40)) (.cells #[.int .u8 0, .int .u64 0, .int .u64 0] 40)
  go_enter Tryz.func103, Tryz.ntmps103
  go_wp2_with (go_at_call 124; refine (atomAdd sb s0 s1 s2 s3 x n t ht _ hs1).mono ?_; rintro e w' ⟨rfl, rfl⟩)
  exact bodyPost_ret (v := .agg #[.int .u8 2, .int .u64 a, .int .u64 b]) (by simp [results, Tryz.results103, go_sem]) rfl ⟨rfl, upB (upB (by simpa using heapSet hs 4 (.int .u64 t)) _) _, ((Keep.set (S := fun b => b = sb) (b := sb) (Keep.refl _ w) (Or.inl rfl) _ _).alloc _).alloc _⟩

set_option maxRecDepth 100000 in
theorem scount_out (sb : Nat) (n c a b : Int) (hc : (c == 2) = false) (w : World) :
    Calls Tryz.prog 103 #[.pointer (some ⟨sb, 0, none⟩), .int .u64 n, .agg #[.int .u8 c, .int .u64 a, .int .u64 b]] w fun e w' => e = .returned (.agg #[.int .u8 c, .int .u64 a, .int .u64 b]) ∧ Below w.heap.size w w' := by
  go_enter Tryz.func103, Tryz.ntmps103
  go_wp2
  exact bodyPost_ret (v := .agg #[.int .u8 c, .int .u64 a, .int .u64 b]) (by simp [results, Tryz.results103, go_sem]) rfl ⟨rfl, ((Below.refl _ w).alloc (Nat.le_refl _) _).alloc (by simp) _⟩

end Go.Proofs.YtlamgpeiolfffaaGreatDoor

namespace Go.Proofs.YtlamgpeiolfffaaGreatDoor
open Go.RowKit Go.Maps
variable [dK] [iK]

/-- Block sb is a ledger's server that stands so; F: the blocks that are its own. -/
structure SrvAt (w : World) (st : Int) (sb : Nat) (L : Ld) (F : Nat → Prop) : Prop where
  mem : ∃ mp, w.heap[sb]? = some (.cells #[.int .i32 st, .int .u32 0, .int .u64 L.time, .map mp, .int .u64 L.adm] 119) ∧ MapX w mp L.ks ∧ ∀ b, mp = some b → F b
  own : F sb
  lt : ∀ b, F b → b < w.heap.size
/-- What a call on a ledger leaves. -/
def Out (w : World) (st : Int) (sb : Nat) (L : Ld) (F : Nat → Prop) (w' : World) : Prop :=
  ∃ F', SrvAt w' st sb L F' ∧ Keep F w w' ∧ ∀ b, F' b → F b ∨ w.heap.size ≤ b

theorem SrvAt.kept {w w' : World} {st : Int} {sb : Nat} {L : Ld} {F : Nat → Prop} (h : SrvAt w st sb L F) (hs : w.heap.size ≤ w'.heap.size) (hb : ∀ b, F b → w'.heap[b]? = w.heap[b]?) : SrvAt w' st sb L F := by
  obtain ⟨mp, h1, h2, h3⟩ := h.mem
  exact ⟨⟨mp, (hb sb h.own).trans h1, h2.kept fun b e => hb b (h3 b e), h3⟩, h.own, fun b hF => Nat.lt_of_lt_of_le (h.lt b hF) hs⟩
theorem SrvAt.below {w w' : World} {st : Int} {sb : Nat} {L : Ld} {F : Nat → Prop} (h : SrvAt w st sb L F) {B : Nat} (hb : Below B w w') (hB : w.heap.size ≤ B) : SrvAt w' st sb L F :=
  h.kept hb.size fun b hF => hb.block b (Nat.lt_of_lt_of_le (h.lt b hF) hB)
theorem SrvAt.drew {w : World} {st : Int} {sb : Nat} {L : Ld} {F : Nat → Prop} (h : SrvAt w st sb L F) : SrvAt w.drew st sb L F := h.kept (Nat.le_refl _) fun _ _ => rfl
theorem Out.same {w w' : World} {st : Int} {sb : Nat} {L : Ld} {F : Nat → Prop} (h : SrvAt w st sb L F) (hb : Below w.heap.size w w') : Out w st sb L F w' :=
  ⟨F, h.below hb (Nat.le_refl _), Keep.of_below hb, fun _ hF => Or.inl hF⟩
/-- A store into a block that is new and not the ledger's. -/
theorem Out.set {w w1 w' : World} {st : Int} {sb : Nat} {L : Ld} {F : Nat → Prop} (h : ∃ F', SrvAt w' st sb L F' ∧ Keep F w w' ∧ ∀ b, F' b → F b ∨ w1.heap.size ≤ b) {b : Nat} (hb : w.heap.size ≤ b) (hb1 : b < w1.heap.size) (hF : ∀ b, F b → b < w.heap.size) (j : Nat) (v : Value) :
    ∃ F', SrvAt (w'.setCell ⟨b, j, none⟩ v) st sb L F' ∧ Keep F w (w'.setCell ⟨b, j, none⟩ v) ∧ ∀ b, F' b → F b ∨ w1.heap.size ≤ b := by
  obtain ⟨F', h1, h2, h3⟩ := h
  refine ⟨F', h1.kept (by rw [World.size_setCell]; exact Nat.le_refl _) fun c hc => heapSetO (fun e => ?_) j v, h2.set (Or.inr hb) j v, h3⟩
  subst e
  rcases h3 _ hc with h | h
  · have := hF _ h; omega
  · omega

abbrev kv (q : Rq) : Value := .agg #[.int .u8 q.k0, .int .u8 q.k1, .int .u8 q.k2, .int .u8 q.k3, .int .u8 q.k4, .int .u8 q.k5, .int .u8 q.k6, .int .u8 q.k7]

theorem Out.fin {w W w' : World} {st : Int} {sb : Nat} {L : Ld} {F F' : Nat → Prop} (hB : Below w.heap.size w W) (hr : w.heap.size + 1 < W.heap.size) (hF : ∀ b, F b → b < w.heap.size) (h1 : SrvAt w' st sb L F') (h2 : Keep F W w') (h3 : ∀ b, F' b → F b ∨ W.heap.size ≤ b) (v0 v1 v2 : Value) :
    Out w st sb L F (((w'.setCell ⟨w.heap.size + 1, 0, none⟩ v0).setCell ⟨w.heap.size + 1, 1, none⟩ v1).setCell ⟨w.heap.size + 1, 2, none⟩ v2) := by
  have h0 : ∃ F', SrvAt w' st sb L F' ∧ Keep F w w' ∧ ∀ b, F' b → F b ∨ W.heap.size ≤ b := ⟨F', h1, (Keep.of_below hB).trans h2, h3⟩
  obtain ⟨F'', g1, g2, g3⟩ := Out.set (Out.set (Out.set h0 (b := w.heap.size + 1) (by omega) hr hF 0 v0) (b := w.heap.size + 1) (by omega) hr hF 1 v1) (b := w.heap.size + 1) (by omega) hr hF 2 v2
  exact ⟨F'', g1, g2, fun b hb => (g3 b hb).imp id (fun h => by omega)⟩

set_option maxRecDepth 100000 in
set_option maxHeartbeats 4000000 in
theorem do_query (sb : Nat) (st : Int) (L L' _L2 : Ld) (F : Nat → Prop) (q : Rq) (c a b : Int) (w : World) (hop : q.op = 3) (hS : SrvAt w st sb L F)
    (hc : Hid (∀ w1, SrvAt w1 st sb L F → Calls Tryz.prog 105 #[.pointer (some ⟨sb, 2, none⟩), .agg #[.int .u8 q.k0, .int .u8 q.k1, .int .u8 q.k2, .int .u8 q.k3, .int .u8 q.k4, .int .u8 q.k5, .int .u8 q.k6, .int .u8 q.k7]] w1 fun e w' => e = .returned (.agg #[.int .u8 c, .int .u64 a, .int .u64 b]) ∧ Out w1 st sb L' F w')) :
    Calls Tryz.prog 69 #[.pointer (some ⟨sb, 0, none⟩), .agg #[.int .u8 q.op, .int .u8 q.k0, .int .u8 q.k1, .int .u8 q.k2, .int .u8 q.k3, .int .u8 q.k4, .int .u8 q.k5, .int .u8 q.k6, .int .u8 q.k7, .int .u8 q.kd, .int .u64 q.x, .int .u64 q.y, .int .u64 q.n]] w fun e w' => e = .returned (.agg #[.int .u8 c, .int .u64 a, .int .u64 b]) ∧ Out w st sb L' F w' := by
  rw [hop]
  have hFl := hS.lt
  obtain ⟨W, hW⟩ : ∃ W, W = (w.alloc (.cells #[.int .u8 3, .int .u8 q.k0, .int .u8 q.k1, .int .u8 q.k2, .int .u8 q.k3, .int .u8 q.k4, .int .u8 q.k5, .int .u8 q.k6, .int .u8 q.k7, .int .u8 q.kd, .int .u64 q.x, .int .u64 q.y, .int .u64 q.n] 58)).alloc (.cells #[.int .u8 0, .int .u64 0, .int .u64 0] 40) := ⟨_, rfl⟩
  have hB : Below w.heap.size w W := hW ▸ ((Below.refl _ w).alloc (Nat.le_refl _) _).alloc (by simp) _
  have hk0 : W.heap[w.heap.size]? = some (.cells #[.int .u8 3, .int .u8 q.k0, .int .u8 q.k1, .int .u8 q.k2, .int .u8 q.k3, .int .u8 q.k4, .int .u8 q.k5, .int .u8 q.k6, .int .u8 q.k7, .int .u8 q.kd, .int .u64 q.x, .int .u64 q.y, .int .u64 q.n] 58) := hW ▸ upB (heapNew _ _) _
  have hr0 : W.heap[w.heap.size + 1]? = some (.cells #[.int .u8 0, .int .u64 0, .int .u64 0] 40) := hW ▸ heapN (by simp)
  have hSW := hS.below hB (Nat.le_refl _)
  have a1 := cellB hk0
  have lr := ltB hr0
  go_enter Tryz.func69, Tryz.ntmps69
  go_upto_region 1 with fail
  rw [← hW]
  clear hW
  go_upto_region 7 with fail
  go_region_with (go_at_call 105; go_loud (refine (hc.out _ hSW.drew).mono ?_; rintro e w2 ⟨rfl, F', ho1, ho2, ho3⟩; have hr2 := (ho2.block _ lr (fun h => by have := hFl _ h; omega)).trans hr0; have c2 := cellB hr2; have f2 := frozenB hr2))
  all_goals go_wp2
  all_goals (
    refine bodyPost_ret (v := .agg #[.int .u8 c, .int .u64 a, .int .u64 b]) (by simp [results, Tryz.results69, go_sem, c2]) rfl ⟨rfl, ?_⟩
    exact Out.fin hB.drew lr hFl ho1 ho2 ho3 _ _ _)

set_option maxRecDepth 100000 in
set_option maxHeartbeats 4000000 in
theorem do_remove (sb : Nat) (st : Int) (L L' _L2 : Ld) (F : Nat → Prop) (q : Rq) (c a b : Int) (w : World) (hop : q.op = 4) (hS : SrvAt w st sb L F)
    (hc : Hid (∀ w1, SrvAt w1 st sb L F → Calls Tryz.prog 106 #[.pointer (some ⟨sb, 2, none⟩), .agg #[.int .u8 q.k0, .int .u8 q.k1, .int .u8 q.k2, .int .u8 q.k3, .int .u8 q.k4, .int .u8 q.k5, .int .u8 q.k6, .int .u8 q.k7]] w1 fun e w' => e = .returned (.agg #[.int .u8 c, .int .u64 a, .int .u64 b]) ∧ Out w1 st sb L' F w')) :
    Calls Tryz.prog 69 #[.pointer (some ⟨sb, 0, none⟩), .agg #[.int .u8 q.op, .int .u8 q.k0, .int .u8 q.k1, .int .u8 q.k2, .int .u8 q.k3, .int .u8 q.k4, .int .u8 q.k5, .int .u8 q.k6, .int .u8 q.k7, .int .u8 q.kd, .int .u64 q.x, .int .u64 q.y, .int .u64 q.n]] w fun e w' => e = .returned (.agg #[.int .u8 c, .int .u64 a, .int .u64 b]) ∧ Out w st sb L' F w' := by
  rw [hop]
  have hFl := hS.lt
  obtain ⟨W, hW⟩ : ∃ W, W = (w.alloc (.cells #[.int .u8 4, .int .u8 q.k0, .int .u8 q.k1, .int .u8 q.k2, .int .u8 q.k3, .int .u8 q.k4, .int .u8 q.k5, .int .u8 q.k6, .int .u8 q.k7, .int .u8 q.kd, .int .u64 q.x, .int .u64 q.y, .int .u64 q.n] 58)).alloc (.cells #[.int .u8 0, .int .u64 0, .int .u64 0] 40) := ⟨_, rfl⟩
  have hB : Below w.heap.size w W := hW ▸ ((Below.refl _ w).alloc (Nat.le_refl _) _).alloc (by simp) _
  have hk0 : W.heap[w.heap.size]? = some (.cells #[.int .u8 4, .int .u8 q.k0, .int .u8 q.k1, .int .u8 q.k2, .int .u8 q.k3, .int .u8 q.k4, .int .u8 q.k5, .int .u8 q.k6, .int .u8 q.k7, .int .u8 q.kd, .int .u64 q.x, .int .u64 q.y, .int .u64 q.n] 58) := hW ▸ upB (heapNew _ _) _
  have hr0 : W.heap[w.heap.size + 1]? = some (.cells #[.int .u8 0, .int .u64 0, .int .u64 0] 40) := hW ▸ heapN (by simp)
  have hSW := hS.below hB (Nat.le_refl _)
  have a1 := cellB hk0
  have lr := ltB hr0
  go_enter Tryz.func69, Tryz.ntmps69
  go_upto_region 1 with fail
  rw [← hW]
  clear hW
  go_upto_region 9 with fail
  go_region_with (go_at_call 106; go_loud (refine (hc.out _ hSW.drew).mono ?_; rintro e w2 ⟨rfl, F', ho1, ho2, ho3⟩; have hr2 := (ho2.block _ lr (fun h => by have := hFl _ h; omega)).trans hr0; have c2 := cellB hr2; have f2 := frozenB hr2))
  all_goals go_wp2
  all_goals (
    refine bodyPost_ret (v := .agg #[.int .u8 c, .int .u64 a, .int .u64 b]) (by simp [results, Tryz.results69, go_sem, c2]) rfl ⟨rfl, ?_⟩
    exact Out.fin hB.drew lr hFl ho1 ho2 ho3 _ _ _)

end Go.Proofs.YtlamgpeiolfffaaGreatDoor

namespace Go.Proofs.YtlamgpeiolfffaaGreatDoor
open Go.RowKit Go.MuLone
variable [dK] [iK]
abbrev muLink : Go.Conc.Locks.MuLink := { lock := 41, unlock := 42, ilock := 65, iunlock := 66, lockSlow := 93, unlockSlow := 96, disable := 89, enable := 91, acquire := 92, relMerge := 94, cas32 := 90, add32 := 95, tMutex := 110, tIMutex := 108, tPMutex := 147, tPIMutex := 180, tPI32 := 182, tUP := 157, tNoCopy := 105, tU32 := 106 }
theorem muLib : Go.Conc.Locks.MuLib Tryz.prog muLink :=
  ⟨Tryz.func41, Tryz.func42, Tryz.func65, Tryz.func66, Tryz.func89, Tryz.func91, Tryz.func92, Tryz.func94, Tryz.func90, Tryz.func95, Tryz.underlying108, Tryz.runUnderlying108, Tryz.sizeOf108, Tryz.isAgg108, Tryz.zeroValue108, Tryz.underlying110, Tryz.runUnderlying110, Tryz.sizeOf110, Tryz.isAgg110, Tryz.zeroValue110, Tryz.underlying147, Tryz.runUnderlying147, Tryz.sizeOf147, Tryz.isAgg147, Tryz.zeroValue147, Tryz.underlying180, Tryz.runUnderlying180, Tryz.sizeOf180, Tryz.isAgg180, Tryz.zeroValue180, Tryz.underlying182, Tryz.runUnderlying182, Tryz.sizeOf182, Tryz.isAgg182, Tryz.zeroValue182, Tryz.underlying157, Tryz.runUnderlying157, Tryz.sizeOf157, Tryz.isAgg157, Tryz.zeroValue157, Tryz.underlying105, Tryz.runUnderlying105, Tryz.sizeOf105, Tryz.isAgg105, Tryz.zeroValue105, Tryz.underlying21, Tryz.runUnderlying21, Tryz.sizeOf21, Tryz.isAgg21, Tryz.zeroValue21, (by kernel_rfl)⟩
theorem lock41 (sb : Nat) (s1 s2 s3 s4 : Value) (w : World) (hs : w.heap[sb]? = some (.cells #[.int .i32 0, s1, s2, s3, s4] 119)) :
    Calls Tryz.prog 41 #[.pointer (some ⟨sb, 0, none⟩)] w fun e w' => e = .returned (.tuple #[]) ∧ w' = w.setCell ⟨sb, 0, none⟩ (.int .i32 1) :=
  lock_free muLib ⟨sb, 0, none⟩ w (cellB hs 0) (frozenB hs 0)
theorem unlock42 (sb : Nat) (s1 s2 s3 s4 : Value) (u : FrameMode) (w : World) (hs : w.heap[sb]? = some (.cells #[.int .i32 1, s1, s2, s3, s4] 119)) :
    CallsD Tryz.prog 42 #[.pointer (some ⟨sb, 0, none⟩)] u w fun e u' w' => u' = u ∧ (e = .returned (.tuple #[]) ∧ w' = w.setCell ⟨sb, 0, none⟩ (.int .i32 0)) :=
  unlock_deferred muLib ⟨sb, 0, none⟩ u w (cellB hs 0) (frozenB hs 0)
end Go.Proofs.YtlamgpeiolfffaaGreatDoor

namespace Go.Proofs.YtlamgpeiolfffaaGreatDoor
open Go.RowKit
variable [dK] [iK]

def pickM (c n : Int) : Int := (if c < 0 then -(c + 1) else c) % n

set_option maxRecDepth 100000 in
theorem pick26 (c n : Int) (w : World) (hn : 0 < n) (hn1 : n ≤ 1000000000) (h0 : -9223372036854775808 ≤ c) (h1 : c ≤ 9223372036854775807) :
    Calls Tryz.prog 26 #[.int .i64 c, .int .i64 n] w fun e w' => e = .returned (.int .i64 (pickM c n)) ∧ w' = w := by
  have hnz : ¬ n = 0 := by omega
  by_cases h : c < 0
  · have e : pickM c n = -((c + 1).tmod n) := by unfold pickM; rw [if_pos h, ← Int.neg_tmod, Int.tmod_eq_emod_of_nonneg (by omega)]
    have k1 : IntKind.i64.wrap (c + 1) = c + 1 := by rw [IntKind.wrap_i64]; omega
    have k2 : IntKind.i64.wrap (-(c + 1)) = -(c + 1) := by rw [IntKind.wrap_i64]; omega
    rw [e]
    clear e
    go_enter Tryz.func26, Tryz.ntmps26
    go_wp2
    go_ret
    exact ⟨rfl, rfl⟩
  · have e : pickM c n = c % n := by unfold pickM; rw [if_neg h]
    rw [e]
    clear e
    go_enter Tryz.func26, Tryz.ntmps26
    go_wp2
    go_ret
    exact ⟨rfl, rfl⟩

abbrev dskc (dm nm : Option Nat) (pv : Value) (left full : Int) : Array Value := #[.map dm, .map nm, pv, .int .i64 left, .int .i64 full, .bool false]

set_option maxRecDepth 100000 in
set_option maxHeartbeats 1000000 in
theorem after28 (hb db : Nat) (dm nm : Option Nat) (pv sv cv bv : Value) (l f kept part : Int) (w : World) (hh : w.heap[hb]? = some (.cells #[.pointer (some ⟨db, 0, none⟩), sv, cv, bv] 75)) (hd : w.heap[db]? = some (.cells #[.map dm, .map nm, pv, .int .i64 l, .int .i64 f, .bool false] 81)) :
    Calls Tryz.prog 28 #[.pointer (some ⟨hb, 0, none⟩), .int .i64 kept, .int .i64 part] w fun e w' => e = .returned (.tuple #[]) ∧ w'.heap[db]? = some (.cells #[.map dm, .map nm, pv, .int .i64 (-1), .int .i64 (-1), .bool false] 81) ∧ Keep (fun b => b = db) w w' := by
  have hne : hb ≠ db := by
    intro e; subst e
    rw [hh] at hd; simp at hd
  have a0 := cellB hh 0
  have a1 := cellB hd
  have a2 := frozenB hd
  have n1 : ¬ hb = db := hne
  have n2 : ¬ db = hb := fun e => hne e.symm
  go_enter Tryz.func28, Tryz.ntmps28
  go_wp2_with fail
  go_region_held3 (fun w' => w'.cell? ⟨hb, 0, none⟩ = some (.pointer (some ⟨db, 0, none⟩))) (go_keep) (fail)
  all_goals go_wp2
  all_goals go_end0
  all_goals refine ⟨rfl, (heapDrew _ _).trans (by simpa using heapSet (heapSet hd 3 (.int .i64 (-1))) 4 (.int .i64 (-1))), Keep.drew ?_⟩
  all_goals exact Keep.set (S := fun b => b = db) (b := db) (Keep.set (S := fun b => b = db) (b := db) (Keep.refl _ w) (Or.inl rfl) _ _) (Or.inl rfl) _ _
end Go.Proofs.YtlamgpeiolfffaaGreatDoor

namespace Go.Proofs.YtlamgpeiolfffaaGreatDoor
open Go.RowKit
variable [dK] [iK]

set_option maxRecDepth 1000000 in
theorem len64_zero (w : World) : Calls Tryz.prog 179 #[.int .u64 0] w fun e w' => e = .returned (.int .i64 0) ∧ w' = w := by
  go_enter Tryz.func179, Tryz.ntmps179
  go_wp2
  go_ret
  exact ⟨by kernel_rfl, rfl⟩

set_option maxRecDepth 100000 in
theorem insertion_nil (w : World) : Calls Tryz.prog 169 #[.slice none 0 0, .int .i64 0, .int .i64 0] w fun e w' => e = .returned (.tuple #[]) ∧ w' = w := by
  go_enter Tryz.func169, Tryz.ntmps169
  go_wp2
  refine wp_loop_rounds 1 ?_
  rw [rounds_succ]
  go_wp2
  go_end0
  exact ⟨rfl, rfl⟩

set_option maxRecDepth 100000 in
theorem pdq_nil (w : World) : Calls Tryz.prog 167 #[.slice none 0 0, .int .i64 0, .int .i64 0, .int .i64 0] w fun e w' => e = .returned (.tuple #[]) ∧ w' = w := by
  go_enter Tryz.func167, Tryz.ntmps167
  go_wp2
  refine wp_loop_rounds 1 ?_
  rw [rounds_succ]
  go_wp2_with (go_at_call 169; refine (insertion_nil _).mono ?_; rintro e w' ⟨rfl, rfl⟩)
  exact bodyPost_ret (results_none rfl _ _ _) rfl ⟨rfl, rfl⟩

set_option maxRecDepth 100000 in
theorem sort_nil (w : World) : Calls Tryz.prog 165 #[.slice none 0 0] w fun e w' => e = .returned (.tuple #[]) ∧ w' = w := by
  go_enter Tryz.func165, Tryz.ntmps165
  go_wp2_with (first | (go_at_call 167; refine (pdq_nil _).mono ?_; rintro e w' ⟨rfl, rfl⟩) | (go_at_call 179; refine (len64_zero _).mono ?_; rintro e w' ⟨rfl, rfl⟩) | (go_at_call 166; go_in) | (go_at_call 168; go_in))
  go_end0
  go_wp2
  go_end0
  exact ⟨rfl, rfl⟩

set_option maxRecDepth 100000 in
set_option maxHeartbeats 1000000 in
/-- The names of an empty disk. -/
theorem names164 (db nb : Nat) (c0 c2 c3 c4 : Value) (w : World) (hd : w.heap[db]? = some (.cells #[c0, .map (some nb), c2, c3, c4, .bool false] 81)) (hn : w.heap[nb]? = some (.map #[] 0)) :
    Calls Tryz.prog 164 #[.pointer (some ⟨db, 0, none⟩)] w fun e w' => e = .returned (.tuple #[.slice none 0 0, .nilIface]) ∧ Below w.heap.size w w' := by
  have a1 := cellB hd
  have hr := run_range_map (P := Tryz.prog) w 78 9 86 nb #[] 0 Tryz.underlying78 hn
  have hx : ∀ ty, (Instr.next (.pointer (some ⟨w.heap.size, 0, none⟩)) false ty).run Tryz.prog (w.alloc (.mapIter (some nb) 0 #[] 0)) = .ok (.tuple #[.bool false]) (w.alloc (.mapIter (some nb) 0 #[] 0)) := fun ty => by
    rcases run_next_map (P := Tryz.prog) w ty nb 0 0 #[] #[] 0 hn (by simp) (Nat.le_refl _) with ⟨_, h⟩ | ⟨e, he, _⟩
    · exact h
    · simp [leftOf] at he
  go_enter Tryz.func164, Tryz.ntmps164
  go_wp2
  refine wp_loop_rounds 1 ?_
  rw [rounds_succ]
  go_wp2_with (go_at_call 165; refine (sort_nil _).mono ?_; rintro e w' ⟨rfl, rfl⟩)
  go_ret2
  exact ⟨rfl, (Below.refl _ w).alloc (Nat.le_refl _) _⟩
end Go.Proofs.YtlamgpeiolfffaaGreatDoor

namespace Go.Proofs.YtlamgpeiolfffaaGreatDoor
open Go.RowKit
variable [dK] [iK]

theorem askCatch (p : Addr) (w : World) :
    CallsD Tryz.prog 71 #[.pointer (some p)] .returning w fun e u' w' => e = .returned (.tuple #[]) ∧ u' = .returning ∧ w' = w := by
  refine callsD_of_wpS Tryz.func71 rfl fun c₀ cs hu => ?_
  apply wpS_seq
  apply wpS_region
  simp [wpOpsS, go_sem, recoverD, hu, Tryz.ntmps71, Exit.thenS]
  refine wpS_cond (t := false) (by simp [Act.eval, Array.replicate]) ?_
  simp only [Bool.false_eq_true, if_false]
  refine wpS_of_wp (wp_skip ?_)
  cases c₀
  simp_all [bodyPostS, results, Tryz.results71]

theorem methodNames (h : Value) (w : World) : (Go.method 409 71 h "Names").run Tryz.prog w = .ok (164, h) w := by kernel_rfl

set_option maxRecDepth 100000 in
set_option maxHeartbeats 1000000 in
theorem ask46 (db nb : Nat) (c0 c2 c3 c4 : Value) (w : World) (hd : w.heap[db]? = some (.cells #[c0, .map (some nb), c2, c3, c4, .bool false] 81)) (hn : w.heap[nb]? = some (.map #[] 0)) :
    Calls Tryz.prog 46 #[.iface 71 (.pointer (some ⟨db, 0, none⟩))] w fun e w' => e = .returned .nilIface ∧ Below w.heap.size w w' := by
  have hmf : ∀ (fn : Fn) (first cap : Array Value) (w : World), (Instr.makeFunc fn first cap).run Tryz.prog w = .ok (.func fn first cap) w := fun _ _ _ _ => rfl
  have hmn := methodNames (.pointer (some ⟨db, 0, none⟩))
  have hd1 := upB hd (.cells #[.nilIface] 88)
  have hn1 := upB hn (.cells #[.nilIface] 88)
  go_enter_defers Tryz.func46, Tryz.ntmps46
  go_wp2_with (go_at_call 164; refine (names164 db nb c0 c2 c3 c4 _ hd1 hn1).mono ?_; rintro e w2 ⟨rfl, hb2⟩; have hr2 := (hb2.block w.heap.size (by simp)).trans (heapNew w (.cells #[.nilIface] 88)); have a1 := cellB hr2; have a2 := frozenB hr2)
  have hB : Below w.heap.size w ((w2.setCell ⟨w.heap.size, 0, none⟩ .nilIface).setCell ⟨w.heap.size, 0, none⟩ .nilIface) := ((((Below.refl _ w).alloc (Nat.le_refl _) _).trans (hb2.mono (by simp))).setCell (Nat.le_refl _) _).setCell (Nat.le_refl _) _
  refine leaves_cons (f := 71) (args := #[.pointer (some ⟨w.heap.size, 0, none⟩)]) (by simp) (by simp [go_sem]) ?_
  refine (askCatch ⟨w.heap.size, 0, none⟩ _).mono ?_
  rintro e u' w'' ⟨rfl, rfl, rfl⟩
  simp [Leaves, settle, results, Tryz.results46, go_sem, a1, hB]

set_option maxRecDepth 100000 in
theorem connect25 (sb : Nat) (w : World) : Calls Tryz.prog 25 #[.pointer (some ⟨sb, 0, none⟩)] w fun e w' => e = .returned (.pointer (some ⟨w.heap.size, 0, none⟩)) ∧ w' = w.alloc (.cells #[.pointer (some ⟨sb, 0, none⟩), .slice none 0 0, .bool false] 103) := by
  go_enter Tryz.func25, Tryz.ntmps25
  go_wp2
  go_ret
  exact ⟨rfl, rfl⟩

set_option maxRecDepth 100000 in
set_option maxHeartbeats 1000000 in
theorem open30 (db nb : Nat) (c0 c2 c3 c4 : Value) (blk : Int) (w : World) (hd : w.heap[db]? = some (.cells #[c0, .map (some nb), c2, c3, c4, .bool false] 81)) (hn : w.heap[nb]? = some (.map #[] 0)) :
    Calls Tryz.prog 30 #[.iface 71 (.pointer (some ⟨db, 0, none⟩)), .int .u64 blk] w fun e w' => ∃ sb, e = .returned (.tuple #[.pointer (some ⟨sb, 0, none⟩), .nilIface]) ∧ w.heap.size ≤ sb ∧ SrvAt w' 0 sb ⟨0, 0, []⟩ (fun b => b = sb) ∧ Below w.heap.size w w' := by
  go_enter Tryz.func30, Tryz.ntmps30
  go_wp2_with (go_at_call 46; refine (ask46 db nb c0 c2 c3 c4 _ hd hn).mono ?_; rintro e w2 ⟨rfl, hb2⟩)
  go_ret2
  have hs := hb2.size
  refine ⟨w2.heap.size, rfl, hs, ⟨⟨none, heapNew _ _, rfl, fun b h => by simp at h⟩, rfl, fun b h => by rw [h]; simp⟩, hb2.alloc hs _⟩
end Go.Proofs.YtlamgpeiolfffaaGreatDoor

namespace Go.Proofs.YtlamgpeiolfffaaGreatDoor
open Go.RowKit
variable [dK] [iK]

set_option maxRecDepth 100000 in
set_option maxHeartbeats 1000000 in
theorem up29 (db mb : Nat) (nv pv c3 c4 dv : Value) (w : World) (hd : w.heap[db]? = some (.cells #[.map (some mb), nv, pv, c3, c4, dv] 81)) (hm : w.heap[mb]? = some (.map #[] 0)) :
    Calls Tryz.prog 29 #[.pointer (some ⟨db, 0, none⟩)] w fun e w' => e = .returned (.tuple #[]) ∧ w'.heap[db]? = some (.cells #[.map (some mb), .map (some w.heap.size), .slice none 0 0, c3, c4, .bool false] 81) ∧ w'.heap[w.heap.size]? = some (.map #[] 0) ∧ Keep (fun b => b = db) w w' := by
  have ld := ltB hd
  have lm := ltB hm
  have hne : db ≠ mb := by
    intro e; subst e
    rw [hd] at hm; simp at hm
  obtain ⟨V, hV⟩ : ∃ V, V = (w.alloc (.map #[] 0)).setCell ⟨db, 1, none⟩ (.map (some w.heap.size)) := ⟨_, rfl⟩
  have hdV : V.heap[db]? = some (.cells #[.map (some mb), .map (some w.heap.size), pv, c3, c4, dv] 81) := by rw [hV]; simpa using heapSet (upB hd (.map #[] 0)) 1 (.map (some w.heap.size))
  have hmV : V.heap[mb]? = some (.map #[] 0) := by rw [hV, heapSetO (fun e => hne e.symm)]; exact upB hm _
  have hnV : V.heap[w.heap.size]? = some (.map #[] 0) := by rw [hV, heapSetO (by omega)]; exact heapNew _ _
  have hKV : Keep (fun b => b = db) w V := hV ▸ Keep.set (S := fun b => b = db) (b := db) ((Keep.refl _ w).alloc _) (Or.inl rfl) _ _
  have hVs : V.heap.size = w.heap.size + 1 := by rw [hV]; simp
  have b1 := upC hd (.map #[] 0)
  have b2 := upF hd (.map #[] 0)
  have hmm := @run_makeMap Tryz.prog
  have hr := run_range_map (P := Tryz.prog) V 78 9 86 mb #[] 0 Tryz.underlying78 hmV
  have hx : ∀ ty, (Instr.next (.pointer (some ⟨V.heap.size, 0, none⟩)) false ty).run Tryz.prog (V.alloc (.mapIter (some mb) 0 #[] 0)) = .ok (.tuple #[.bool false]) (V.alloc (.mapIter (some mb) 0 #[] 0)) := fun ty => by
    rcases run_next_map (P := Tryz.prog) V ty mb 0 0 #[] #[] 0 hmV (by simp) (Nat.le_refl _) with ⟨_, h⟩ | ⟨e, he, _⟩
    · exact h
    · simp [leftOf] at he
  have a1 := cellB hdV
  have a2 := upC hdV (.mapIter (some mb) 0 #[] 0)
  have a3 := upF hdV (.mapIter (some mb) 0 #[] 0)
  have HVS := hide hVs
  have HLD := hide ld
  have HLM := hide lm
  clear hVs ld lm
  go_enter Tryz.func29, Tryz.ntmps29
  go_upto_region 1 with fail
  rw [← hV]
  clear hV b1 b2
  go_wp2
  refine wp_loop_rounds 1 ?_
  rw [rounds_succ]
  go_wp2
  go_end0
  have ld := HLD.out
  have hVs := HVS.out
  refine ⟨rfl, by simpa using heapSet (heapSet (upB hdV (.mapIter (some mb) 0 #[] 0)) 2 (.slice none 0 0)) 5 (.bool false), ?_, ?_⟩
  · rw [heapSetO (by omega), heapSetO (by omega)]
    exact upB hnV _
  · exact Keep.set (S := fun b => b = db) (b := db) (Keep.set (S := fun b => b = db) (b := db) (hKV.alloc _) (Or.inl rfl) _ _) (Or.inl rfl) _ _

set_option maxRecDepth 100000 in
set_option maxHeartbeats 1000000 in
theorem newhost15 (blk : Int) (w : World) :
    Calls Tryz.prog 15 #[.slice none 0 0, .int .u64 blk] w fun e w' => ∃ nb, e = .returned (.pointer (some ⟨w.heap.size + 2, 0, none⟩)) ∧ w'.heap[w.heap.size + 2]? = some (.cells #[.pointer (some ⟨w.heap.size + 1, 0, none⟩), .pointer none, .slice none 0 0, .int .u64 blk] 75) ∧ w'.heap[w.heap.size + 1]? = some (.cells #[.map (some w.heap.size), .map (some nb), .slice none 0 0, .int .i64 (-1), .int .i64 (-1), .bool false] 81) ∧ w'.heap[w.heap.size]? = some (.map #[] 0) ∧ w'.heap[nb]? = some (.map #[] 0) ∧ w.heap.size + 2 < nb ∧ Below w.heap.size w w' := by
  have hmm := @run_makeMap Tryz.prog
  obtain ⟨V, hV⟩ : ∃ V, V = ((w.alloc (.map #[] 0)).alloc (.cells #[.map (some w.heap.size), .map none, .slice none 0 0, .int .i64 (-1), .int .i64 (-1), .bool false] 81)).alloc (.cells #[.pointer (some ⟨w.heap.size + 1, 0, none⟩), .pointer none, .slice none 0 0, .int .u64 blk] 75) := ⟨_, rfl⟩
  have h2 : V.heap[w.heap.size + 2]? = some (.cells #[.pointer (some ⟨w.heap.size + 1, 0, none⟩), .pointer none, .slice none 0 0, .int .u64 blk] 75) := hV ▸ heapN (by simp)
  have h1 : V.heap[w.heap.size + 1]? = some (.cells #[.map (some w.heap.size), .map none, .slice none 0 0, .int .i64 (-1), .int .i64 (-1), .bool false] 81) := hV ▸ upB (heapN (by simp)) _
  have h0 : V.heap[w.heap.size]? = some (.map #[] 0) := hV ▸ upB (upB (heapNew _ _) _) _
  have hB : Below w.heap.size w V := hV ▸ (((Below.refl _ w).alloc (Nat.le_refl _) _).alloc (by simp) _).alloc (by simp <;> omega) _
  have hVs : V.heap.size = w.heap.size + 3 := by rw [hV]; simp
  have a2 := cellB h2
  have HVS := hide hVs
  clear hVs
  go_enter Tryz.func15, Tryz.ntmps15
  go_upto_region 2 with fail
  rw [← hV]
  clear hV
  go_wp2
  refine wp_loop_rounds 1 ?_
  rw [rounds_succ]
  go_wp2_with (go_at_call 29; refine (up29 (w.heap.size + 1) w.heap.size _ _ _ _ _ _ h1 h0).mono ?_; rintro e w2 ⟨rfl, g1, g2, g3⟩)
  go_ret
  have hVs := HVS.out
  refine ⟨V.heap.size, rfl, (g3.block _ (by omega) (by omega)).trans h2, g1, (g3.block _ (by omega) (by omega)).trans h0, g2, by omega, hB.trans (Keep.below g3 (by omega) (fun k hk => by omega))⟩
end Go.Proofs.YtlamgpeiolfffaaGreatDoor

namespace Go.Proofs.YtlamgpeiolfffaaGreatDoor
open Go.RowKit
variable [dK] [iK]

/-- A line of the document's book. -/
structure Ln where
  k : Ky
  kd : Int
  x : Int
  y : Int
  at_ : Int
  in_ : Int
structure Bk where
  time : Int
  ls : List Ln
def idx (k : Ky) : List Ln → Option Nat
  | [] => none
  | l :: r => if l.k = k then some 0 else (idx k r).map (· + 1)
def standsM (T : Int) (l : Ln) : Int × Int := if l.kd = 1 then (l.at_, 0) else if l.in_ = T / l.y then (l.at_, T / l.y) else (0, T / l.y)
def spacedM (T : Int) (l : Ln) (n : Int) : Int × Bool × Int :=
  if n = 0 then (l.at_, true, 0)
  else if 18446744073709551615 < (if l.at_ < T then T else l.at_) + n * l.x ∨ l.y < (n - 1) * l.x then (0, false, 18446744073709551615)
  else if (if l.at_ < T then T else l.at_) + (n - 1) * l.x ≤ orNever (T + l.y) then ((if l.at_ < T then T else l.at_) + n * l.x, true, 0)
  else (0, false, l.at_ - (l.y - (n - 1) * l.x))
def windowedM (T : Int) (l : Ln) (n : Int) : Int × Bool × Int :=
  if (standsM T l).1 + n ≤ l.x then ((standsM T l).1 + n, true, 0)
  else if l.x < n then (0, false, 18446744073709551615)
  else (0, false, orNever ((T / l.y + 1) * l.y))
def lnAdm (T : Int) (l : Ln) (n : Int) : Int × Bool × Int := if l.kd = 1 then spacedM T l n else windowedM T l n
def lnWin (T : Int) (l : Ln) : Int := if l.kd = 1 then 0 else T / l.y
def admitM (B : Bk) (i : Nat) (l : Ln) (n : Int) : Bk × Rp :=
  if (lnAdm B.time l n).2.1 then
    (if 0 < n then ⟨B.time, B.ls.set i ⟨l.k, l.kd, l.x, l.y, (lnAdm B.time l n).1, lnWin B.time l⟩⟩ else B, ⟨2, (lnAdm B.time l n).1, lnWin B.time l⟩)
  else (B, ⟨3, (lnAdm B.time l n).2.2, 0⟩)
def askM (B : Bk) (q : Rq) : Bk × Rp :=
  if q.op = 1 then
    if ¬ soundM q.kd q.x q.y then (B, ⟨8, 0, 0⟩)
    else if (idx q.key B.ls).isSome then (B, ⟨9, 0, 0⟩)
    else if B.ls.length = 12 then (B, ⟨5, 0, 0⟩)
    else (⟨B.time, B.ls ++ [⟨q.key, q.kd, q.x, q.y, 0, 0⟩]⟩, ⟨1, 0, 0⟩)
  else if q.op = 5 then (B, ⟨1, 0, 0⟩)
  else if q.op = 6 then (B, ⟨1, B.time, 0⟩)
  else match idx q.key B.ls with
    | none => (B, ⟨4, 0, 0⟩)
    | some i =>
      if q.op = 3 then (B, ⟨1, (standsM B.time (B.ls.getD i ⟨q.key, 0, 0, 0, 0, 0⟩)).1, (standsM B.time (B.ls.getD i ⟨q.key, 0, 0, 0, 0, 0⟩)).2⟩)
      else if q.op = 4 then (⟨B.time, B.ls.eraseIdx i⟩, ⟨1, 0, 0⟩)
      else admitM B i (B.ls.getD i ⟨q.key, 0, 0, 0, 0, 0⟩) q.n

/-- A key stands in the ledger as in the document's book. -/
structure LineRel (T : Int) (z : Qt) (l : Ln) : Prop where
  kd : z.kd = l.kd
  x : z.x = l.x
  y : z.y = l.y
  s : z.kd = 1 → z.lv = l.at_ ∧ z.wn = 0
  w : z.kd ≠ 1 → (z.wn = l.in_ ∧ z.lv = l.at_ ∨ z.lv = 0 ∧ l.in_ < z.wn) ∧ z.wn ≤ T / z.y
def Lines (T : Int) : List (Ky × Qt) → List Ln → Prop
  | [], [] => True
  | (k, z) :: r, l :: s => k = l.k ∧ LineRel T z l ∧ Lines T r s
  | _, _ => False
theorem Lines.len {T : Int} : ∀ {ks : List (Ky × Qt)} {ls : List Ln}, Lines T ks ls → ks.length = ls.length
  | [], [], _ => rfl
  | (_, _) :: r, l :: s, h => by simp only [List.length_cons]; rw [Lines.len h.2.2]
  | [], _ :: _, h => h.elim
  | _ :: _, [], h => h.elim
theorem Lines.mono {T T' : Int} (hT : T ≤ T') : ∀ {ks : List (Ky × Qt)} {ls : List Ln}, (∀ p ∈ ks, p.2.ok) → Lines T ks ls → Lines T' ks ls
  | [], [], _, _ => trivial
  | (k, z) :: r, l :: s, ho, h => by
    have hz : z.ok := ho (k, z) List.mem_cons_self
    refine ⟨h.1, ⟨h.2.1.kd, h.2.1.x, h.2.1.y, h.2.1.s, fun hk => ⟨(h.2.1.w hk).1, ?_⟩⟩, Lines.mono hT (fun p hp => ho p (List.mem_cons_of_mem _ hp)) h.2.2⟩
    have hy : 1 ≤ z.y := by rcases hz.kd with h | h; exact absurd h.1 hk; exact h.2
    exact Int.le_trans (h.2.1.w hk).2 (Int.ediv_le_ediv (by omega) hT)
  | [], _ :: _, _, h => h.elim
  | _ :: _, [], _, h => h.elim

theorem stands_sim (T : Int) (z : Qt) (l : Ln) (h : LineRel T z l) : ((turnM z T).lv, (turnM z T).wn) = standsM T l := by
  unfold turnM standsM
  rw [← h.kd]
  by_cases hk : z.kd = 1
  · rw [if_pos hk, if_pos hk, (h.s hk).1, (h.s hk).2]
  · rw [if_neg hk, if_neg hk, ← h.y]
    obtain ⟨h1, h2⟩ := h.w hk
    by_cases hw : T / z.y = z.wn
    · rw [if_pos hw]
      rcases h1 with ⟨e1, e2⟩ | ⟨e1, e2⟩
      · rw [if_pos (by omega), e2, hw]
      · rw [if_neg (by omega), e1, hw]
    · rw [if_neg hw]
      dsimp only
      rw [if_neg (by omega)]
theorem turn_rel (T : Int) (z : Qt) (l : Ln) (h : LineRel T z l) : LineRel T (turnM z T) l := by
  unfold turnM
  split
  · exact h
  · rename_i hk
    split
    · exact h
    · rename_i hw
      refine ⟨h.kd, h.x, h.y, fun h1 => absurd h1 hk, fun _ => ⟨?_, Int.le_refl _⟩⟩
      obtain ⟨h1, h2⟩ := h.w hk
      right
      refine ⟨rfl, ?_⟩
      show l.in_ < T / z.y
      omega

/-- An Admit of one line. -/
theorem adm_sim (T n : Int) (z : Qt) (l : Ln) (h : LineRel T z l) (hz : z.ok) (h0 : 0 ≤ T) (h1 : T ≤ 18446744073709551615) (hn : 0 ≤ n) :
    (admM z T n).2 = (if (lnAdm T l n).2.1 then ⟨2, (lnAdm T l n).1, lnWin T l⟩ else ⟨3, (lnAdm T l n).2.2, 0⟩) ∧
    LineRel T (admM z T n).1 (if (lnAdm T l n).2.1 ∧ 0 < n then ⟨l.k, l.kd, l.x, l.y, (lnAdm T l n).1, lnWin T l⟩ else l) := by
  have hx := hz.x; have hy := hz.y; have hlv := hz.lv
  by_cases hk : z.kd = 1
  · have hl : l.kd = 1 := h.kd ▸ hk
    have hkx : 1 ≤ z.x := by rcases hz.kd with h | h <;> omega
    obtain ⟨e1, e2⟩ := h.s hk
    have hw : lnWin T l = 0 := by unfold lnWin; rw [if_pos hl]
    have hst : startM z T = if l.at_ < T then T else l.at_ := by unfold startM; rw [e1]
    unfold admM lnAdm
    rw [if_pos hk, if_pos hl, hw]
    unfold admS spacedM
    rw [hst, ← h.x, ← h.y]
    generalize hS : (if l.at_ < T then T else l.at_) = S
    have hSb : T ≤ S ∧ l.at_ ≤ S ∧ (S = T ∨ S = l.at_) := by rw [← hS]; split <;> omega
    by_cases hn0 : n = 0
    · rw [if_pos hn0, if_pos hn0]
      simp only [if_true, true_and]
      rw [if_neg (by omega)]
      refine ⟨?_, h⟩
      rw [e1, e2]
    · rw [if_neg hn0, if_neg hn0]
      have hp0 : 0 ≤ (n - 1) * z.x := Int.mul_nonneg (by omega) (by omega)
      have hnx : n * z.x = (n - 1) * z.x + z.x := by rw [Int.sub_mul]; omega
      by_cases c1 : 18446744073709551615 < S + n * z.x
      · rw [if_pos c1, if_pos (Or.inl c1)]
        simp only [Bool.false_eq_true, if_false, false_and]
        exact ⟨trivial, h⟩
      · rw [if_neg c1]
        by_cases c2 : z.y < (n - 1) * z.x
        · rw [if_pos c2, if_pos (Or.inr c2)]
          simp only [Bool.false_eq_true, if_false, false_and]
          exact ⟨trivial, h⟩
        · rw [if_neg c2, if_neg (show ¬ (18446744073709551615 < S + n * z.x ∨ z.y < (n - 1) * z.x) by omega)]
          by_cases c3 : orNever (T + z.y) < S + (n - 1) * z.x
          · rw [if_pos c3, if_neg (show ¬ S + (n - 1) * z.x ≤ orNever (T + z.y) by omega)]
            simp only [Bool.false_eq_true, if_false, false_and]
            refine ⟨?_, h⟩
            have hat : S = l.at_ := by
              unfold orNever at c3
              split at c3 <;> omega
            rw [hat]
            congr 1
            omega
          · rw [if_neg c3, if_pos (show S + (n - 1) * z.x ≤ orNever (T + z.y) by omega)]
            simp only [if_true, true_and]
            rw [if_pos (show 0 < n by omega), e2]
            exact ⟨rfl, ⟨h.kd, rfl, rfl, fun _ => ⟨rfl, rfl⟩, fun h' => absurd hk h'⟩⟩
  · have hl : ¬ l.kd = 1 := fun e => hk (h.kd.trans e)
    have hky : 1 ≤ z.y := by rcases hz.kd with h | h; exact absurd h.1 hk; exact h.2
    have hs := stands_sim T z l h
    have ht := turn_rel T z l h
    have hto := turnM_ok' z T hz h0 h1
    have hw : lnWin T l = T / l.y := by unfold lnWin; rw [if_neg hl]
    have hs2 : (standsM T l).2 = T / l.y := by unfold standsM; rw [if_neg hl]; split <;> rfl
    have e1 : (turnM z T).lv = (standsM T l).1 := by rw [← hs]
    have e2 : (turnM z T).wn = T / l.y := by rw [← hs2, ← hs]
    have hd0 : 0 ≤ T / l.y := e2 ▸ hto.wn.1
    unfold admM lnAdm
    rw [if_neg hk, if_neg hl, hw]
    unfold admW windowedM
    have ek : (turnM z T).kd = z.kd := by rw [ht.kd, h.kd]
    rw [e1, e2, ht.x, ht.y]
    by_cases c1 : (standsM T l).1 + n ≤ l.x
    · rw [if_pos c1, if_pos c1]
      simp only [if_true, true_and]
      by_cases hn0 : 0 < n
      · rw [if_pos hn0]
        exact ⟨ht.kd, rfl, rfl, fun h' => absurd (ek ▸ h') hk, fun _ => ⟨Or.inl ⟨rfl, rfl⟩, Int.le_refl _⟩⟩
      · rw [if_neg hn0]
        have : n = 0 := by omega
        subst this
        refine ⟨ht.kd, rfl, rfl, fun h' => absurd (ek ▸ h') hk, fun h' => ?_⟩
        have g := ht.w h'
        rw [e1, e2, ht.y] at g
        simpa using g
    · rw [if_neg c1, if_neg c1]
      by_cases c2 : l.x < n
      · rw [if_pos c2, if_pos c2]
        simp only [Bool.false_eq_true, if_false, false_and]
        exact ⟨trivial, ht⟩
      · rw [if_neg c2, if_neg c2]
        simp only [Bool.false_eq_true, if_false, false_and]
        refine ⟨?_, ht⟩
        rw [Int.add_mul, Int.one_mul]
end Go.Proofs.YtlamgpeiolfffaaGreatDoor

namespace Go.Proofs.YtlamgpeiolfffaaGreatDoor
open Go.RowKit
variable [dK] [iK]

theorem getD_app (a b : List Int) (j : Nat) (h : j < a.length) : (a ++ b).getD j 0 = a.getD j 0 := by
  simp [List.getD, List.getElem?_append_left h]
theorem rdTo_congr (f g : Nat → Int) : ∀ n, (∀ j, j < n → f j = g j) → rdTo f n = rdTo g n
  | 0, _ => rfl
  | n + 1, h => by
    simp only [rdTo]
    rw [rdTo_congr f g n (fun j hj => h j (by omega)), h n (by omega)]
theorem num8_app (a b : List Int) (o : Nat) (h : o + 8 ≤ a.length) : num8 (a ++ b) o = num8 a o := by
  unfold num8
  exact rdTo_congr _ _ 8 (fun j hj => getD_app a b (o + j) (by omega))

/-- The shape of bytes that begin with a whole frame. -/
theorem rdErr_zero {a : List Int} (h : rdErr a = 0) : ∃ b0 b1 t, a = b0 :: b1 :: t ∧ 1 ≤ b0 ∧ b0 ≤ 26 ∧ b0 = reqLen b1 ∧ b0 < (a.length : Int) := by
  cases a with
  | nil => simp [rdErr] at h
  | cons b0 t =>
    cases t with
    | nil =>
      simp only [rdErr] at h
      split at h <;> omega
    | cons b1 r =>
      simp only [rdErr] at h
      split at h
      · omega
      · split at h
        · split at h
          · omega
          · exact ⟨b0, b1, r, rfl, by omega, by omega, by assumption, by omega⟩
        · omega
theorem rdErr_app0 (a b : List Int) (h : rdErr a = 0) : rdErr (a ++ b) = 0 := by
  obtain ⟨b0, b1, t, rfl, h1, h2, h3, h4⟩ := rdErr_zero h
  simp only [List.cons_append, rdErr]
  rw [if_neg (by omega), if_pos h3, if_neg]
  simp only [List.length_cons, List.length_append] at *
  omega
theorem rdErr_app2 (a b : List Int) (h : rdErr a = 2) : rdErr (a ++ b) = 2 := by
  cases a with
  | nil => simp [rdErr] at h
  | cons b0 t =>
    cases t with
    | nil =>
      simp only [rdErr] at h
      split at h
      · rename_i hb
        simp only [List.cons_append, rdErr]
        rw [if_pos hb]
      · omega
    | cons b1 r =>
      simp only [rdErr] at h
      simp only [List.cons_append, rdErr]
      split at h
      · rename_i hb; rw [if_pos hb]
      · rename_i hb
        rw [if_neg hb]
        split at h
        · split at h <;> omega
        · rename_i hc; rw [if_neg hc]
theorem rdN_app (a b : List Int) (h : rdErr a = 0) : rdN (a ++ b) = rdN a := by
  obtain ⟨b0, b1, t, e, _⟩ := rdErr_zero h
  unfold rdN
  rw [if_pos h, if_pos (rdErr_app0 a b h), e]
  rfl
theorem rdQ_app (a b : List Int) (h : rdErr a = 0) : rdQ (a ++ b) = rdQ a := by
  obtain ⟨b0, b1, t, e, h1, h2, h3, h4⟩ := rdErr_zero h
  have hl : 2 ≤ a.length := by rw [e]; simp
  have e1 : a.getD 1 0 = b1 := by rw [e]; rfl
  have g1 := getD_app a b 1 (by omega)
  unfold rdQ
  rw [if_pos h, if_pos (rdErr_app0 a b h), g1, e1]
  by_cases c1 : b1 = 1
  · have hb : b0 = 26 := by rw [h3, c1]; rfl
    rw [if_pos c1, if_pos c1, getD_app a b 2 (by omega), getD_app a b 3 (by omega), getD_app a b 4 (by omega), getD_app a b 5 (by omega), getD_app a b 6 (by omega), getD_app a b 7 (by omega), getD_app a b 8 (by omega), getD_app a b 9 (by omega), getD_app a b 10 (by omega), num8_app a b 11 (by omega), num8_app a b 19 (by omega)]
  · rw [if_neg c1, if_neg c1]
    by_cases c2 : b1 = 2
    · have hb : b0 = 17 := by rw [h3, c2]; rfl
      rw [if_pos c2, if_pos c2, getD_app a b 2 (by omega), getD_app a b 3 (by omega), getD_app a b 4 (by omega), getD_app a b 5 (by omega), getD_app a b 6 (by omega), getD_app a b 7 (by omega), getD_app a b 8 (by omega), getD_app a b 9 (by omega), num8_app a b 10 (by omega)]
    · rw [if_neg c2, if_neg c2]
      by_cases c3 : b1 = 3 ∨ b1 = 4
      · have hb : b0 = 9 := by rw [h3]; unfold reqLen; rw [if_neg c1, if_neg c2, if_pos c3]
        rw [if_pos c3, if_pos c3, getD_app a b 2 (by omega), getD_app a b 3 (by omega), getD_app a b 4 (by omega), getD_app a b 5 (by omega), getD_app a b 6 (by omega), getD_app a b 7 (by omega), getD_app a b 8 (by omega), getD_app a b 9 (by omega)]
      · rw [if_neg c3, if_neg c3]

/-- Bytes behind bytes: the frames of the first, then those of what is left and the second. -/
theorem runL_app (b : List Int) : ∀ (n : Nat) (a : List Int) (L : Ld), a.length ≤ n →
    ((runL L a).2.2.2 = 2 → runL L (a ++ b) = ((runL L a).1, (runL L a).2.1, (runL L a).2.2.1 ++ b, 2)) ∧
    ((runL L a).2.2.2 ≠ 2 → (runL L a).2.2.2 = 1 ∧ runL L (a ++ b) = ((runL (runL L a).1 ((runL L a).2.2.1 ++ b)).1, (runL L a).2.1 ++ (runL (runL L a).1 ((runL L a).2.2.1 ++ b)).2.1, (runL (runL L a).1 ((runL L a).2.2.1 ++ b)).2.2)) := by
  intro n
  induction n with
  | zero =>
    intro a L h
    have e : a = [] := List.length_eq_zero_iff.1 (by omega)
    subst e
    have e1 : runL L [] = (L, [], [], 1) := runL_stop L [] (by simp [rdErr])
    rw [e1]
    refine ⟨fun h => ?_, fun _ => ⟨rfl, ?_⟩⟩
    · simp at h
    · simp only [List.nil_append]
  | succ n ih =>
    intro a L h
    rcases rdErr_cases a with h0 | h1 | h2
    · have eA := runL_step L a h0
      have eB := runL_step L (a ++ b) (rdErr_app0 a b h0)
      obtain ⟨r1, r2, _, _⟩ := rdN_ok a h0
      rw [rdN_app a b h0, rdQ_app a b h0, List.drop_append_of_le_length r2] at eB
      obtain ⟨i1, i2⟩ := ih (a.drop (rdN a).toNat) (doM L (rdQ a)).1 (by rw [List.length_drop]; omega)
      generalize runL (doM L (rdQ a)).1 (a.drop (rdN a).toNat) = R at *
      rw [eA, eB]
      refine ⟨fun h => ?_, fun h => ?_⟩
      · rw [i1 h]
      · obtain ⟨j1, j2⟩ := i2 h
        refine ⟨j1, ?_⟩
        rw [j2]
        rfl
    · have eA := runL_stop L a (by omega)
      rw [h1] at eA
      rw [eA]
      refine ⟨fun h => by simp at h, fun _ => ⟨rfl, ?_⟩⟩
      simp only [List.nil_append]
    · have eA := runL_stop L a (by omega)
      have eB := runL_stop L (a ++ b) (by rw [rdErr_app2 a b h2]; omega)
      rw [h2] at eA
      rw [rdErr_app2 a b h2] at eB
      rw [eA]
      refine ⟨fun _ => eB, fun h => by simp at h⟩

theorem doM_time (L : Ld) (q : Rq) : (doM L q).1.time = L.time := by
  unfold doM
  split
  · split
    · rfl
    · split
      · rfl
      · split <;> rfl
  · split
    · split <;> rfl
    · split
      · split <;> rfl
      · split
        · split <;> rfl
        · split <;> rfl
theorem runL_time : ∀ (n : Nat) (a : List Int) (L : Ld), a.length ≤ n → (runL L a).1.time = L.time := by
  intro n
  induction n with
  | zero =>
    intro a L h
    have e : a = [] := List.length_eq_zero_iff.1 (by omega)
    subst e
    rw [runL_stop L [] (by simp [rdErr])]
  | succ n ih =>
    intro a L h
    by_cases h0 : rdErr a = 0
    · rw [runL_step L a h0]
      obtain ⟨r1, r2, _, _⟩ := rdN_ok a h0
      have := ih (a.drop (rdN a).toNat) (doM L (rdQ a)).1 (by rw [List.length_drop]; omega)
      exact this.trans (doM_time L (rdQ a))
    · rw [runL_stop L a h0]
theorem passM_same (L : Ld) (now : Int) (h : now ≤ L.time) : passM L now = L := by
  unfold passM
  rw [if_neg (by omega)]
theorem passM_le (L : Ld) (now : Int) : now ≤ (passM L now).time := by
  unfold passM
  dsimp only
  split <;> omega

theorem feedM_good (L : Ld) (c : Cn) (now : Int) (bs : List Int) (h : c.bad = false) : feedM L c now bs =
    if (runL (passM L now) (c.waits ++ bs)).2.2.2 = 2 then ((runL (passM L now) (c.waits ++ bs)).1, ⟨[], true⟩, (runL (passM L now) (c.waits ++ bs)).2.1 ++ [⟨6, 0, 0⟩])
    else ((runL (passM L now) (c.waits ++ bs)).1, ⟨(runL (passM L now) (c.waits ++ bs)).2.2.1, false⟩, (runL (passM L now) (c.waits ++ bs)).2.1) := by
  unfold feedM
  rw [if_neg (by rw [h]; simp)]
  rfl
theorem feedM_bad (L : Ld) (c : Cn) (now : Int) (bs : List Int) (h : c.bad = true) : feedM L c now bs = (passM L now, c, []) := by
  unfold feedM
  rw [if_pos h]
theorem feedM_time (L : Ld) (c : Cn) (now : Int) (bs : List Int) : now ≤ (feedM L c now bs).1.time := by
  cases h : c.bad with
  | true => rw [feedM_bad _ _ _ _ h]; exact passM_le L now
  | false =>
    rw [feedM_good _ _ _ _ h]
    have := runL_time _ (c.waits ++ bs) (passM L now) (Nat.le_refl _)
    have := passM_le L now
    split <;> (dsimp only; omega)

/-- Split, the reckoning (P6, P7). -/
theorem split_reckon (L : Ld) (now : Int) (a b : List Int) (c1 : Cn) (h1 : c1 = ⟨[], false⟩) (c2 : Cn) (h2 : c2 = ⟨[], false⟩) (A : Ld × Cn × List Rp) (hA : A = feedM L c1 now a) (X : Ld × Cn × List Rp) (hX : X = feedM A.1 c2 now [1]) :
    encs (feedM L c1 now (a ++ b)).2.2 = encs A.2.2 ++ encs (feedM X.1 A.2.1 now b).2.2 := by
  have hAt : now ≤ A.1.time := hA ▸ feedM_time L c1 now a
  have hXe : X.1 = A.1 := by
    rw [hX, feedM_good _ _ _ _ (by rw [h2]), h2]
    have e : runL (passM A.1 now) ([] ++ [1]) = (passM A.1 now, [], [1], 1) := runL_stop _ _ (by simp [rdErr])
    rw [e, if_neg (by simp)]
    exact passM_same _ _ hAt
  rw [hXe]
  subst h1
  have g0 := feedM_good L ⟨[], false⟩ now (a ++ b) rfl
  have g1 := feedM_good L ⟨[], false⟩ now a rfl
  simp only [List.nil_append] at g0 g1
  obtain ⟨i1, i2⟩ := runL_app b _ a (passM L now) (Nat.le_refl _)
  have ht := runL_time _ a (passM L now) (Nat.le_refl _)
  have hp := passM_le L now
  generalize hP : passM L now = P at *
  generalize hR : runL P a = R at *
  by_cases he : R.2.2.2 = 2
  · rw [if_pos he] at g1
    rw [i1 he, if_pos rfl] at g0
    rw [g0, hA, g1, feedM_bad _ _ _ _ rfl]
    simp [encs]
  · obtain ⟨j1, j2⟩ := i2 he
    rw [if_neg he] at g1
    rw [g0, hA, g1, j2, feedM_good _ _ _ _ rfl]
    have e : passM R.1 now = R.1 := passM_same _ _ (by omega)
    dsimp only
    rw [e]
    generalize runL R.1 (R.2.2.1 ++ b) = S
    split <;> simp [encs]
end Go.Proofs.YtlamgpeiolfffaaGreatDoor

namespace Go.Proofs.YtlamgpeiolfffaaGreatDoor
open Go.RowKit
variable [dK] [iK]

theorem idx_none {T : Int} (k : Ky) : ∀ {ks : List (Ky × Qt)} {ls : List Ln}, Lines T ks ls → idx k ls = none → fnd k ks = none
  | [], [], _, _ => rfl
  | (k', z) :: r, l :: s, h, hi => by
    unfold idx at hi
    split at hi
    · simp at hi
    · rename_i hne
      unfold fnd
      rw [if_neg (by rw [h.1]; exact hne)]
      exact idx_none k h.2.2 (by simpa using hi)
  | [], _ :: _, h, _ => h.elim
  | _ :: _, [], h, _ => h.elim
structure Found (T : Int) (k : Ky) (ks : List (Ky × Qt)) (ls : List Ln) (i : Nat) (z : Qt) (l : Ln) : Prop where
  f : fnd k ks = some z
  g : ls[i]? = some l
  hk : l.k = k
  rel : LineRel T z l
  set : ∀ z' l', LineRel T z' l' → l'.k = k → Lines T (upd k z' ks) (ls.set i l')
  del : Lines T (del k ks) (ls.eraseIdx i)
theorem idx_some {T : Int} (k : Ky) : ∀ {ks : List (Ky × Qt)} {ls : List Ln} {i : Nat}, Lines T ks ls → idx k ls = some i → ∃ z l, Found T k ks ls i z l
  | [], [], _, _, hi => by simp [idx] at hi
  | (k', z) :: r, l :: s, i, h, hi => by
    unfold idx at hi
    split at hi
    · rename_i he
      injection hi with hi
      subst hi
      have hk : k' = k := h.1.trans he
      refine ⟨z, l, by unfold fnd; rw [if_pos hk], rfl, he, h.2.1, fun z' l' hr hl => ?_, ?_⟩
      · unfold upd
        rw [if_pos hk]
        exact ⟨by rw [hk, hl], hr, h.2.2⟩
      · unfold Go.Proofs.YtlamgpeiolfffaaGreatDoor.del
        rw [if_pos hk]
        exact h.2.2
    · rename_i hne
      have hk : ¬ k' = k := by rw [h.1]; exact hne
      obtain ⟨j, hj, rfl⟩ := Option.map_eq_some_iff.1 hi
      obtain ⟨z', l', F⟩ := idx_some k h.2.2 hj
      refine ⟨z', l', by unfold fnd; rw [if_neg hk]; exact F.f, F.g, F.hk, F.rel, fun z2 l2 hr hl => ?_, ?_⟩
      · unfold upd
        rw [if_neg hk]
        exact ⟨h.1, h.2.1, F.set z2 l2 hr hl⟩
      · unfold Go.Proofs.YtlamgpeiolfffaaGreatDoor.del
        rw [if_neg hk]
        exact ⟨h.1, h.2.1, F.del⟩
  | [], _ :: _, _, h, _ => h.elim
  | _ :: _, [], _, h, _ => h.elim
theorem Lines.app {T : Int} {z : Qt} {l : Ln} (hr : LineRel T z l) : ∀ {ks : List (Ky × Qt)} {ls : List Ln}, Lines T ks ls → Lines T (ks ++ [(l.k, z)]) (ls ++ [l])
  | [], [], _ => ⟨rfl, hr, trivial⟩
  | (_, _) :: _, _ :: _, h => ⟨h.1, h.2.1, Lines.app hr h.2.2⟩
  | [], _ :: _, h => h.elim
  | _ :: _, [], h => h.elim

theorem set_same {ls : List Ln} {i : Nat} {l : Ln} (h : ls[i]? = some l) : ls.set i l = ls := by
  obtain ⟨hi, rfl⟩ := List.getElem?_eq_some_iff.1 h
  exact List.set_getElem_self hi
/-- The ledger's reply is the document's, whatever is asked (P8 to P11). -/
theorem ask_sim (L : Ld) (B : Bk) (q : Rq) (hL : L.ok) (hq : q.ok) (ht : L.time = B.time) (hl : Lines B.time L.ks B.ls) (h5 : q.op ∈ [1, 2, 3, 4, 5, 6]) :
    (doM L q).2 = (askM B q).2 ∧ (askM B q).1.time = B.time ∧ Lines B.time (doM L q).1.ks (askM B q).1.ls := by
  have hT := hL.time
  have hlen := hl.len
  have h12 := hL.len
  unfold doM askM
  by_cases o1 : q.op = 1
  · rw [if_pos o1, if_pos o1]
    by_cases hs : soundM q.kd q.x q.y
    · have hs' : ¬ ¬ soundM q.kd q.x q.y := fun h => h hs
      rw [if_neg hs', if_neg hs']
      cases hi : idx q.key B.ls with
      | none =>
        rw [idx_none q.key hl hi]
        simp only [Option.isSome_none, Bool.false_eq_true, if_false]
        by_cases hf : 12 ≤ L.ks.length
        · rw [if_pos hf, if_pos (by omega)]
          exact ⟨rfl, rfl, hl⟩
        · rw [if_neg hf, if_neg (by omega)]
          refine ⟨rfl, rfl, ?_⟩
          refine Lines.app (l := ⟨q.key, q.kd, q.x, q.y, 0, 0⟩) ⟨rfl, rfl, rfl, fun _ => ⟨rfl, rfl⟩, fun _ => ⟨Or.inl ⟨rfl, rfl⟩, ?_⟩⟩ hl
          show 0 ≤ B.time / q.y
          have := hq.y
          exact Int.ediv_nonneg (by omega) (by omega)
      | some i =>
        obtain ⟨z, l, F⟩ := idx_some q.key hl hi
        rw [F.f]
        simp only [Option.isSome_some, if_true]
        exact ⟨trivial, trivial, hl⟩
    · rw [if_pos hs, if_pos hs]
      exact ⟨rfl, rfl, hl⟩
  · rw [if_neg o1, if_neg o1]
    by_cases o5 : q.op = 5
    · rw [if_neg (by omega), if_neg (by omega), if_neg (by omega), if_neg (by omega), if_pos o5]
      exact ⟨rfl, rfl, hl⟩
    · rw [if_neg o5]
      by_cases o6 : q.op = 6
      · rw [if_neg (by omega), if_neg (by omega), if_neg (by omega), if_pos o6, if_pos o6, ht]
        exact ⟨rfl, rfl, hl⟩
      · rw [if_neg o6, if_neg o6]
        have h234 : q.op = 2 ∨ q.op = 3 ∨ q.op = 4 := by simp at h5; omega
        cases hi : idx q.key B.ls with
        | none =>
          have hf := idx_none q.key hl hi
          dsimp only
          rcases h234 with h | h | h
          · rw [if_pos h, hf]; exact ⟨rfl, rfl, hl⟩
          · rw [if_neg (by omega), if_pos h, hf]; exact ⟨rfl, rfl, hl⟩
          · rw [if_neg (by omega), if_neg (by omega), if_pos h, hf]; exact ⟨rfl, rfl, hl⟩
        | some i =>
          obtain ⟨z, l, F⟩ := idx_some q.key hl hi
          have hgd : B.ls.getD i ⟨q.key, 0, 0, 0, 0, 0⟩ = l := by simp [List.getD, F.g]
          have hz := hL.qt _ (fnd_mem F.f)
          dsimp only
          rw [hgd]
          rcases h234 with h | h | h
          · rw [if_pos h, if_neg (by omega), if_neg (by omega), F.f, ht]
            obtain ⟨a1, a2⟩ := adm_sim B.time q.n z l F.rel hz (by omega) (by omega) hq.n.1
            dsimp only
            unfold admitM
            by_cases hok : (lnAdm B.time l q.n).2.1 = true
            · rw [if_pos hok] at a1 ⊢
              by_cases hn : 0 < q.n
              · rw [if_pos hn]
                rw [if_pos ⟨hok, hn⟩] at a2
                exact ⟨a1, rfl, F.set _ _ a2 F.hk⟩
              · rw [if_neg hn]
                rw [if_neg (fun h => hn h.2)] at a2
                refine ⟨a1, rfl, ?_⟩
                have := F.set _ l a2 F.hk
                rwa [set_same F.g] at this
            · rw [if_neg hok] at a1 ⊢
              rw [if_neg (fun h => hok h.1)] at a2
              refine ⟨a1, rfl, ?_⟩
              have := F.set _ l a2 F.hk
              rwa [set_same F.g] at this
          · rw [if_neg (by omega), if_pos h, if_pos h, F.f, ht]
            have := stands_sim B.time z l F.rel
            dsimp only
            rw [← this]
            exact ⟨rfl, rfl, hl⟩
          · rw [if_neg (by omega), if_neg (by omega), if_pos h, if_neg (by omega), if_pos h, F.f]
            exact ⟨rfl, rfl, F.del⟩
end Go.Proofs.YtlamgpeiolfffaaGreatDoor

namespace Go.Proofs.YtlamgpeiolfffaaGreatDoor
open Go.RowKit Go.Maps
variable [dK] [iK]

set_option maxRecDepth 100000 in
set_option maxHeartbeats 4000000 in
theorem do_define (sb : Nat) (st : Int) (L L' _L2 : Ld) (F : Nat → Prop) (q : Rq) (c a b : Int) (w : World) (hop : q.op = 1) (hS : SrvAt w st sb L F)
    (hc : Hid (∀ w1, SrvAt w1 st sb L F → Calls Tryz.prog 102 #[.pointer (some ⟨sb, 2, none⟩), .agg #[.int .u8 q.k0, .int .u8 q.k1, .int .u8 q.k2, .int .u8 q.k3, .int .u8 q.k4, .int .u8 q.k5, .int .u8 q.k6, .int .u8 q.k7], .agg #[.int .u8 q.kd, .int .u64 q.x, .int .u64 q.y]] w1 fun e w' => e = .returned (.agg #[.int .u8 c, .int .u64 a, .int .u64 b]) ∧ Out w1 st sb L' F w')) :
    Calls Tryz.prog 69 #[.pointer (some ⟨sb, 0, none⟩), .agg #[.int .u8 q.op, .int .u8 q.k0, .int .u8 q.k1, .int .u8 q.k2, .int .u8 q.k3, .int .u8 q.k4, .int .u8 q.k5, .int .u8 q.k6, .int .u8 q.k7, .int .u8 q.kd, .int .u64 q.x, .int .u64 q.y, .int .u64 q.n]] w fun e w' => e = .returned (.agg #[.int .u8 c, .int .u64 a, .int .u64 b]) ∧ Out w st sb L' F w' := by
  rw [hop]
  have hFl := hS.lt
  obtain ⟨W, hW⟩ : ∃ W, W = (w.alloc (.cells #[.int .u8 1, .int .u8 q.k0, .int .u8 q.k1, .int .u8 q.k2, .int .u8 q.k3, .int .u8 q.k4, .int .u8 q.k5, .int .u8 q.k6, .int .u8 q.k7, .int .u8 q.kd, .int .u64 q.x, .int .u64 q.y, .int .u64 q.n] 58)).alloc (.cells #[.int .u8 0, .int .u64 0, .int .u64 0] 40) := ⟨_, rfl⟩
  have hB : Below w.heap.size w W := hW ▸ ((Below.refl _ w).alloc (Nat.le_refl _) _).alloc (by simp) _
  have hk0 : W.heap[w.heap.size]? = some (.cells #[.int .u8 1, .int .u8 q.k0, .int .u8 q.k1, .int .u8 q.k2, .int .u8 q.k3, .int .u8 q.k4, .int .u8 q.k5, .int .u8 q.k6, .int .u8 q.k7, .int .u8 q.kd, .int .u64 q.x, .int .u64 q.y, .int .u64 q.n] 58) := hW ▸ upB (heapNew _ _) _
  have hr0 : W.heap[w.heap.size + 1]? = some (.cells #[.int .u8 0, .int .u64 0, .int .u64 0] 40) := hW ▸ heapN (by simp)
  have hSW := hS.below hB (Nat.le_refl _)
  have a1 := cellB hk0
  have lr := ltB hr0
  go_enter Tryz.func69, Tryz.ntmps69
  go_upto_region 1 with fail
  rw [← hW]
  clear hW
  go_upto_region 3 with fail
  go_region_with (go_at_call 102; go_loud (refine (hc.out _ hSW.drew).mono ?_; rintro e w2 ⟨rfl, F', ho1, ho2, ho3⟩; have hr2 := (ho2.block _ lr (fun h => by have := hFl _ h; omega)).trans hr0; have c2 := cellB hr2; have f2 := frozenB hr2))
  all_goals go_wp2
  all_goals (
    refine bodyPost_ret (v := .agg #[.int .u8 c, .int .u64 a, .int .u64 b]) (by simp [results, Tryz.results69, go_sem, c2]) rfl ⟨rfl, ?_⟩
    exact Out.fin hB.drew lr hFl ho1 ho2 ho3 _ _ _)

end Go.Proofs.YtlamgpeiolfffaaGreatDoor

namespace Go.Proofs.YtlamgpeiolfffaaGreatDoor
open Go.RowKit Go.Maps
variable [dK] [iK]

set_option maxRecDepth 100000 in
set_option maxHeartbeats 4000000 in
theorem do_admit (sb : Nat) (st : Int) (L L' L2 : Ld) (F : Nat → Prop) (q : Rq) (c a b : Int) (w : World) (hop : q.op = 2) (hS : SrvAt w st sb L F)
    (hc : Hid (∀ w1, SrvAt w1 st sb L F → Calls Tryz.prog 104 #[.pointer (some ⟨sb, 2, none⟩), .agg #[.int .u8 q.k0, .int .u8 q.k1, .int .u8 q.k2, .int .u8 q.k3, .int .u8 q.k4, .int .u8 q.k5, .int .u8 q.k6, .int .u8 q.k7], .int .u64 q.n] w1 fun e w' => e = .returned (.agg #[.int .u8 c, .int .u64 a, .int .u64 b]) ∧ Out w1 st sb L' F w'))
    (hd : Hid (∀ w1 F1, SrvAt w1 st sb L' F1 → Calls Tryz.prog 103 #[.pointer (some ⟨sb, 0, none⟩), .int .u64 q.n, .agg #[.int .u8 c, .int .u64 a, .int .u64 b]] w1 fun e w' => e = .returned (.agg #[.int .u8 c, .int .u64 a, .int .u64 b]) ∧ Out w1 st sb L2 F1 w')) :
    Calls Tryz.prog 69 #[.pointer (some ⟨sb, 0, none⟩), .agg #[.int .u8 q.op, .int .u8 q.k0, .int .u8 q.k1, .int .u8 q.k2, .int .u8 q.k3, .int .u8 q.k4, .int .u8 q.k5, .int .u8 q.k6, .int .u8 q.k7, .int .u8 q.kd, .int .u64 q.x, .int .u64 q.y, .int .u64 q.n]] w fun e w' => e = .returned (.agg #[.int .u8 c, .int .u64 a, .int .u64 b]) ∧ Out w st sb L2 F w' := by
  rw [hop]
  have hFl := hS.lt
  obtain ⟨W, hW⟩ : ∃ W, W = (w.alloc (.cells #[.int .u8 2, .int .u8 q.k0, .int .u8 q.k1, .int .u8 q.k2, .int .u8 q.k3, .int .u8 q.k4, .int .u8 q.k5, .int .u8 q.k6, .int .u8 q.k7, .int .u8 q.kd, .int .u64 q.x, .int .u64 q.y, .int .u64 q.n] 58)).alloc (.cells #[.int .u8 0, .int .u64 0, .int .u64 0] 40) := ⟨_, rfl⟩
  have hB : Below w.heap.size w W := hW ▸ ((Below.refl _ w).alloc (Nat.le_refl _) _).alloc (by simp) _
  have hk0 : W.heap[w.heap.size]? = some (.cells #[.int .u8 2, .int .u8 q.k0, .int .u8 q.k1, .int .u8 q.k2, .int .u8 q.k3, .int .u8 q.k4, .int .u8 q.k5, .int .u8 q.k6, .int .u8 q.k7, .int .u8 q.kd, .int .u64 q.x, .int .u64 q.y, .int .u64 q.n] 58) := hW ▸ upB (heapNew _ _) _
  have hr0 : W.heap[w.heap.size + 1]? = some (.cells #[.int .u8 0, .int .u64 0, .int .u64 0] 40) := hW ▸ heapN (by simp)
  have hSW := hS.below hB (Nat.le_refl _)
  have a1 := cellB hk0
  have lr := ltB hr0
  go_enter Tryz.func69, Tryz.ntmps69
  go_upto_region 1 with fail
  rw [← hW]
  clear hW
  go_upto_region 5 with fail
  go_region_with (first | (go_at_call 104; go_loud (refine (hc.out _ hSW.drew).mono ?_; rintro e w2 ⟨rfl, F', ho1, ho2, ho3⟩; have hr2 := (ho2.block _ lr (fun h => by have := hFl _ h; omega)).trans hr0; have c2 := cellB hr2; have f2 := frozenB hr2; have hk2 := (ho2.block _ (ltB hk0) (fun h => by have := hFl _ h; omega)).trans hk0; have k2 := cellB hk2)) | (go_at_call 103; go_loud (refine (hd.out _ F' ho1).mono ?_; rintro e w3 ⟨rfl, F2, hp1, hp2, hp3⟩; have lr2 := ltB hr2; have hr3 := (hp2.block _ lr2 (fun h => by rcases ho3 _ h with h | h; have := hFl _ h; omega; have : W.heap.size ≤ _ := h; omega)).trans hr2; have c3 := cellB hr3; have f3 := frozenB hr3)))
  all_goals go_wp2
  all_goals (
    refine bodyPost_ret (v := .agg #[.int .u8 c, .int .u64 a, .int .u64 b]) (by simp [results, Tryz.results69, go_sem, c3]) rfl ⟨rfl, ?_⟩
    exact Out.fin hB.drew lr hFl hp1 (ho2.then hp2 (fun i hi h => (ho3 i h).elim id (fun h => absurd hi (Nat.not_lt.2 h)))) (fun i h => (hp3 i h).elim (ho3 i) (fun h => Or.inr (Nat.le_trans ho2.size h))) _ _ _)

end Go.Proofs.YtlamgpeiolfffaaGreatDoor

namespace Go.Proofs.YtlamgpeiolfffaaGreatDoor
open Go.RowKit Go.Maps
variable [dK] [iK]

set_option maxRecDepth 100000 in
set_option maxHeartbeats 4000000 in
theorem do_clock (sb : Nat) (st : Int) (L : Ld) (F : Nat → Prop) (q : Rq) (w : World) (hop : q.op = 6) (hS : SrvAt w st sb L F) :
    Calls Tryz.prog 69 #[.pointer (some ⟨sb, 0, none⟩), .agg #[.int .u8 q.op, .int .u8 q.k0, .int .u8 q.k1, .int .u8 q.k2, .int .u8 q.k3, .int .u8 q.k4, .int .u8 q.k5, .int .u8 q.k6, .int .u8 q.k7, .int .u8 q.kd, .int .u64 q.x, .int .u64 q.y, .int .u64 q.n]] w fun e w' => e = .returned (.agg #[.int .u8 1, .int .u64 L.time, .int .u64 0]) ∧ Out w st sb L F w' := by
  rw [hop]
  have hFl := hS.lt
  obtain ⟨W, hW⟩ : ∃ W, W = (w.alloc (.cells #[.int .u8 6, .int .u8 q.k0, .int .u8 q.k1, .int .u8 q.k2, .int .u8 q.k3, .int .u8 q.k4, .int .u8 q.k5, .int .u8 q.k6, .int .u8 q.k7, .int .u8 q.kd, .int .u64 q.x, .int .u64 q.y, .int .u64 q.n] 58)).alloc (.cells #[.int .u8 0, .int .u64 0, .int .u64 0] 40) := ⟨_, rfl⟩
  have hB : Below w.heap.size w W := hW ▸ ((Below.refl _ w).alloc (Nat.le_refl _) _).alloc (by simp) _
  have hk0 : W.heap[w.heap.size]? = some (.cells #[.int .u8 6, .int .u8 q.k0, .int .u8 q.k1, .int .u8 q.k2, .int .u8 q.k3, .int .u8 q.k4, .int .u8 q.k5, .int .u8 q.k6, .int .u8 q.k7, .int .u8 q.kd, .int .u64 q.x, .int .u64 q.y, .int .u64 q.n] 58) := hW ▸ upB (heapNew _ _) _
  have hr0 : W.heap[w.heap.size + 1]? = some (.cells #[.int .u8 0, .int .u64 0, .int .u64 0] 40) := hW ▸ heapN (by simp)
  have hSW := hS.below hB (Nat.le_refl _)
  have a1 := cellB hk0
  have lr := ltB hr0
  obtain ⟨mp, m1, m2, m3⟩ := hSW.mem
  go_enter Tryz.func69, Tryz.ntmps69
  go_upto_region 1 with fail
  rw [← hW]
  clear hW
  go_wp2_with fail
  refine (bclock sb _ _ _ _ L.time _ m1).mono ?_
  rintro e w2 ⟨rfl, hb2⟩
  have hr2 := (hb2.block _ lr).trans hr0
  have c2 := cellB hr2
  have f2 := frozenB hr2
  clear a1
  go_wp2
  refine bodyPost_ret (v := .agg #[.int .u8 1, .int .u64 L.time, .int .u64 0]) (by simp [results, Tryz.results69, go_sem, c2]) rfl ⟨rfl, ?_⟩
  exact Out.fin hB lr hFl (hSW.below hb2 (Nat.le_refl _)) (Keep.of_below hb2) (fun b h => Or.inl h) _ _ _

set_option maxRecDepth 100000 in
set_option maxHeartbeats 4000000 in
theorem do_other (sb : Nat) (st : Int) (L : Ld) (F : Nat → Prop) (q : Rq) (w : World) (h1 : q.op ≠ 1) (h2 : q.op ≠ 2) (h3 : q.op ≠ 3) (h4 : q.op ≠ 4) (h6 : q.op ≠ 6) (hS : SrvAt w st sb L F) :
    Calls Tryz.prog 69 #[.pointer (some ⟨sb, 0, none⟩), .agg #[.int .u8 q.op, .int .u8 q.k0, .int .u8 q.k1, .int .u8 q.k2, .int .u8 q.k3, .int .u8 q.k4, .int .u8 q.k5, .int .u8 q.k6, .int .u8 q.k7, .int .u8 q.kd, .int .u64 q.x, .int .u64 q.y, .int .u64 q.n]] w fun e w' => e = .returned (.agg #[.int .u8 1, .int .u64 0, .int .u64 0]) ∧ Out w st sb L F w' := by
  have n1 : (q.op == 1) = false := by simpa using h1
  have n2 : (q.op == 2) = false := by simpa using h2
  have n3 : (q.op == 3) = false := by simpa using h3
  have n4 : (q.op == 4) = false := by simpa using h4
  have n6 : (q.op == 6) = false := by simpa using h6
  clear h1 h2 h3 h4 h6
  go_enter Tryz.func69, Tryz.ntmps69
  go_wp2
  exact bodyPost_ret (v := .agg #[.int .u8 1, .int .u64 0, .int .u64 0]) (by simp [results, Tryz.results69, go_sem]) rfl ⟨rfl, Out.same hS (((Below.refl _ w).alloc (Nat.le_refl _) _).alloc (by simp) _)⟩

end Go.Proofs.YtlamgpeiolfffaaGreatDoor

namespace Go.Proofs.YtlamgpeiolfffaaGreatDoor
open Go.RowKit Go.Maps
variable [dK] [iK]

set_option maxRecDepth 100000 in
set_option maxHeartbeats 2000000 in
theorem bremove_none (sb : Nat) (s0 s1 adm : Value) (time : Int) (mp : Option Nat) (ks : List (Ky × Qt)) (k : Ky) (w : World) (hs : w.heap[sb]? = some (.cells #[s0, s1, .int .u64 time, .map mp, adm] 119)) (hm : MapX w mp ks) (hk : k.ok) (hf : fnd k ks = none) :
    Calls Tryz.prog 106 #[.pointer (some ⟨sb, 2, none⟩), .agg #[.int .u8 k.k0, .int .u8 k.k1, .int .u8 k.k2, .int .u8 k.k3, .int .u8 k.k4, .int .u8 k.k5, .int .u8 k.k6, .int .u8 k.k7]] w fun e w' => e = .returned (.agg #[.int .u8 4, .int .u64 0, .int .u64 0]) ∧ Below w.heap.size w w' := by
  go_enter Tryz.func106, Tryz.ntmps106
  go_upto_region 1 with fail
  obtain ⟨W, hW⟩ : ∃ W, W = (w.alloc (.cells #[.int .u8 k.k0, .int .u8 k.k1, .int .u8 k.k2, .int .u8 k.k3, .int .u8 k.k4, .int .u8 k.k5, .int .u8 k.k6, .int .u8 k.k7] 56)).alloc (.cells #[.int .u8 0, .int .u64 0, .int .u64 0] 40) := ⟨_, rfl⟩
  rw [← hW]
  have hB : Below w.heap.size w W := hW ▸ ((Below.refl _ w).alloc (Nat.le_refl _) _).alloc (by simp) _
  have hk0 : W.heap[w.heap.size]? = some (.cells #[.int .u8 k.k0, .int .u8 k.k1, .int .u8 k.k2, .int .u8 k.k3, .int .u8 k.k4, .int .u8 k.k5, .int .u8 k.k6, .int .u8 k.k7] 56) := hW ▸ upB (heapNew _ _) _
  have hr0 : W.heap[w.heap.size + 1]? = some (.cells #[.int .u8 0, .int .u64 0, .int .u64 0] 40) := hW ▸ heapN (by simp)
  have hs0 : W.heap[sb]? = some (.cells #[s0, s1, .int .u64 time, .map mp, adm] 119) := hW ▸ upB (upB hs _) _
  have hm0 : MapX W mp ks := hW ▸ (hm.alloc _).alloc _
  have hsb := ltB hs
  clear hW hs hm
  have a1 := cellB hk0
  have a2 := upC hk0 (.cells #[.int .u8 0, .int .u64 0, .int .u64 0, .int .u64 0, .int .u64 0] 231)
  have a3 := cellB hs0
  have a4 := upC hs0 (.cells #[.int .u8 0, .int .u64 0, .int .u64 0, .int .u64 0, .int .u64 0] 231)
  have a5 := hm0.drew.look0 hk hf
  have a6 := (hm0.alloc (.cells #[.int .u8 0, .int .u64 0, .int .u64 0, .int .u64 0, .int .u64 0] 231)).drew.look0 hk hf
  go_cut [5, 6] (fun s5 s6 wx => s5 = .pointer (some ⟨W.heap.size, 0, none⟩) ∧ s6 = .bool false ∧ wx = (W.alloc (.cells #[.int .u8 0, .int .u64 0, .int .u64 0, .int .u64 0, .int .u64 0] 231)).drew)
  case first =>
    go_region
    all_goals (go_wp2_with fail; go_meet)
    all_goals exact ⟨rfl, rfl, rfl⟩
  case rest =>
    obtain ⟨rfl, rfl, rfl⟩ := hcut
    have hz0 : (W.alloc (.cells #[.int .u8 0, .int .u64 0, .int .u64 0, .int .u64 0, .int .u64 0] 231)).heap[W.heap.size]? = some (.cells #[.int .u8 0, .int .u64 0, .int .u64 0, .int .u64 0, .int .u64 0] 231) := heapNew _ _
    have hk1 := upB hk0 (.cells #[.int .u8 0, .int .u64 0, .int .u64 0, .int .u64 0, .int .u64 0] 231)
    have hr1 := upB hr0 (.cells #[.int .u8 0, .int .u64 0, .int .u64 0, .int .u64 0, .int .u64 0] 231)
    have hs1 := upB hs0 (.cells #[.int .u8 0, .int .u64 0, .int .u64 0, .int .u64 0, .int .u64 0] 231)
    have hm1 := hm0.alloc (.cells #[.int .u8 0, .int .u64 0, .int .u64 0, .int .u64 0, .int .u64 0] 231)
    have hB1 := hB.alloc hB.size (.cells #[.int .u8 0, .int .u64 0, .int .u64 0, .int .u64 0, .int .u64 0] 231)
    have hB0 := hB.size
    clear a1 a2 a3 a4 a5 a6 hk0 hr0 hs0 hm0
    have b1 := cellB hr1
    have b2 := frozenB hr1
    go_wp2
    refine bodyPost_ret (v := .agg #[.int .u8 4, .int .u64 0, .int .u64 0]) (by simp [results, Tryz.results106, go_sem, b1]) rfl ⟨rfl, Below.drew ?_⟩
    repeat (refine Below.setCell ?_ (by simp <;> omega) _)
    exact hB1

set_option maxRecDepth 100000 in
set_option maxHeartbeats 2000000 in
theorem badmit_none (sb : Nat) (s0 s1 adm : Value) (time : Int) (mp : Option Nat) (ks : List (Ky × Qt)) (k : Ky) (w : World) (hs : w.heap[sb]? = some (.cells #[s0, s1, .int .u64 time, .map mp, adm] 119)) (hm : MapX w mp ks) (hk : k.ok) (hf : fnd k ks = none) (n : Int) :
    Calls Tryz.prog 104 #[.pointer (some ⟨sb, 2, none⟩), .agg #[.int .u8 k.k0, .int .u8 k.k1, .int .u8 k.k2, .int .u8 k.k3, .int .u8 k.k4, .int .u8 k.k5, .int .u8 k.k6, .int .u8 k.k7], .int .u64 n] w fun e w' => e = .returned (.agg #[.int .u8 4, .int .u64 0, .int .u64 0]) ∧ Below w.heap.size w w' := by
  go_enter Tryz.func104, Tryz.ntmps104
  go_upto_region 1 with fail
  obtain ⟨W, hW⟩ : ∃ W, W = (w.alloc (.cells #[.int .u8 k.k0, .int .u8 k.k1, .int .u8 k.k2, .int .u8 k.k3, .int .u8 k.k4, .int .u8 k.k5, .int .u8 k.k6, .int .u8 k.k7] 56)).alloc (.cells #[.int .u8 0, .int .u64 0, .int .u64 0] 40) := ⟨_, rfl⟩
  rw [← hW]
  have hB : Below w.heap.size w W := hW ▸ ((Below.refl _ w).alloc (Nat.le_refl _) _).alloc (by simp) _
  have hk0 : W.heap[w.heap.size]? = some (.cells #[.int .u8 k.k0, .int .u8 k.k1, .int .u8 k.k2, .int .u8 k.k3, .int .u8 k.k4, .int .u8 k.k5, .int .u8 k.k6, .int .u8 k.k7] 56) := hW ▸ upB (heapNew _ _) _
  have hr0 : W.heap[w.heap.size + 1]? = some (.cells #[.int .u8 0, .int .u64 0, .int .u64 0] 40) := hW ▸ heapN (by simp)
  have hs0 : W.heap[sb]? = some (.cells #[s0, s1, .int .u64 time, .map mp, adm] 119) := hW ▸ upB (upB hs _) _
  have hm0 : MapX W mp ks := hW ▸ (hm.alloc _).alloc _
  have hsb := ltB hs
  clear hW hs hm
  have a1 := cellB hk0
  have a2 := upC hk0 (.cells #[.int .u8 0, .int .u64 0, .int .u64 0, .int .u64 0, .int .u64 0] 231)
  have a3 := cellB hs0
  have a4 := upC hs0 (.cells #[.int .u8 0, .int .u64 0, .int .u64 0, .int .u64 0, .int .u64 0] 231)
  have a5 := hm0.drew.look0 hk hf
  have a6 := (hm0.alloc (.cells #[.int .u8 0, .int .u64 0, .int .u64 0, .int .u64 0, .int .u64 0] 231)).drew.look0 hk hf
  go_cut [7, 8] (fun s5 s6 wx => s5 = .pointer (some ⟨W.heap.size, 0, none⟩) ∧ s6 = .bool false ∧ wx = (W.alloc (.cells #[.int .u8 0, .int .u64 0, .int .u64 0, .int .u64 0, .int .u64 0] 231)).drew)
  case first =>
    go_region
    all_goals (go_wp2_with fail; go_meet)
    all_goals exact ⟨rfl, rfl, rfl⟩
  case rest =>
    obtain ⟨rfl, rfl, rfl⟩ := hcut
    have hz0 : (W.alloc (.cells #[.int .u8 0, .int .u64 0, .int .u64 0, .int .u64 0, .int .u64 0] 231)).heap[W.heap.size]? = some (.cells #[.int .u8 0, .int .u64 0, .int .u64 0, .int .u64 0, .int .u64 0] 231) := heapNew _ _
    have hk1 := upB hk0 (.cells #[.int .u8 0, .int .u64 0, .int .u64 0, .int .u64 0, .int .u64 0] 231)
    have hr1 := upB hr0 (.cells #[.int .u8 0, .int .u64 0, .int .u64 0, .int .u64 0, .int .u64 0] 231)
    have hs1 := upB hs0 (.cells #[.int .u8 0, .int .u64 0, .int .u64 0, .int .u64 0, .int .u64 0] 231)
    have hm1 := hm0.alloc (.cells #[.int .u8 0, .int .u64 0, .int .u64 0, .int .u64 0, .int .u64 0] 231)
    have hB1 := hB.alloc hB.size (.cells #[.int .u8 0, .int .u64 0, .int .u64 0, .int .u64 0, .int .u64 0] 231)
    have hB0 := hB.size
    clear a1 a2 a3 a4 a5 a6 hk0 hr0 hs0 hm0
    have b1 := cellB hr1
    have b2 := frozenB hr1
    go_wp2
    refine bodyPost_ret (v := .agg #[.int .u8 4, .int .u64 0, .int .u64 0]) (by simp [results, Tryz.results104, go_sem, b1]) rfl ⟨rfl, Below.drew ?_⟩
    repeat (refine Below.setCell ?_ (by simp <;> omega) _)
    exact hB1

set_option maxRecDepth 100000 in
set_option maxHeartbeats 2000000 in
theorem bquery_some (sb : Nat) (s0 s1 adm : Value) (time : Int) (mp : Option Nat) (ks : List (Ky × Qt)) (k : Ky) (w : World) (hs : w.heap[sb]? = some (.cells #[s0, s1, .int .u64 time, .map mp, adm] 119)) (hm : MapX w mp ks) (hk : k.ok) (q : Qt) (hf : fnd k ks = some q) (c a b : Int)
    (h126 : Hid (∀ w1, Calls Tryz.prog 126 #[.agg #[.int .u8 q.kd, .int .u64 q.x, .int .u64 q.y, .int .u64 q.lv, .int .u64 q.wn], .int .u64 time] w1 fun e w' => e = .returned (.agg #[.int .u8 c, .int .u64 a, .int .u64 b]) ∧ Below w1.heap.size w1 w')) :
    Calls Tryz.prog 105 #[.pointer (some ⟨sb, 2, none⟩), .agg #[.int .u8 k.k0, .int .u8 k.k1, .int .u8 k.k2, .int .u8 k.k3, .int .u8 k.k4, .int .u8 k.k5, .int .u8 k.k6, .int .u8 k.k7]] w fun e w' => e = .returned (.agg #[.int .u8 c, .int .u64 a, .int .u64 b]) ∧ Below w.heap.size w w' := by
  go_enter Tryz.func105, Tryz.ntmps105
  go_upto_region 1 with fail
  obtain ⟨W, hW⟩ : ∃ W, W = (w.alloc (.cells #[.int .u8 k.k0, .int .u8 k.k1, .int .u8 k.k2, .int .u8 k.k3, .int .u8 k.k4, .int .u8 k.k5, .int .u8 k.k6, .int .u8 k.k7] 56)).alloc (.cells #[.int .u8 0, .int .u64 0, .int .u64 0] 40) := ⟨_, rfl⟩
  rw [← hW]
  have hB : Below w.heap.size w W := hW ▸ ((Below.refl _ w).alloc (Nat.le_refl _) _).alloc (by simp) _
  have hk0 : W.heap[w.heap.size]? = some (.cells #[.int .u8 k.k0, .int .u8 k.k1, .int .u8 k.k2, .int .u8 k.k3, .int .u8 k.k4, .int .u8 k.k5, .int .u8 k.k6, .int .u8 k.k7] 56) := hW ▸ upB (heapNew _ _) _
  have hr0 : W.heap[w.heap.size + 1]? = some (.cells #[.int .u8 0, .int .u64 0, .int .u64 0] 40) := hW ▸ heapN (by simp)
  have hs0 : W.heap[sb]? = some (.cells #[s0, s1, .int .u64 time, .map mp, adm] 119) := hW ▸ upB (upB hs _) _
  have hm0 : MapX W mp ks := hW ▸ (hm.alloc _).alloc _
  have hsb := ltB hs
  clear hW hs hm
  have a1 := cellB hk0
  have a2 := upC hk0 (.cells #[.int .u8 0, .int .u64 0, .int .u64 0, .int .u64 0, .int .u64 0] 231)
  have a3 := cellB hs0
  have a4 := upC hs0 (.cells #[.int .u8 0, .int .u64 0, .int .u64 0, .int .u64 0, .int .u64 0] 231)
  have a5 := hm0.drew.look1 hk hf
  have a6 := (hm0.alloc (.cells #[.int .u8 0, .int .u64 0, .int .u64 0, .int .u64 0, .int .u64 0] 231)).drew.look1 hk hf
  go_cut [5, 6] (fun s5 s6 wx => s5 = .pointer (some ⟨W.heap.size, 0, none⟩) ∧ s6 = .bool true ∧ wx = (W.alloc (.cells #[.int .u8 q.kd, .int .u64 q.x, .int .u64 q.y, .int .u64 q.lv, .int .u64 q.wn] 231)).drew)
  case first =>
    go_region
    all_goals (go_wp2_with fail; go_meet)
    all_goals exact ⟨rfl, rfl, rfl⟩
  case rest =>
    obtain ⟨rfl, rfl, rfl⟩ := hcut
    have hz0 : (W.alloc (.cells #[.int .u8 q.kd, .int .u64 q.x, .int .u64 q.y, .int .u64 q.lv, .int .u64 q.wn] 231)).heap[W.heap.size]? = some (.cells #[.int .u8 q.kd, .int .u64 q.x, .int .u64 q.y, .int .u64 q.lv, .int .u64 q.wn] 231) := heapNew _ _
    have hk1 := upB hk0 (.cells #[.int .u8 q.kd, .int .u64 q.x, .int .u64 q.y, .int .u64 q.lv, .int .u64 q.wn] 231)
    have hr1 := upB hr0 (.cells #[.int .u8 q.kd, .int .u64 q.x, .int .u64 q.y, .int .u64 q.lv, .int .u64 q.wn] 231)
    have hs1 := upB hs0 (.cells #[.int .u8 q.kd, .int .u64 q.x, .int .u64 q.y, .int .u64 q.lv, .int .u64 q.wn] 231)
    have hm1 := hm0.alloc (.cells #[.int .u8 q.kd, .int .u64 q.x, .int .u64 q.y, .int .u64 q.lv, .int .u64 q.wn] 231)
    have hB1 := hB.alloc hB.size (.cells #[.int .u8 q.kd, .int .u64 q.x, .int .u64 q.y, .int .u64 q.lv, .int .u64 q.wn] 231)
    have hB0 := hB.size
    clear a1 a2 a3 a4 a5 a6 hk0 hr0 hs0 hm0
    have a1 := cellB hs1
    have a2 := cellB hz0
    have l1 := ltB hr1
    go_wp2_with fail
    go_region_with (go_at_call 126; refine (h126.out _).mono ?_; rintro e w2 ⟨rfl, hb2⟩; have f1 := fun j => (hb2.cell (p := ⟨w.heap.size + 1, j, none⟩) l1).trans (cellB hr1 j); have g1 := fun j => (hb2.frozen (p := ⟨w.heap.size + 1, j, none⟩) l1).trans (frozenB hr1 j))
    all_goals go_wp2
    all_goals (
      refine bodyPost_ret (v := .agg #[.int .u8 c, .int .u64 a, .int .u64 b]) (by simp [results, Tryz.results105, go_sem, f1]) rfl ⟨rfl, ?_⟩
      repeat (refine Below.setCell ?_ (by simp <;> omega) _)
      exact hB1.drew.drew.trans (hb2.mono (by simp; omega)))

end Go.Proofs.YtlamgpeiolfffaaGreatDoor

namespace Go.Proofs.YtlamgpeiolfffaaGreatDoor
open Go.RowKit Go.Maps
variable [dK] [iK]

/-- The keys behind a store. -/
def putM (k : Ky) (q : Qt) (ks : List (Ky × Qt)) : List (Ky × Qt) := if (fnd k ks).isSome then upd k q ks else ks ++ [(k, q)]
theorem turned_keep {w w' : World} {b : Nat} (h : w.mapTurned w' b) : Keep (fun k => k = b) w w' :=
  ⟨h.grown.os, h.grown.tape, h.grown.output, h.grown.size, fun k hk hne => h.grown.block k hk (fun e => hne (Option.some.inj e))⟩

set_option maxRecDepth 100000 in
set_option maxHeartbeats 2000000 in
theorem bput_some (sb mb : Nat) (s0 s1 adm : Value) (time : Int) (mp : Option Nat) (hmp : mp = some mb) (ks : List (Ky × Qt)) (k : Ky) (w : World) (hs : w.heap[sb]? = some (.cells #[s0, s1, .int .u64 time, .map mp, adm] 119)) (hm : MapX w mp ks) (hk : k.ok) (q : Qt) (hl : ks.length ≤ 12) :
    Calls Tryz.prog 123 #[.pointer (some ⟨sb, 2, none⟩), .agg #[.int .u8 k.k0, .int .u8 k.k1, .int .u8 k.k2, .int .u8 k.k3, .int .u8 k.k4, .int .u8 k.k5, .int .u8 k.k6, .int .u8 k.k7], .agg #[.int .u8 q.kd, .int .u64 q.x, .int .u64 q.y, .int .u64 q.lv, .int .u64 q.wn]] w fun e w' => e = .returned (.tuple #[]) ∧ ∃ b', w'.heap[sb]? = some (.cells #[s0, s1, .int .u64 time, .map (some b'), adm] 119) ∧ MapX w' (some b') (putM k q ks) ∧ Keep (fun b => b = sb ∨ mp = some b) w w' ∧ (mp = some b' ∨ w.heap.size ≤ b') ∧ b' ≠ sb := by
  subst hmp
  obtain ⟨W, hW⟩ : ∃ W, W = (w.alloc (.cells #[.int .u8 k.k0, .int .u8 k.k1, .int .u8 k.k2, .int .u8 k.k3, .int .u8 k.k4, .int .u8 k.k5, .int .u8 k.k6, .int .u8 k.k7] 56)).alloc (.cells #[.int .u8 q.kd, .int .u64 q.x, .int .u64 q.y, .int .u64 q.lv, .int .u64 q.wn] 231) := ⟨_, rfl⟩
  have hB : Below w.heap.size w W := hW ▸ ((Below.refl _ w).alloc (Nat.le_refl _) _).alloc (by simp) _
  have hk0 : W.heap[w.heap.size]? = some (.cells #[.int .u8 k.k0, .int .u8 k.k1, .int .u8 k.k2, .int .u8 k.k3, .int .u8 k.k4, .int .u8 k.k5, .int .u8 k.k6, .int .u8 k.k7] 56) := hW ▸ upB (heapNew _ _) _
  have hr0 : W.heap[w.heap.size + 1]? = some (.cells #[.int .u8 q.kd, .int .u64 q.x, .int .u64 q.y, .int .u64 q.lv, .int .u64 q.wn] 231) := hW ▸ heapN (by simp)
  have hs0 : W.heap[sb]? = some (.cells #[s0, s1, .int .u64 time, .map (some mb), adm] 119) := hW ▸ upB (upB hs _) _
  have hm0 : MapX W (some mb) ks := hW ▸ (hm.alloc _).alloc _
  have hne : mb ≠ sb := by
    intro e; subst e
    obtain ⟨_, _, ⟨es, clock, h1, _⟩, _⟩ := hm
    rw [hs] at h1; simp at h1
  obtain ⟨w', hrun, ht, hm'⟩ := MapOf.store (w := W.drew) (MapOf.kept hm0 rfl) hl hk q
  have hrun' : (Instr.mapUpdate 111 (.map (some mb)) (.agg #[.int .u8 k.k0, .int .u8 k.k1, .int .u8 k.k2, .int .u8 k.k3, .int .u8 k.k4, .int .u8 k.k5, .int .u8 k.k6, .int .u8 k.k7]) (.agg #[.int .u8 q.kd, .int .u64 q.x, .int .u64 q.y, .int .u64 q.lv, .int .u64 q.wn])).run Tryz.prog W.drew = .ok () w' := hrun
  have a1 := cellB hk0
  have a2 := cellB hr0
  have a3 := cellB hs0
  have hnil : ∀ w, (binOp .eql 111 (.map (some mb)) (.map none)).run Tryz.prog w = .ok (.bool false) w := fun w => run_eql_map_nil w 111 56 231 (some mb) Tryz.underlying111
  go_enter Tryz.func123, Tryz.ntmps123
  go_upto_region 1 with fail
  rw [← hW]
  clear hW hs hm
  go_upto_region 3 with fail
  go_region
  all_goals go_wp2
  all_goals go_end0
  all_goals refine ⟨rfl, mb, ?_, hm', ?_, Or.inl rfl, hne⟩
  all_goals first | exact (ht.grown.block sb (ltB hs0) (fun e => hne (Option.some.inj e).symm)).trans hs0 | exact (Keep.of_below hB).drew.trans ((turned_keep ht).mono (fun k e _ => Or.inr (by rw [e])))

set_option maxRecDepth 100000 in
set_option maxHeartbeats 2000000 in
theorem bput_nil (sb : Nat) (s0 s1 adm : Value) (time : Int) (mp : Option Nat) (hmp : mp = none) (ks : List (Ky × Qt)) (k : Ky) (w : World) (hs : w.heap[sb]? = some (.cells #[s0, s1, .int .u64 time, .map mp, adm] 119)) (hm : MapX w mp ks) (hk : k.ok) (q : Qt) :
    Calls Tryz.prog 123 #[.pointer (some ⟨sb, 2, none⟩), .agg #[.int .u8 k.k0, .int .u8 k.k1, .int .u8 k.k2, .int .u8 k.k3, .int .u8 k.k4, .int .u8 k.k5, .int .u8 k.k6, .int .u8 k.k7], .agg #[.int .u8 q.kd, .int .u64 q.x, .int .u64 q.y, .int .u64 q.lv, .int .u64 q.wn]] w fun e w' => e = .returned (.tuple #[]) ∧ ∃ b', w'.heap[sb]? = some (.cells #[s0, s1, .int .u64 time, .map (some b'), adm] 119) ∧ MapX w' (some b') (putM k q ks) ∧ Keep (fun b => b = sb ∨ mp = some b) w w' ∧ (mp = some b' ∨ w.heap.size ≤ b') ∧ b' ≠ sb := by
  subst hmp
  obtain rfl : ks = [] := hm
  have hsb := ltB hs
  obtain ⟨W, hW⟩ : ∃ W, W = (w.alloc (.cells #[.int .u8 k.k0, .int .u8 k.k1, .int .u8 k.k2, .int .u8 k.k3, .int .u8 k.k4, .int .u8 k.k5, .int .u8 k.k6, .int .u8 k.k7] 56)).alloc (.cells #[.int .u8 q.kd, .int .u64 q.x, .int .u64 q.y, .int .u64 q.lv, .int .u64 q.wn] 231) := ⟨_, rfl⟩
  have hB : Below w.heap.size w W := hW ▸ ((Below.refl _ w).alloc (Nat.le_refl _) _).alloc (by simp) _
  have hk0 : W.heap[w.heap.size]? = some (.cells #[.int .u8 k.k0, .int .u8 k.k1, .int .u8 k.k2, .int .u8 k.k3, .int .u8 k.k4, .int .u8 k.k5, .int .u8 k.k6, .int .u8 k.k7] 56) := hW ▸ upB (heapNew _ _) _
  have hr0 : W.heap[w.heap.size + 1]? = some (.cells #[.int .u8 q.kd, .int .u64 q.x, .int .u64 q.y, .int .u64 q.lv, .int .u64 q.wn] 231) := hW ▸ heapN (by simp)
  have hs0 : W.heap[sb]? = some (.cells #[s0, s1, .int .u64 time, .map none, adm] 119) := hW ▸ upB (upB hs _) _
  have hWl : w.heap.size + 1 < W.heap.size := ltB hr0
  obtain ⟨V, hV⟩ : ∃ V, V = (W.alloc (.map #[] 0)).setCell ⟨sb, 3, none⟩ (.map (some W.heap.size)) := ⟨_, rfl⟩
  have hsV : V.heap[sb]? = some (.cells #[s0, s1, .int .u64 time, .map (some W.heap.size), adm] 119) := hV ▸ heapSet (upB hs0 _) 3 _
  have hkV : V.heap[w.heap.size]? = some (.cells #[.int .u8 k.k0, .int .u8 k.k1, .int .u8 k.k2, .int .u8 k.k3, .int .u8 k.k4, .int .u8 k.k5, .int .u8 k.k6, .int .u8 k.k7] 56) := hV ▸ (heapSetO (by omega) _ _).trans (upB hk0 _)
  have hrV : V.heap[w.heap.size + 1]? = some (.cells #[.int .u8 q.kd, .int .u64 q.x, .int .u64 q.y, .int .u64 q.lv, .int .u64 q.wn] 231) := hV ▸ (heapSetO (by omega) _ _).trans (upB hr0 _)
  have hmV : MapOf V W.heap.size [] := by
    have hWs := ltB hs0
    exact hV ▸ MapOf.kept (MapOf.made W) (heapSetO (by omega) _ _)
  have hKV : Keep (fun b => b = sb ∨ none = some b) w V := hV ▸ ((Keep.of_below hB).alloc _).set (Or.inl (Or.inl rfl)) _ _
  obtain ⟨w', hrun, ht, hm'⟩ := MapOf.store (w := V.drew) (MapOf.kept hmV rfl) (by simp) hk q
  have hrun' : (Instr.mapUpdate 111 (.map (some W.heap.size)) (.agg #[.int .u8 k.k0, .int .u8 k.k1, .int .u8 k.k2, .int .u8 k.k3, .int .u8 k.k4, .int .u8 k.k5, .int .u8 k.k6, .int .u8 k.k7]) (.agg #[.int .u8 q.kd, .int .u64 q.x, .int .u64 q.y, .int .u64 q.lv, .int .u64 q.wn])).run Tryz.prog V.drew = .ok () w' := hrun
  have a1 := cellB hkV
  have a2 := cellB hrV
  have a3 := cellB hsV
  have b5 := cellB hs0
  have b3 := upC hs0 (.map #[] 0)
  have b4 := upF hs0 (.map #[] 0)
  have hnil : ∀ w, (binOp .eql 111 (.map none) (.map none)).run Tryz.prog w = .ok (.bool true) w := fun w => run_eql_map_nil w 111 56 231 none Tryz.underlying111
  have hmm := @run_makeMap Tryz.prog
  go_enter Tryz.func123, Tryz.ntmps123
  go_upto_region 1 with fail
  rw [← hW]
  clear hW hs
  go_upto_region 3 with fail
  rw [← hV]
  clear hV b3 b4 b5
  go_region
  all_goals go_wp2
  all_goals go_end0
  all_goals refine ⟨rfl, W.heap.size, ?_, hm', ?_, Or.inr (by omega), by omega⟩
  all_goals first | exact (ht.grown.block sb (ltB hsV) (fun e => by injection e; omega)).trans hsV | exact hKV.drew.then (turned_keep ht) (fun i hi e => by omega)

theorem bput (sb : Nat) (s0 s1 adm : Value) (time : Int) (mp : Option Nat) (ks : List (Ky × Qt)) (k : Ky) (w : World) (hs : w.heap[sb]? = some (.cells #[s0, s1, .int .u64 time, .map mp, adm] 119)) (hm : MapX w mp ks) (hk : k.ok) (q : Qt) (hl : ks.length ≤ 12) :
    Calls Tryz.prog 123 #[.pointer (some ⟨sb, 2, none⟩), .agg #[.int .u8 k.k0, .int .u8 k.k1, .int .u8 k.k2, .int .u8 k.k3, .int .u8 k.k4, .int .u8 k.k5, .int .u8 k.k6, .int .u8 k.k7], .agg #[.int .u8 q.kd, .int .u64 q.x, .int .u64 q.y, .int .u64 q.lv, .int .u64 q.wn]] w fun e w' => e = .returned (.tuple #[]) ∧ ∃ b', w'.heap[sb]? = some (.cells #[s0, s1, .int .u64 time, .map (some b'), adm] 119) ∧ MapX w' (some b') (putM k q ks) ∧ Keep (fun b => b = sb ∨ mp = some b) w w' ∧ (mp = some b' ∨ w.heap.size ≤ b') ∧ b' ≠ sb := by
  cases mp with
  | none => exact bput_nil sb s0 s1 adm time none rfl ks k w hs hm hk q
  | some mb => exact bput_some sb mb s0 s1 adm time (some mb) rfl ks k w hs hm hk q hl

end Go.Proofs.YtlamgpeiolfffaaGreatDoor

namespace Go.Proofs.YtlamgpeiolfffaaGreatDoor
open Go.RowKit
variable [dK] [iK]

set_option maxRecDepth 100000 in
theorem qsound (kd x y : Int) (w : World) (b : Bool) (hb : b = decide ((kd = 1 ∧ 1 ≤ x) ∨ (kd = 2 ∧ 1 ≤ y))) :
    Calls Tryz.prog 130 #[.agg #[.int .u8 kd, .int .u64 x, .int .u64 y]] w fun e w' => e = .returned (.bool b) ∧ w' = w.alloc (.cells #[.int .u8 kd, .int .u64 x, .int .u64 y] 30) := by
  by_cases h1 : kd = 1
  · subst h1
    have e : b = decide (1 ≤ x) := by rw [hb]; simp
    subst e
    clear hb
    go_enter Tryz.func130, Tryz.ntmps130
    go_wp2
    go_ret
    exact ⟨rfl, rfl⟩
  by_cases h2 : kd = 2
  · subst h2
    have e : b = decide (1 ≤ y) := by rw [hb]; simp
    subst e
    clear hb
    go_enter Tryz.func130, Tryz.ntmps130
    go_wp2
    go_ret
    exact ⟨rfl, rfl⟩
  have e : b = false := by rw [hb]; simp [h1, h2]
  subst e
  clear hb
  have h1' : (kd == 1) = false := by simpa using h1
  have h2' : (kd == 2) = false := by simpa using h2
  go_enter Tryz.func130, Tryz.ntmps130
  go_wp2
  go_ret
  exact ⟨rfl, rfl⟩

set_option maxRecDepth 100000 in
theorem qnew_ok (kd x y : Int) (w : World) (h : (kd = 1 ∧ 1 ≤ x) ∨ (kd = 2 ∧ 1 ≤ y)) :
    Calls Tryz.prog 122 #[.agg #[.int .u8 kd, .int .u64 x, .int .u64 y]] w fun e w' => e = .returned (.tuple #[.agg #[.int .u8 kd, .int .u64 x, .int .u64 y, .int .u64 0, .int .u64 0], .bool true]) ∧ Below w.heap.size w w' := by
  go_enter Tryz.func122, Tryz.ntmps122
  go_wp2_with (go_at_call 130; refine (qsound _ _ _ _ true (by simpa using h)).mono ?_; rintro e w' ⟨rfl, rfl⟩)
  exact bodyPost_ret (v := .tuple #[.agg #[.int .u8 kd, .int .u64 x, .int .u64 y, .int .u64 0, .int .u64 0], .bool true]) (by simp [results, Tryz.results122, go_sem]) rfl ⟨rfl, (((Below.refl _ w).alloc (Nat.le_refl _) _).alloc (by simp) _).alloc (by simp <;> omega) _⟩

set_option maxRecDepth 100000 in
theorem qnew_bad (kd x y : Int) (w : World) (h : ¬ ((kd = 1 ∧ 1 ≤ x) ∨ (kd = 2 ∧ 1 ≤ y))) :
    Calls Tryz.prog 122 #[.agg #[.int .u8 kd, .int .u64 x, .int .u64 y]] w fun e w' => e = .returned (.tuple #[.agg #[.int .u8 0, .int .u64 0, .int .u64 0, .int .u64 0, .int .u64 0], .bool false]) ∧ Below w.heap.size w w' := by
  have hs := fun w => qsound kd x y w false (by simpa using h)
  clear h
  go_enter Tryz.func122, Tryz.ntmps122
  go_wp2_with (go_at_call 130; refine (hs _).mono ?_; rintro e w' ⟨rfl, rfl⟩)
  exact bodyPost_ret (v := .tuple #[.agg #[.int .u8 0, .int .u64 0, .int .u64 0, .int .u64 0, .int .u64 0], .bool false]) (by simp [results, Tryz.results122, go_sem]) rfl ⟨rfl, (((Below.refl _ w).alloc (Nat.le_refl _) _).alloc (by simp) _).alloc (by simp <;> omega) _⟩
end Go.Proofs.YtlamgpeiolfffaaGreatDoor

namespace Go.Proofs.YtlamgpeiolfffaaGreatDoor
open Go.RowKit Go.Maps
variable [dK] [iK]

theorem MapX.len {w : World} {mp : Option Nat} {ks : List (Ky × Qt)} (h : MapX w mp ks) (ty : TypeId) : (Builtin.len_ #[111] ty #[.map mp]).run Tryz.prog w = .ok (.int .i64 ks.length) w := by
  cases mp with
  | none =>
    have e : ks = [] := h
    subst e
    exact Maps.len_nil Tryz.underlying111 ty
  | some b => exact MapOf.len h ty
theorem wpList_len_run {P : Program} (w : World) {ops : Array Oper} {rest : List Oper} {o : Oper} {a : Act} {Q : Exit → Act → World → Prop} (hg : o.guard = none) (m : Operand) (t : TypeId) (hop : o.op = Op.call { callee := Callee.builtin Builtin.len, args := #[m], argTypes := #[t] })
    (vm : Value) (hm : a.eval m = vm) (r : Value) (hrun : (Builtin.len_ #[t] o.type #[vm]).run P w = .ok r w) (hK : wpList P ops Q rest (a.put o.dst r) w) :
    wpList P ops Q (o :: rest) a w := by
  refine wpList_plain hg fun K' hK' => ?_
  unfold Oper.wp
  simp [execOp, hop, resolve, invoke, builtin, hm, hrun, Result.andThen]
  exact hK' _ _ hK

set_option maxRecDepth 100000 in
set_option maxHeartbeats 2000000 in
theorem bdef_full (sb : Nat) (s0 s1 adm : Value) (time : Int) (mp : Option Nat) (ks : List (Ky × Qt)) (k : Ky) (w : World) (hs : w.heap[sb]? = some (.cells #[s0, s1, .int .u64 time, .map mp, adm] 119)) (hm : MapX w mp ks) (hk : k.ok) (kd x y : Int) (hso : (kd = 1 ∧ 1 ≤ x) ∨ (kd = 2 ∧ 1 ≤ y)) (hf : fnd k ks = none) (hl : 12 ≤ ks.length) :
    Calls Tryz.prog 102 #[.pointer (some ⟨sb, 2, none⟩), .agg #[.int .u8 k.k0, .int .u8 k.k1, .int .u8 k.k2, .int .u8 k.k3, .int .u8 k.k4, .int .u8 k.k5, .int .u8 k.k6, .int .u8 k.k7], .agg #[.int .u8 kd, .int .u64 x, .int .u64 y]] w fun e w' => e = .returned (.agg #[.int .u8 5, .int .u64 0, .int .u64 0]) ∧ Below w.heap.size w w' := by
  have hmlt := hm.lt
  have hsb := ltB hs
  go_enter Tryz.func102, Tryz.ntmps102
  go_wp2_with fail
  refine (qnew_ok kd x y _ hso).mono ?_
  rintro e w1 ⟨rfl, hb1⟩
  have hb1' : Below w.heap.size w w1 := ((((Below.refl _ w).alloc (Nat.le_refl _) _).alloc (by simp) _).alloc (by simp <;> omega) _).trans (hb1.mono (by simp <;> omega))
  have hk9 : w1.heap[w.heap.size]? = some (.cells #[.int .u8 k.k0, .int .u8 k.k1, .int .u8 k.k2, .int .u8 k.k3, .int .u8 k.k4, .int .u8 k.k5, .int .u8 k.k6, .int .u8 k.k7] 56) := (hb1.block _ (by simp <;> omega)).trans (upB (upB (heapNew _ _) _) _)
  have hr9 : w1.heap[w.heap.size + 2]? = some (.cells #[.int .u8 0, .int .u64 0, .int .u64 0] 40) := (hb1.block _ (by simp <;> omega)).trans (heapN (by simp))
  have hs9 : w1.heap[sb]? = some (.cells #[s0, s1, .int .u64 time, .map mp, adm] 119) := (hb1.block _ (by simp <;> omega)).trans (upB (upB (upB hs _) _) _)
  have hm9 : MapX w1 mp ks := hm.kept fun b hb => hb1'.block b (hmlt b hb)
  clear hb1 hs hm
  go_upto_region 2 with fail
  obtain ⟨W, hW⟩ : ∃ W, W = w1.alloc (.cells #[.int .u8 kd, .int .u64 x, .int .u64 y, .int .u64 0, .int .u64 0] 231) := ⟨_, rfl⟩
  rw [← hW]
  have hB : Below w.heap.size w W := hW ▸ hb1'.alloc hb1'.size _
  have hk0 : W.heap[w.heap.size]? = some (.cells #[.int .u8 k.k0, .int .u8 k.k1, .int .u8 k.k2, .int .u8 k.k3, .int .u8 k.k4, .int .u8 k.k5, .int .u8 k.k6, .int .u8 k.k7] 56) := hW ▸ upB hk9 _
  have hr0 : W.heap[w.heap.size + 2]? = some (.cells #[.int .u8 0, .int .u64 0, .int .u64 0] 40) := hW ▸ upB hr9 _
  have hs0 : W.heap[sb]? = some (.cells #[s0, s1, .int .u64 time, .map mp, adm] 119) := hW ▸ upB hs9 _
  have hq0 : W.heap[w1.heap.size]? = some (.cells #[.int .u8 kd, .int .u64 x, .int .u64 y, .int .u64 0, .int .u64 0] 231) := hW ▸ heapNew _ _
  have hm0 : MapX W mp ks := hW ▸ hm9.alloc _
  have lr9 := ltB hr9
  clear hW hb1' hk9 hr9 hs9 hm9
  have a1 := cellB hk0
  have a2 := upC hk0 (.cells #[.int .u8 0, .int .u64 0, .int .u64 0, .int .u64 0, .int .u64 0] 231)
  have a3 := cellB hs0
  have a4 := upC hs0 (.cells #[.int .u8 0, .int .u64 0, .int .u64 0, .int .u64 0, .int .u64 0] 231)
  have a5 := hm0.drew.look0 hk hf
  have a6 := (hm0.alloc (.cells #[.int .u8 0, .int .u64 0, .int .u64 0, .int .u64 0, .int .u64 0] 231)).drew.look0 hk hf
  go_cut [9, 10] (fun s5 s6 wx => s5 = .pointer (some ⟨W.heap.size, 0, none⟩) ∧ s6 = .bool false ∧ wx = (W.alloc (.cells #[.int .u8 0, .int .u64 0, .int .u64 0, .int .u64 0, .int .u64 0] 231)).drew)
  case first =>
    go_region
    all_goals (go_wp2_with fail; go_meet)
    all_goals exact ⟨rfl, rfl, rfl⟩
  case rest =>
    obtain ⟨rfl, rfl, rfl⟩ := hcut
    have hk1 := upB hk0 (.cells #[.int .u8 0, .int .u64 0, .int .u64 0, .int .u64 0, .int .u64 0] 231)
    have hr1 := upB hr0 (.cells #[.int .u8 0, .int .u64 0, .int .u64 0, .int .u64 0, .int .u64 0] 231)
    have hs1 := upB hs0 (.cells #[.int .u8 0, .int .u64 0, .int .u64 0, .int .u64 0, .int .u64 0] 231)
    have hq1 := upB hq0 (.cells #[.int .u8 0, .int .u64 0, .int .u64 0, .int .u64 0, .int .u64 0] 231)
    have hm1 := hm0.alloc (.cells #[.int .u8 0, .int .u64 0, .int .u64 0, .int .u64 0, .int .u64 0] 231)
    have hB1 := hB.alloc hB.size (.cells #[.int .u8 0, .int .u64 0, .int .u64 0, .int .u64 0, .int .u64 0] 231)
    have hB0 := hB.size
    clear a1 a2 a3 a4 a5 a6 hk0 hr0 hs0 hm0 hq0
    have b1 := cellB hr1
    have b2 := frozenB hr1
    have b3 := cellB hs1
    have hlen : Hid ((Builtin.len_ #[111] 3 #[.map mp]).run Tryz.prog (W.alloc (.cells #[.int .u8 0, .int .u64 0, .int .u64 0, .int .u64 0, .int .u64 0] 231)).drew = .ok (.int .i64 ks.length) (W.alloc (.cells #[.int .u8 0, .int .u64 0, .int .u64 0, .int .u64 0, .int .u64 0] 231)).drew) := hm1.drew.len 3
    have h12 : decide ((12 : Int) ≤ ks.length) = true := by simp; omega
    go_upto_region 7 with fail
    go_wp2_with (at_len; refine wpList_len_run _ (by rfl) _ _ (by rfl) _ (by rfl) _ hlen.out ?_)
    refine bodyPost_ret (v := .agg #[.int .u8 5, .int .u64 0, .int .u64 0]) (by simp [results, Tryz.results102, go_sem, b1]) rfl ⟨rfl, Below.drew ?_⟩
    repeat (refine Below.setCell ?_ (by simp <;> omega) _)
    exact hB1

set_option maxRecDepth 100000 in
set_option maxHeartbeats 2000000 in
theorem bdef_new (sb : Nat) (s0 s1 adm : Value) (time : Int) (mp : Option Nat) (ks : List (Ky × Qt)) (k : Ky) (w : World) (hs : w.heap[sb]? = some (.cells #[s0, s1, .int .u64 time, .map mp, adm] 119)) (hm : MapX w mp ks) (hk : k.ok) (kd x y : Int) (hso : (kd = 1 ∧ 1 ≤ x) ∨ (kd = 2 ∧ 1 ≤ y)) (hf : fnd k ks = none) (hl : ks.length < 12) :
    Calls Tryz.prog 102 #[.pointer (some ⟨sb, 2, none⟩), .agg #[.int .u8 k.k0, .int .u8 k.k1, .int .u8 k.k2, .int .u8 k.k3, .int .u8 k.k4, .int .u8 k.k5, .int .u8 k.k6, .int .u8 k.k7], .agg #[.int .u8 kd, .int .u64 x, .int .u64 y]] w fun e w' => e = .returned (.agg #[.int .u8 1, .int .u64 0, .int .u64 0]) ∧ ∃ b', w'.heap[sb]? = some (.cells #[s0, s1, .int .u64 time, .map (some b'), adm] 119) ∧ MapX w' (some b') (putM k ⟨kd, x, y, 0, 0⟩ ks) ∧ Keep (fun b => b = sb ∨ mp = some b) w w' ∧ (mp = some b' ∨ w.heap.size ≤ b') ∧ b' ≠ sb := by
  have hmlt := hm.lt
  have hsb := ltB hs
  go_enter Tryz.func102, Tryz.ntmps102
  go_wp2_with fail
  refine (qnew_ok kd x y _ hso).mono ?_
  rintro e w1 ⟨rfl, hb1⟩
  have hb1' : Below w.heap.size w w1 := ((((Below.refl _ w).alloc (Nat.le_refl _) _).alloc (by simp) _).alloc (by simp <;> omega) _).trans (hb1.mono (by simp <;> omega))
  have hk9 : w1.heap[w.heap.size]? = some (.cells #[.int .u8 k.k0, .int .u8 k.k1, .int .u8 k.k2, .int .u8 k.k3, .int .u8 k.k4, .int .u8 k.k5, .int .u8 k.k6, .int .u8 k.k7] 56) := (hb1.block _ (by simp <;> omega)).trans (upB (upB (heapNew _ _) _) _)
  have hr9 : w1.heap[w.heap.size + 2]? = some (.cells #[.int .u8 0, .int .u64 0, .int .u64 0] 40) := (hb1.block _ (by simp <;> omega)).trans (heapN (by simp))
  have hs9 : w1.heap[sb]? = some (.cells #[s0, s1, .int .u64 time, .map mp, adm] 119) := (hb1.block _ (by simp <;> omega)).trans (upB (upB (upB hs _) _) _)
  have hm9 : MapX w1 mp ks := hm.kept fun b hb => hb1'.block b (hmlt b hb)
  clear hb1 hs hm
  go_upto_region 2 with fail
  obtain ⟨W, hW⟩ : ∃ W, W = w1.alloc (.cells #[.int .u8 kd, .int .u64 x, .int .u64 y, .int .u64 0, .int .u64 0] 231) := ⟨_, rfl⟩
  rw [← hW]
  have hB : Below w.heap.size w W := hW ▸ hb1'.alloc hb1'.size _
  have hk0 : W.heap[w.heap.size]? = some (.cells #[.int .u8 k.k0, .int .u8 k.k1, .int .u8 k.k2, .int .u8 k.k3, .int .u8 k.k4, .int .u8 k.k5, .int .u8 k.k6, .int .u8 k.k7] 56) := hW ▸ upB hk9 _
  have hr0 : W.heap[w.heap.size + 2]? = some (.cells #[.int .u8 0, .int .u64 0, .int .u64 0] 40) := hW ▸ upB hr9 _
  have hs0 : W.heap[sb]? = some (.cells #[s0, s1, .int .u64 time, .map mp, adm] 119) := hW ▸ upB hs9 _
  have hq0 : W.heap[w1.heap.size]? = some (.cells #[.int .u8 kd, .int .u64 x, .int .u64 y, .int .u64 0, .int .u64 0] 231) := hW ▸ heapNew _ _
  have hm0 : MapX W mp ks := hW ▸ hm9.alloc _
  have lr9 := ltB hr9
  clear hW hb1' hk9 hr9 hs9 hm9
  have a1 := cellB hk0
  have a2 := upC hk0 (.cells #[.int .u8 0, .int .u64 0, .int .u64 0, .int .u64 0, .int .u64 0] 231)
  have a3 := cellB hs0
  have a4 := upC hs0 (.cells #[.int .u8 0, .int .u64 0, .int .u64 0, .int .u64 0, .int .u64 0] 231)
  have a5 := hm0.drew.look0 hk hf
  have a6 := (hm0.alloc (.cells #[.int .u8 0, .int .u64 0, .int .u64 0, .int .u64 0, .int .u64 0] 231)).drew.look0 hk hf
  go_cut [9, 10] (fun s5 s6 wx => s5 = .pointer (some ⟨W.heap.size, 0, none⟩) ∧ s6 = .bool false ∧ wx = (W.alloc (.cells #[.int .u8 0, .int .u64 0, .int .u64 0, .int .u64 0, .int .u64 0] 231)).drew)
  case first =>
    go_region
    all_goals (go_wp2_with fail; go_meet)
    all_goals exact ⟨rfl, rfl, rfl⟩
  case rest =>
    obtain ⟨rfl, rfl, rfl⟩ := hcut
    have hk1 := upB hk0 (.cells #[.int .u8 0, .int .u64 0, .int .u64 0, .int .u64 0, .int .u64 0] 231)
    have hr1 := upB hr0 (.cells #[.int .u8 0, .int .u64 0, .int .u64 0, .int .u64 0, .int .u64 0] 231)
    have hs1 := upB hs0 (.cells #[.int .u8 0, .int .u64 0, .int .u64 0, .int .u64 0, .int .u64 0] 231)
    have hq1 := upB hq0 (.cells #[.int .u8 0, .int .u64 0, .int .u64 0, .int .u64 0, .int .u64 0] 231)
    have hm1 := hm0.alloc (.cells #[.int .u8 0, .int .u64 0, .int .u64 0, .int .u64 0, .int .u64 0] 231)
    have hB1 := hB.alloc hB.size (.cells #[.int .u8 0, .int .u64 0, .int .u64 0, .int .u64 0, .int .u64 0] 231)
    have hB0 := hB.size
    clear a1 a2 a3 a4 a5 a6 hk0 hr0 hs0 hm0 hq0
    have b3 := cellB hs1
    have hlen : Hid ((Builtin.len_ #[111] 3 #[.map mp]).run Tryz.prog (W.alloc (.cells #[.int .u8 0, .int .u64 0, .int .u64 0, .int .u64 0, .int .u64 0] 231)).drew = .ok (.int .i64 ks.length) (W.alloc (.cells #[.int .u8 0, .int .u64 0, .int .u64 0, .int .u64 0, .int .u64 0] 231)).drew) := hm1.drew.len 3
    have h12 : decide ((12 : Int) ≤ ks.length) = false := by simp; omega
    go_upto_region 7 with fail
    obtain ⟨V, hV⟩ : ∃ V, V = (W.alloc (.cells #[.int .u8 0, .int .u64 0, .int .u64 0, .int .u64 0, .int .u64 0] 231)).drew := ⟨_, rfl⟩
    rw [← hV] at hlen ⊢
    have hr2 : V.heap[w.heap.size + 2]? = some (.cells #[.int .u8 0, .int .u64 0, .int .u64 0] 40) := hV ▸ hr1
    have hk2 : V.heap[w.heap.size]? = some (.cells #[.int .u8 k.k0, .int .u8 k.k1, .int .u8 k.k2, .int .u8 k.k3, .int .u8 k.k4, .int .u8 k.k5, .int .u8 k.k6, .int .u8 k.k7] 56) := hV ▸ hk1
    have hs2 : V.heap[sb]? = some (.cells #[s0, s1, .int .u64 time, .map mp, adm] 119) := hV ▸ hs1
    have hq2 : V.heap[w1.heap.size]? = some (.cells #[.int .u8 kd, .int .u64 x, .int .u64 y, .int .u64 0, .int .u64 0] 231) := hV ▸ hq1
    have hm2 : MapX V mp ks := hV ▸ hm1.drew
    have hB2 : Below w.heap.size w V := hV ▸ hB1.drew
    clear hV hr1 hk1 hs1 hm1 hB1 b3 hq1
    have b3 := cellB hs2
    have b4 := cellB hk2
    have b5 := cellB hq2
    go_wp2_with (at_len; refine wpList_len_run _ (by rfl) _ _ (by rfl) _ (by rfl) _ hlen.out ?_)
    refine (bput sb s0 s1 adm time mp ks k _ hs2 hm2 hk ⟨kd, x, y, 0, 0⟩ (by omega)).mono ?_
    rintro e w4 ⟨rfl, b', e1, e2, e3, e4, e5⟩
    have hVs := hB2.size
    have lr2 := ltB hr2
    have hr4 := (e3.block _ lr2 (by rintro (h | h); omega; have := hmlt _ h; omega)).trans hr2
    have d1 := cellB hr4
    have d2 := frozenB hr4
    clear b3 b4 b5
    go_wp2
    refine bodyPost_ret (v := .agg #[.int .u8 1, .int .u64 0, .int .u64 0]) (by simp [results, Tryz.results102, go_sem, d1]) rfl ⟨rfl, b', ?_, ?_, ?_, ?_, e5⟩
    · repeat (refine (heapSetO (by omega) _ _).trans ?_)
      exact e1
    · refine e2.kept fun b hb => ?_
      have hne : b ≠ w.heap.size + 2 := by
        injection hb with hb; subst hb
        rcases e4 with h | h
        · have := hmlt _ h; omega
        · omega
      repeat (refine (heapSetO hne _ _).trans ?_)
      rfl
    · repeat (refine Keep.set ?_ (Or.inr (by omega)) _ _)
      exact (Keep.of_below hB2).trans e3
    · exact e4.imp id (fun h => by omega)

end Go.Proofs.YtlamgpeiolfffaaGreatDoor

namespace Go.Proofs.YtlamgpeiolfffaaGreatDoor
open Go.RowKit
variable [dK] [iK]

set_option maxRecDepth 100000 in
set_option maxHeartbeats 1000000 in
theorem qadmW_in (kd x y lv wn now n : Int) (w : World) (hl0 : 0 ≤ lv) (hn0 : 0 ≤ n) (hx1 : x ≤ 18446744073709551615) (h : lv + n ≤ x) :
    Calls Tryz.prog 137 #[.agg #[.int .u8 kd, .int .u64 x, .int .u64 y, .int .u64 lv, .int .u64 wn], .int .u64 now, .int .u64 n] w fun e w' =>
      e = .returned (.tuple #[.agg #[.int .u8 kd, .int .u64 x, .int .u64 y, .int .u64 (lv + n), .int .u64 wn], .agg #[.int .u8 2, .int .u64 (lv + n), .int .u64 wn]]) ∧ Below w.heap.size w w' := by
  go_enter Tryz.func137, Tryz.ntmps137
  go_wp2_with (go_at_call 141; refine (sum_room lv n _ hl0 hn0 (by omega)).mono ?_; rintro e w' ⟨rfl, rfl⟩)
  go_region_with (go_at_call 133; refine (qreply _ _ _ _ _ _ _).mono ?_; rintro e w1 ⟨rfl, rfl⟩)
  all_goals go_wp2
  all_goals exact bodyPost_ret (v := .tuple #[.agg #[.int .u8 kd, .int .u64 x, .int .u64 y, .int .u64 (lv + n), .int .u64 wn], .agg #[.int .u8 2, .int .u64 (lv + n), .int .u64 wn]]) (by simp [results, Tryz.results137, go_sem]) rfl ⟨rfl, ((((((Below.refl _ w).alloc (Nat.le_refl _) _).alloc (by simp <;> omega) _).alloc (by simp <;> omega) _).alloc (by simp <;> omega) _).alloc (by simp <;> omega) _).drew⟩

set_option maxRecDepth 100000 in
set_option maxHeartbeats 1000000 in
theorem qadmW_never (kd x y lv wn now n : Int) (w : World) (hl0 : 0 ≤ lv) (hl1 : lv ≤ 18446744073709551615) (hn0 : 0 ≤ n) (hn1 : n ≤ 18446744073709551615) (_hx1 : x ≤ 18446744073709551615) (h : x < lv + n) (hx : x < n) :
    Calls Tryz.prog 137 #[.agg #[.int .u8 kd, .int .u64 x, .int .u64 y, .int .u64 lv, .int .u64 wn], .int .u64 now, .int .u64 n] w fun e w' =>
      e = .returned (.tuple #[.agg #[.int .u8 kd, .int .u64 x, .int .u64 y, .int .u64 lv, .int .u64 wn], .agg #[.int .u8 3, .int .u64 18446744073709551615, .int .u64 0]]) ∧ Below w.heap.size w w' := by
  by_cases hs : lv + n ≤ 18446744073709551615
  · go_enter Tryz.func137, Tryz.ntmps137
    go_wp2_with (go_at_call 141; refine (sum_room lv n _ hl0 hn0 hs).mono ?_; rintro e w' ⟨rfl, rfl⟩)
    go_region_with (first | (go_at_call 142; refine (qnext_never _ _ _ _ _ _ _ hx).mono ?_; rintro e w1 ⟨rfl, rfl⟩) | (go_at_call 139; refine (qdenied _ _).mono ?_; rintro e w1 ⟨rfl, rfl⟩))
    all_goals go_wp2
    all_goals exact bodyPost_ret (v := .tuple #[.agg #[.int .u8 kd, .int .u64 x, .int .u64 y, .int .u64 lv, .int .u64 wn], .agg #[.int .u8 3, .int .u64 18446744073709551615, .int .u64 0]]) (by simp [results, Tryz.results137, go_sem]) rfl ⟨rfl, ((((((Below.refl _ w).alloc (Nat.le_refl _) _).alloc (by simp <;> omega) _).alloc (by simp <;> omega) _).alloc (by simp <;> omega) _).alloc (by simp <;> omega) _).drew⟩
  · go_enter Tryz.func137, Tryz.ntmps137
    go_wp2_with (go_at_call 141; refine (sum_none lv n _ hl0 hn0 hl1 hn1 (by omega)).mono ?_; rintro e w' ⟨rfl, rfl⟩)
    go_region_with (first | (go_at_call 142; refine (qnext_never _ _ _ _ _ _ _ hx).mono ?_; rintro e w1 ⟨rfl, rfl⟩) | (go_at_call 139; refine (qdenied _ _).mono ?_; rintro e w1 ⟨rfl, rfl⟩))
    all_goals go_wp2
    all_goals exact bodyPost_ret (v := .tuple #[.agg #[.int .u8 kd, .int .u64 x, .int .u64 y, .int .u64 lv, .int .u64 wn], .agg #[.int .u8 3, .int .u64 18446744073709551615, .int .u64 0]]) (by simp [results, Tryz.results137, go_sem]) rfl ⟨rfl, ((((((Below.refl _ w).alloc (Nat.le_refl _) _).alloc (by simp <;> omega) _).alloc (by simp <;> omega) _).alloc (by simp <;> omega) _).alloc (by simp <;> omega) _).drew⟩

set_option maxRecDepth 100000 in
set_option maxHeartbeats 1000000 in
theorem qadmW_next (kd x y lv wn now n : Int) (w : World) (hl0 : 0 ≤ lv) (hl1 : lv ≤ 18446744073709551615) (hn0 : 0 ≤ n) (hn1 : n ≤ 18446744073709551615) (_hx1 : x ≤ 18446744073709551615) (h : x < lv + n) (hx : n ≤ x) (p : Int) (hp : IntKind.u64.wrap (wn * y) = p) (hp0 : 0 ≤ p) (hp1 : p ≤ 18446744073709551615) (hy0 : 0 ≤ y) (hy1 : y ≤ 18446744073709551615) :
    Calls Tryz.prog 137 #[.agg #[.int .u8 kd, .int .u64 x, .int .u64 y, .int .u64 lv, .int .u64 wn], .int .u64 now, .int .u64 n] w fun e w' =>
      e = .returned (.tuple #[.agg #[.int .u8 kd, .int .u64 x, .int .u64 y, .int .u64 lv, .int .u64 wn], .agg #[.int .u8 3, .int .u64 (orNever (p + y)), .int .u64 0]]) ∧ Below w.heap.size w w' := by
  by_cases hs : lv + n ≤ 18446744073709551615
  · go_enter Tryz.func137, Tryz.ntmps137
    go_wp2_with (go_at_call 141; refine (sum_room lv n _ hl0 hn0 hs).mono ?_; rintro e w' ⟨rfl, rfl⟩)
    go_region_with (first | (go_at_call 142; refine (qnext_some _ _ _ _ _ _ p _ hx hp hp0 hp1 hy0 hy1).mono ?_; rintro e w1 ⟨rfl, rfl⟩) | (go_at_call 139; refine (qdenied _ _).mono ?_; rintro e w1 ⟨rfl, rfl⟩))
    all_goals go_wp2
    all_goals exact bodyPost_ret (v := .tuple #[.agg #[.int .u8 kd, .int .u64 x, .int .u64 y, .int .u64 lv, .int .u64 wn], .agg #[.int .u8 3, .int .u64 (orNever (p + y)), .int .u64 0]]) (by simp [results, Tryz.results137, go_sem]) rfl ⟨rfl, ((((((Below.refl _ w).alloc (Nat.le_refl _) _).alloc (by simp <;> omega) _).alloc (by simp <;> omega) _).alloc (by simp <;> omega) _).alloc (by simp <;> omega) _).drew⟩
  · go_enter Tryz.func137, Tryz.ntmps137
    go_wp2_with (go_at_call 141; refine (sum_none lv n _ hl0 hn0 hl1 hn1 (by omega)).mono ?_; rintro e w' ⟨rfl, rfl⟩)
    go_region_with (first | (go_at_call 142; refine (qnext_some _ _ _ _ _ _ p _ hx hp hp0 hp1 hy0 hy1).mono ?_; rintro e w1 ⟨rfl, rfl⟩) | (go_at_call 139; refine (qdenied _ _).mono ?_; rintro e w1 ⟨rfl, rfl⟩))
    all_goals go_wp2
    all_goals exact bodyPost_ret (v := .tuple #[.agg #[.int .u8 kd, .int .u64 x, .int .u64 y, .int .u64 lv, .int .u64 wn], .agg #[.int .u8 3, .int .u64 (orNever (p + y)), .int .u64 0]]) (by simp [results, Tryz.results137, go_sem]) rfl ⟨rfl, ((((((Below.refl _ w).alloc (Nat.le_refl _) _).alloc (by simp <;> omega) _).alloc (by simp <;> omega) _).alloc (by simp <;> omega) _).alloc (by simp <;> omega) _).drew⟩

end Go.Proofs.YtlamgpeiolfffaaGreatDoor

namespace Go.Proofs.YtlamgpeiolfffaaGreatDoor
open Go.RowKit
variable [dK] [iK]

set_option maxRecDepth 100000 in
set_option maxHeartbeats 1000000 in
theorem qadmS_in (kd x y lv wn now n : Int) (w : World) (hn0 : 0 ≤ n) (hn1 : n ≤ 18446744073709551615) (hx0 : 0 ≤ x) (hx1 : x ≤ 18446744073709551615) (hy0 : 0 ≤ y) (hy1 : y ≤ 18446744073709551615) (hl0 : 0 ≤ lv) (hl1 : lv ≤ 18446744073709551615) (ht0 : 0 ≤ now) (ht1 : now ≤ 18446744073709551615) (hne : n ≠ 0) (s p : Int) (hs : (if lv < now then now else lv) = s) (hp : n * x = p) (hp0 : 0 ≤ p) (h : s + p ≤ 18446744073709551615) (m need : Int) (hm : IntKind.u64.wrap (n - 1) = m) (hnd : IntKind.u64.wrap (m * x) = need) (hf : need ≤ y) (last : Int) (hlast : IntKind.u64.wrap (s + need) = last) (d : Int) (hd : orNever (now + y) = d) (hlt : last ≤ d) :
    Calls Tryz.prog 135 #[.agg #[.int .u8 kd, .int .u64 x, .int .u64 y, .int .u64 lv, .int .u64 wn], .int .u64 now, .int .u64 n] w fun e w' =>
      e = .returned (.tuple #[.agg #[.int .u8 kd, .int .u64 x, .int .u64 y, .int .u64 (s + p), .int .u64 wn], .agg #[.int .u8 2, .int .u64 (s + p), .int .u64 wn]]) ∧ Below w.heap.size w w' := by
  have hsn : ∀ w, Calls Tryz.prog 140 #[.int .u64 now, .int .u64 y] w fun e w' => e = .returned (.int .u64 d) ∧ w' = w := fun w => hd ▸ sumNever_any now y w ht0 hy0 ht1 hy1
  clear hd
  by_cases hgt : lv < now
  · rw [if_pos hgt] at hs
    subst hs
    go_enter Tryz.func135, Tryz.ntmps135
    go_wp2_with (first | (go_at_call 138; refine (qafter_room _ _ _ _ _ _ _ p _ hp hn0 hn1 hx0 hx1 (by omega) (by omega) hp0 h).mono ?_; rintro e w1 ⟨rfl, rfl⟩) | (go_at_call 140; refine (hsn _).mono ?_; rintro e w1 ⟨rfl, rfl⟩))
    go_region_with (go_at_call 133; refine (qreply _ _ _ _ _ _ _).mono ?_; rintro e w1 ⟨rfl, rfl⟩)
    all_goals go_wp2
    all_goals exact bodyPost_ret (v := .tuple #[.agg #[.int .u8 kd, .int .u64 x, .int .u64 y, .int .u64 (now + p), .int .u64 wn], .agg #[.int .u8 2, .int .u64 (now + p), .int .u64 wn]]) (by simp [results, Tryz.results135, go_sem]) rfl ⟨rfl, (((((((Below.refl _ w).alloc (Nat.le_refl _) _).alloc (by simp <;> omega) _).alloc (by simp <;> omega) _).alloc (by simp <;> omega) _).alloc (by simp <;> omega) _).alloc (by simp <;> omega) _).drew⟩
  · rw [if_neg hgt] at hs
    subst hs
    go_enter Tryz.func135, Tryz.ntmps135
    go_wp2_with (first | (go_at_call 138; refine (qafter_room _ _ _ _ _ _ _ p _ hp hn0 hn1 hx0 hx1 (by omega) (by omega) hp0 h).mono ?_; rintro e w1 ⟨rfl, rfl⟩) | (go_at_call 140; refine (hsn _).mono ?_; rintro e w1 ⟨rfl, rfl⟩))
    go_region_with (go_at_call 133; refine (qreply _ _ _ _ _ _ _).mono ?_; rintro e w1 ⟨rfl, rfl⟩)
    all_goals go_wp2
    all_goals exact bodyPost_ret (v := .tuple #[.agg #[.int .u8 kd, .int .u64 x, .int .u64 y, .int .u64 (lv + p), .int .u64 wn], .agg #[.int .u8 2, .int .u64 (lv + p), .int .u64 wn]]) (by simp [results, Tryz.results135, go_sem]) rfl ⟨rfl, (((((((Below.refl _ w).alloc (Nat.le_refl _) _).alloc (by simp <;> omega) _).alloc (by simp <;> omega) _).alloc (by simp <;> omega) _).alloc (by simp <;> omega) _).alloc (by simp <;> omega) _).drew⟩

end Go.Proofs.YtlamgpeiolfffaaGreatDoor

namespace Go.Proofs.YtlamgpeiolfffaaGreatDoor
open Go.RowKit
variable [dK] [iK]

set_option maxRecDepth 100000 in
theorem pick10 (c n : Int) (w : World) (hn : 0 < n) (hn1 : n ≤ 1000000000) (h0 : -9223372036854775808 ≤ c) (h1 : c ≤ 9223372036854775807) :
    Calls Tryz.prog 10 #[.int .i64 c, .int .i64 n] w fun e w' => e = .returned (.int .i64 (pickM c n)) ∧ w' = w := by
  have hnz : ¬ n = 0 := by omega
  by_cases h : c < 0
  · have e : pickM c n = -((c + 1).tmod n) := by unfold pickM; rw [if_pos h, ← Int.neg_tmod, Int.tmod_eq_emod_of_nonneg (by omega)]
    have k1 : IntKind.i64.wrap (c + 1) = c + 1 := by rw [IntKind.wrap_i64]; omega
    have k2 : IntKind.i64.wrap (-(c + 1)) = -(c + 1) := by rw [IntKind.wrap_i64]; omega
    rw [e]
    clear e
    go_enter Tryz.func10, Tryz.ntmps10
    go_wp2
    go_ret
    exact ⟨rfl, rfl⟩
  · have e : pickM c n = c % n := by unfold pickM; rw [if_neg h]
    rw [e]
    clear e
    go_enter Tryz.func10, Tryz.ntmps10
    go_wp2
    go_ret
    exact ⟨rfl, rfl⟩
theorem pickM_ok (c n : Int) (hn : 0 < n) : 0 ≤ pickM c n ∧ pickM c n < n := by
  unfold pickM
  exact ⟨Int.emod_nonneg _ (by omega), Int.emod_lt_of_pos _ hn⟩

set_option maxRecDepth 100000 in
theorem is17 (hb sb : Nat) (dv cv bv : Value) (w : World) (hh : w.heap[hb]? = some (.cells #[dv, .pointer (some ⟨sb, 0, none⟩), cv, bv] 75)) :
    Calls Tryz.prog 17 #[.pointer (some ⟨hb, 0, none⟩)] w fun e w' => e = .returned (.bool true) ∧ w' = w := by
  have a1 := cellB hh
  go_enter Tryz.func17, Tryz.ntmps17
  go_wp2
  go_ret
  exact ⟨rfl, rfl⟩

set_option maxRecDepth 100000 in
theorem hostadmitted34 (hb sb : Nat) (dv cv bv s0 s1 s2 s3 : Value) (x : Int) (w : World) (hh : w.heap[hb]? = some (.cells #[dv, .pointer (some ⟨sb, 0, none⟩), cv, bv] 75)) (hs : w.heap[sb]? = some (.cells #[s0, s1, s2, s3, .int .u64 x] 119)) :
    Calls Tryz.prog 34 #[.pointer (some ⟨hb, 0, none⟩)] w fun e w' => e = .returned (.int .u64 x) ∧ w' = w := by
  have a1 := cellB hh
  go_enter Tryz.func34, Tryz.ntmps34
  go_wp2_with (go_at_call 54; refine (admitted54 sb s0 s1 s2 s3 x _ hs).mono ?_; rintro e w' ⟨rfl, rfl⟩)
  go_ret
  exact ⟨rfl, rfl⟩

/-- The policy of raw numbers. -/
def polM (kind x y : Int) : Int × Int × Int := if pickM kind 2 = 1 then (2, pickM x 20, 1 + pickM y 100) else (1, 1 + pickM x 50, pickM y 200)

set_option maxRecDepth 100000 in
set_option maxHeartbeats 1000000 in
theorem policy12 (kind x y : Int) (w : World) (k0 : -9223372036854775808 ≤ kind) (k1 : kind ≤ 9223372036854775807) (x0 : -9223372036854775808 ≤ x) (x1 : x ≤ 9223372036854775807) (y0 : -9223372036854775808 ≤ y) (y1 : y ≤ 9223372036854775807) (p : Int × Int × Int) (hp : p = polM kind x y) :
    Calls Tryz.prog 12 #[.int .i64 kind, .int .i64 x, .int .i64 y] w fun e w' => e = .returned (.agg #[.int .u8 p.1, .int .u64 p.2.1, .int .u64 p.2.2]) ∧ Below w.heap.size w w' := by
  have hk := fun w => pick10 kind 2 w (by omega) (by omega) k0 k1
  have hx := fun w => pick10 x 50 w (by omega) (by omega) x0 x1
  have hy := fun w => pick10 y 200 w (by omega) (by omega) y0 y1
  have hx' := fun w => pick10 x 20 w (by omega) (by omega) x0 x1
  have hy' := fun w => pick10 y 100 w (by omega) (by omega) y0 y1
  have r1 := pickM_ok x 50 (by omega)
  have r2 := pickM_ok y 200 (by omega)
  have r3 := pickM_ok x 20 (by omega)
  have r4 := pickM_ok y 100 (by omega)
  unfold polM at hp
  generalize pickM kind 2 = K at *
  generalize pickM x 50 = X at *
  generalize pickM y 200 = Y at *
  generalize pickM x 20 = X' at *
  generalize pickM y 100 = Y' at *
  have u1 : IntKind.u64.wrap (1 + X) = 1 + X := by rw [IntKind.wrap_u64]; omega
  have u2 : IntKind.u64.wrap Y = Y := by rw [IntKind.wrap_u64]; omega
  have u3 : IntKind.u64.wrap X' = X' := by rw [IntKind.wrap_u64]; omega
  have u4 : IntKind.u64.wrap (1 + Y') = 1 + Y' := by rw [IntKind.wrap_u64]; omega
  have HK := hide hk
  have HX := hide hx
  have HY := hide hy
  have HX' := hide hx'
  have HY' := hide hy'
  clear hk hx hy hx' hy'
  by_cases h : K = 1
  · rw [if_pos h] at hp
    subst hp
    subst h
    go_enter Tryz.func12, Tryz.ntmps12
    go_wp2_with fail
    refine (HX.out _).mono ?_
    rintro e w1 ⟨rfl, rfl⟩
    go_wp2_with fail
    refine (HY.out _).mono ?_
    rintro e w1 ⟨rfl, rfl⟩
    go_wp2_with fail
    refine (HK.out _).mono ?_
    rintro e w1 ⟨rfl, rfl⟩
    go_wp2_with fail
    refine (HX'.out _).mono ?_
    rintro e w1 ⟨rfl, rfl⟩
    go_wp2_with fail
    refine (HY'.out _).mono ?_
    rintro e w1 ⟨rfl, rfl⟩
    go_wp2
    exact bodyPost_ret (v := .agg #[.int .u8 2, .int .u64 X', .int .u64 (1 + Y')]) (by simp [results, Tryz.results12, go_sem]) rfl ⟨rfl, ((Below.refl _ w).alloc (Nat.le_refl _) _).alloc (by simp) _⟩
  · rw [if_neg h] at hp
    subst hp
    have h' : (K == 1) = false := by simpa using h
    go_enter Tryz.func12, Tryz.ntmps12
    go_wp2_with fail
    refine (HX.out _).mono ?_
    rintro e w1 ⟨rfl, rfl⟩
    go_wp2_with fail
    refine (HY.out _).mono ?_
    rintro e w1 ⟨rfl, rfl⟩
    go_wp2_with fail
    refine (HK.out _).mono ?_
    rintro e w1 ⟨rfl, rfl⟩
    go_wp2
    exact bodyPost_ret (v := .agg #[.int .u8 1, .int .u64 (1 + X), .int .u64 Y]) (by simp [results, Tryz.results12, go_sem]) rfl ⟨rfl, ((Below.refl _ w).alloc (Nat.le_refl _) _).alloc (by simp) _⟩
end Go.Proofs.YtlamgpeiolfffaaGreatDoor
