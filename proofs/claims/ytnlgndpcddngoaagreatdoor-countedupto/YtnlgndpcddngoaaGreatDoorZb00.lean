import Derived.Test.YtnlgndpcddngoaaGreatDoorZa00
import Derived.Test.YtnlgndpcddngoaaGreatDoorZa12
import Derived.BigRegion
import Derived.RegionTactic
import Derived.BigQuiet
import Derived.Test.YtnlgndpcddngoaaGreatDoorZa21
import Derived.Deep.AppendLies
import Derived.Laws.StructEq
import Derived.Test.YtnlgndpcddngoaaGreatDoorZa33
namespace Go.Proofs.YtnlgndpcddngoaaGreatDoor
open Go.RowKit

set_option maxHeartbeats 400000 in
theorem size_any (op : Int) (w : World) :
    Calls Tryz.prog 83 #[.int .u8 op] w fun e w' => e = .returned (.int .i64 (reqLen op)) ∧ w' = w := by
  by_cases h1 : op = 1
  · subst h1
    go_enter Tryz.func83, Tryz.ntmps83
    go_wp2
    go_ret
    exact ⟨rfl, rfl⟩
  by_cases h2 : op = 2
  · subst h2
    go_enter Tryz.func83, Tryz.ntmps83
    go_wp2
    go_ret
    exact ⟨rfl, rfl⟩
  by_cases h3 : op = 3
  · subst h3
    go_enter Tryz.func83, Tryz.ntmps83
    go_wp2
    go_ret
    exact ⟨rfl, rfl⟩
  by_cases h4 : op = 4
  · subst h4
    go_enter Tryz.func83, Tryz.ntmps83
    go_wp2
    go_ret
    exact ⟨rfl, rfl⟩
  by_cases h5 : op = 5
  · subst h5
    go_enter Tryz.func83, Tryz.ntmps83
    go_wp2
    go_ret
    exact ⟨rfl, rfl⟩
  by_cases h6 : op = 6
  · subst h6
    go_enter Tryz.func83, Tryz.ntmps83
    go_wp2
    go_ret
    exact ⟨rfl, rfl⟩
  have e : reqLen op = 0 := by simp [reqLen, h1, h2, h3, h4, h5, h6]
  rw [e]
  have b1 : (op == 1) = false := by simpa using h1
  have b2 : (op == 2) = false := by simpa using h2
  have b3 : (op == 3) = false := by simpa using h3
  have b4 : (op == 4) = false := by simpa using h4
  have b5 : (op == 5) = false := by simpa using h5
  have b6 : (op == 6) = false := by simpa using h6
  clear h1 h2 h3 h4 h5 h6 e
  go_enter Tryz.func83, Tryz.ntmps83
  go_wp2
  go_ret
  exact ⟨rfl, rfl⟩


theorem div_step (n : Int) (j : Nat) : n / 256 ^ j / 256 = n / 256 ^ (j + 1) := by
  rw [Int.ediv_ediv_of_nonneg (Int.pow_nonneg (by omega)), Int.pow_succ]
theorem nb_eq (n : Int) (j : Nat) (hj : j < 8) : n / 256 ^ (7 - j) % 256 = n / 2 ^ (56 - 8 * j) % 256 := by
  match j, hj with
  | 0, _ => rfl
  | 1, _ => rfl
  | 2, _ => rfl
  | 3, _ => rfl
  | 4, _ => rfl
  | 5, _ => rfl
  | 6, _ => rfl
  | 7, _ => rfl

set_option maxRecDepth 100000 in
set_option maxHeartbeats 1000000 in
theorem refnum_any (v : Value) (k base : Nat) (xs : List Value) (n : Int) (w : World) (hown : w.ownsRow base 5 1 v k xs) (hb : base ≤ w.heap.size) (hk : k ≤ 1000) (hn0 : 0 ≤ n) (hn1 : n ≤ 18446744073709551615) :
    Calls Tryz.prog 84 #[v, .int .u64 n] w fun e w' => ∃ v', e = .returned v' ∧ w'.ownsRow base 5 1 v' (k + 8) (xs ++ (be8 n).map (Value.int .u8)) ∧ Below base w w' := by
  obtain ⟨i0, hi, hz0, hz1, hz2⟩ := info_parts Tryz.info5
  go_enter Tryz.func84, Tryz.ntmps84
  go_wp2
  go_loopw [0, 5] (fun b s wr => ∃ j : Nat, j ≤ 8 ∧ s = .int .i64 (7 - (j : Int)) ∧ wr.ownsRow base 5 1 b (k + j) (xs ++ ((be8 n).take j).map (Value.int .u8)) ∧ Below base w wr) (fun _ s _ => (intOf s + 1).toNat)
  case atStart => exact ⟨0, Nat.zero_le _, rfl, by simpa using hown, Below.refl _ _⟩
  case round =>
    obtain ⟨j, hj, rfl, hownr, hBr⟩ := hrel
    by_cases hlt : j < 8
    · have hd : decide ((j : Int) ≤ 7) = true := by simp; omega
      go_wp2
      go_loop [6, 7] (fun b kk => ∃ (m : Nat) (bv : Int), m ≤ 7 - j ∧ kk = .int .i64 m ∧ b = .int .u64 bv ∧ 0 ≤ bv ∧ bv ≤ 18446744073709551615 ∧ Hid (bv = n / 256 ^ m)) (fun _ kk => (7 - j) - (intOf kk).toNat)
      case atStart => exact ⟨0, n, Nat.zero_le _, rfl, rfl, hn0, hn1, by show n = n / 256 ^ 0; simp⟩
      case round =>
        obtain ⟨m, bv, hm, rfl, rfl, hb0, hb1, HV⟩ := hrel
        by_cases hml : m < 7 - j
        · go_wp2
          go_round
          case rel => exact ⟨m + 1, bv / 256, by omega, by go_num, rfl, by omega, by omega, by show bv / 256 = n / 256 ^ (m + 1); rw [HV.out, div_step]⟩
          case measure => simp [intOf]; omega
        · obtain rfl : m = 7 - j := by omega
          have HB : Hid (bv % 256 = n / 2 ^ (56 - 8 * j) % 256) := by show _ = _; rw [HV.out, nb_eq n j hlt]
          clear HV
          go_wp2_with (at_builtin; refine wpList_append_own _ rfl _ _ 76 rfl base 5 i0 (.int .u8 0) 1 1 Tryz.underlying76 hi hz0 hz1 hz2 rfl (by decide) u0 (k + j) _ rfl (hownr.alloc _) ⟨wr.heap.size, 0, none⟩ 1 1 [.int .u8 (bv % 256)] rfl rfl (cell_one_new _ _ _) (by simp [Value.oneCell']) (by unfold maxLen; omega) (by omega) (by have := hBr.size; simp; omega) ?_; intro v2 w2 hown2 hgrow2 _)
          go_roundw
          case rel => exact ⟨j + 1, by omega, by go_num, by rw [be8_take n j hlt, ← HB.out]; simpa [Nat.add_assoc] using hown2, (hBr.alloc (by have := hBr.size; omega) _).grown hgrow2 (by have := hBr.size; simp; omega) (fun kk hkk => (hownr.lt kk hkk).1)⟩
          case measure => simp [intOf]; omega
    · obtain rfl : j = 8 := by omega
      go_wp2
      go_ret
      exact ⟨_, rfl, hownr, hBr⟩
end Go.Proofs.YtnlgndpcddngoaaGreatDoor

namespace Go.Proofs.YtnlgndpcddngoaaGreatDoor
open Go.RowKit

set_option maxRecDepth 100000 in
set_option maxHeartbeats 400000 in
theorem refread (g o m cap : Nat) (c : Nat → Int) (w : World) (hm : 8 ≤ m) (hm1 : m ≤ 1048576) (hc : ∀ j, j < 8 → w.cell? ⟨g, o + j, none⟩ = some (.int .u8 (c j))) (hr : ∀ j, 0 ≤ c j ∧ c j ≤ 255) :
    Calls Tryz.prog 86 #[.slice (some ⟨g, o, none⟩) m cap] w fun e w' => e = .returned (.int .u64 (rdTo c 8)) ∧ w' = w := by
  go_enter Tryz.func86, Tryz.ntmps86
  go_wp2
  go_loop [3, 4] (fun v i => ∃ (j : Nat) (x : Int), j ≤ 8 ∧ i = .int .i64 j ∧ v = .int .u64 x ∧ 0 ≤ x ∧ (j < 8 → x < 72057594037927936) ∧ Hid (x = rdTo c j)) (fun _ i => 8 - (intOf i).toNat)
  case atStart => exact ⟨0, 0, by omega, rfl, rfl, by omega, by omega, by show (0 : Int) = 0; rfl⟩
  case round =>
    obtain ⟨j, x, hj, rfl, rfl, hx0, hx1, HX⟩ := hrel
    by_cases hlt : j < 8
    · have hcj := hc j hlt
      have hrj := hr j
      have hxb := hx1 hlt
      have hjm : j < m := by omega

      have HC := hide hr
      clear hx1 hr
      go_wp2
      go_round
      case rel => exact ⟨j + 1, rdTo c (j + 1), by omega, by go_num, int_u64 (by rw [HX.out]; rfl), (rdTo_bound c HC.out (j + 1)).1, fun h => by have := (rdTo_lt c HC.out (j + 1) h).2; omega, rfl⟩
      case measure => simp [intOf]; omega
    · obtain rfl : j = 8 := by omega
      go_wp2
      go_ret
      exact ⟨by rw [← HX.out]; rfl, rfl⟩
end Go.Proofs.YtnlgndpcddngoaaGreatDoor

namespace Go.Proofs.YtnlgndpcddngoaaGreatDoor
open Go.RowKit

/-- How memory stands while the document's reader reads. -/
structure St2 (w W : World) (g : Nat) (rc : Array Value) : Prop where
  r : ∀ j, W.cell? ⟨w.heap.size + 1, j, none⟩ = rc[j]?
  rf : ∀ j, W.frozen? ⟨w.heap.size + 1, j, none⟩ = false
  R : ∀ j, W.cell? ⟨w.heap.size, j, none⟩ = (#[.int .u8 0, .int .u8 0, .int .u8 0, .int .u8 0, .int .u8 0, .int .u8 0, .int .u8 0, .int .u8 0, .int .u8 0, .int .u8 0, .int .u64 0, .int .u64 0, .int .u64 0] : Array Value)[j]?
  Rf : ∀ j, W.frozen? ⟨w.heap.size, j, none⟩ = false
  G : ∀ j, W.cell? ⟨g, j, none⟩ = w.cell? ⟨g, j, none⟩
  B : Below w.heap.size w W
  hg : g < w.heap.size

theorem St2.setr {w W : World} {g : Nat} {rc : Array Value} (S : St2 w W g rc) (i : Nat) (hi : i < rc.size) (u : Value) : St2 w (W.setCell ⟨w.heap.size + 1, i, none⟩ u) g (rc.setIfInBounds i u) := by
  have hg := S.hg
  refine ⟨fun j => ?_, fun j => ?_, fun j => ?_, fun j => ?_, fun j => ?_, S.B.setCell (by show _ ≤ w.heap.size + 1; omega) _, S.hg⟩
  · by_cases h : j = i
    · subst h
      have hj := S.r j
      rw [Array.getElem?_eq_getElem hi] at hj
      rw [World.cell?_setCell_same W _ _ hj, Array.getElem?_setIfInBounds, if_pos rfl, if_pos hi]
    · have hne : ¬ i = j := fun e => h e.symm
      rw [Array.getElem?_setIfInBounds, if_neg hne, ← S.r j]
      exact World.cell?_setCell_other W _ _ _ (by intro e; injection e with _ e2 _; exact hne e2)
  · rw [World.frozen?_setCell]; exact S.rf j
  · rw [cell_off _ _ _ _ _ _ (by omega)]; exact S.R j
  · rw [frozen_off _ _ _ _ _ _ (by omega)]; exact S.Rf j
  · rw [cell_off _ _ _ _ _ _ (by omega)]; exact S.G j

theorem St2.start (w : World) (g : Nat) (hg : g < w.heap.size) (c : Array Value) : St2 w ((w.alloc (.cells #[.int .u8 0, .int .u8 0, .int .u8 0, .int .u8 0, .int .u8 0, .int .u8 0, .int .u8 0, .int .u8 0, .int .u8 0, .int .u8 0, .int .u64 0, .int .u64 0, .int .u64 0] 65)).alloc (.cells c 65)) g c := by
  refine ⟨fun j => ?_, fun j => by simp, fun j => ?_, fun j => ?_, fun j => ?_, ((Below.refl _ w).alloc (Nat.le_refl _) _).alloc (by simp) _, hg⟩
  · exact World.cell?_alloc_at _ _ _ _ (by simp)
  · rw [World.cell?_alloc_past _ _ _ (by simp)]; exact cell_box w _ _ j
  · rw [World.frozen?_alloc_past _ _ _ (by simp)]; simp
  · rw [World.cell?_alloc_past _ _ _ (by simp; omega), World.cell?_alloc_past _ _ _ hg]

def keyArr (op : Int) (b : Nat → Int) (j : Nat) : Array Value := #[.int .u8 op, .int .u8 (if 0 < j then b 2 else 0), .int .u8 (if 1 < j then b 3 else 0), .int .u8 (if 2 < j then b 4 else 0), .int .u8 (if 3 < j then b 5 else 0), .int .u8 (if 4 < j then b 6 else 0), .int .u8 (if 5 < j then b 7 else 0), .int .u8 (if 6 < j then b 8 else 0), .int .u8 (if 7 < j then b 9 else 0), .int .u8 0, .int .u64 0, .int .u64 0, .int .u64 0]
theorem keyArr_step (op : Int) (b : Nat → Int) (j : Nat) (hj : j < 8) : (keyArr op b j).setIfInBounds (1 + j) (.int .u8 (b (2 + j))) = keyArr op b (j + 1) := by
  match j, hj with
  | 0, _ => rfl
  | 1, _ => rfl
  | 2, _ => rfl
  | 3, _ => rfl
  | 4, _ => rfl
  | 5, _ => rfl
  | 6, _ => rfl
  | 7, _ => rfl
theorem keyArr_zero (op : Int) (b : Nat → Int) : keyArr op b 0 = #[.int .u8 op, .int .u8 0, .int .u8 0, .int .u8 0, .int .u8 0, .int .u8 0, .int .u8 0, .int .u8 0, .int .u8 0, .int .u8 0, .int .u64 0, .int .u64 0, .int .u64 0] := rfl
theorem keyArr_eight (op : Int) (b : Nat → Int) : keyArr op b 8 = #[.int .u8 op, .int .u8 (b 2), .int .u8 (b 3), .int .u8 (b 4), .int .u8 (b 5), .int .u8 (b 6), .int .u8 (b 7), .int .u8 (b 8), .int .u8 (b 9), .int .u8 0, .int .u64 0, .int .u64 0, .int .u64 0] := rfl
end Go.Proofs.YtnlgndpcddngoaaGreatDoor

namespace Go.Proofs.YtnlgndpcddngoaaGreatDoor
open Go.RowKit

set_option maxRecDepth 100000 in
set_option maxHeartbeats 1000000 in
theorem rr18_nil (ao : Option Addr) (cap : Nat) (w : World)  :
    Calls Tryz.prog 56 #[.slice ao 0 cap] w fun e w' => e = .returned (.tuple #[.agg #[.int .u8 0, .int .u64 0, .int .u64 0], .int .i64 0, .int .i64 1]) ∧ Below w.heap.size w w' := by
  go_enter Tryz.func56, Tryz.ntmps56
  go_wp2
  refine bodyPost_ret (v := .tuple #[.agg #[.int .u8 0, .int .u64 0, .int .u64 0], .int .i64 0, .int .i64 1]) (by simp [results, Tryz.results56, go_sem]) rfl ⟨rfl, ?_⟩
  exact (Below.refl _ w).alloc (Nat.le_refl _) _

set_option maxRecDepth 100000 in
set_option maxHeartbeats 1000000 in
theorem rr18_head (g so n cap : Nat) (b0 : Int) (w : World) (hn : 0 < n) (hg : g < w.heap.size) (hc0 : w.cell? ⟨g, so, none⟩ = some (.int .u8 b0)) (h0 : ¬ b0 = 17) :
    Calls Tryz.prog 56 #[.slice (some ⟨g, so, none⟩) n cap] w fun e w' => e = .returned (.tuple #[.agg #[.int .u8 0, .int .u64 0, .int .u64 0], .int .i64 0, .int .i64 2]) ∧ Below w.heap.size w w' := by
  have hn0 : (0 : Int) < n := by omega
  have hnd : decide ((0 : Int) < n) = true := by simpa using hn0
  have hc0' : ∀ o1, (w.alloc o1).cell? ⟨g, so, none⟩ = some (.int .u8 b0) := fun o1 => by rw [World.cell?_alloc_past _ _ _ hg]; exact hc0
  have hz : (b0 != 17) = true := by simpa using h0
  go_enter Tryz.func56, Tryz.ntmps56
  go_wp2
  refine bodyPost_ret (v := .tuple #[.agg #[.int .u8 0, .int .u64 0, .int .u64 0], .int .i64 0, .int .i64 2]) (by simp [results, Tryz.results56, go_sem]) rfl ⟨rfl, ?_⟩
  exact (Below.refl _ w).alloc (Nat.le_refl _) _

set_option maxRecDepth 100000 in
set_option maxHeartbeats 1000000 in
theorem rr18_one (g so n cap : Nat) (b0 : Int) (w : World) (hn : 0 < n) (hg : g < w.heap.size) (hc0 : w.cell? ⟨g, so, none⟩ = some (.int .u8 b0)) (h0 : b0 = 17) (hn1 : n = 1) :
    Calls Tryz.prog 56 #[.slice (some ⟨g, so, none⟩) n cap] w fun e w' => e = .returned (.tuple #[.agg #[.int .u8 0, .int .u64 0, .int .u64 0], .int .i64 0, .int .i64 1]) ∧ Below w.heap.size w w' := by
  have hn0 : (0 : Int) < n := by omega
  have hnd : decide ((0 : Int) < n) = true := by simpa using hn0
  have hc0' : ∀ o1, (w.alloc o1).cell? ⟨g, so, none⟩ = some (.int .u8 b0) := fun o1 => by rw [World.cell?_alloc_past _ _ _ hg]; exact hc0
  subst h0
  have _ := hn
  have hn2 : decide ((1 : Int) < n) = false := by simp; omega
  have hlt : decide ((n : Int) < 18) = true := by simp; omega
  go_enter Tryz.func56, Tryz.ntmps56
  go_wp2
  refine bodyPost_ret (v := .tuple #[.agg #[.int .u8 0, .int .u64 0, .int .u64 0], .int .i64 0, .int .i64 1]) (by simp [results, Tryz.results56, go_sem]) rfl ⟨rfl, ?_⟩
  exact (Below.refl _ w).alloc (Nat.le_refl _) _

set_option maxRecDepth 100000 in
set_option maxHeartbeats 1000000 in
theorem rr18_low (g so n cap : Nat) (b0 : Int) (w : World) (hn : 0 < n) (hg : g < w.heap.size) (hc0 : w.cell? ⟨g, so, none⟩ = some (.int .u8 b0)) (h0 : b0 = 17) (hn1 : 1 < n) (b1 : Int) (hc1 : w.cell? ⟨g, so + 1, none⟩ = some (.int .u8 b1)) (hlo : b1 < 1) :
    Calls Tryz.prog 56 #[.slice (some ⟨g, so, none⟩) n cap] w fun e w' => e = .returned (.tuple #[.agg #[.int .u8 0, .int .u64 0, .int .u64 0], .int .i64 0, .int .i64 2]) ∧ Below w.heap.size w w' := by
  have hn0 : (0 : Int) < n := by omega
  have hnd : decide ((0 : Int) < n) = true := by simpa using hn0
  have hc0' : ∀ o1, (w.alloc o1).cell? ⟨g, so, none⟩ = some (.int .u8 b0) := fun o1 => by rw [World.cell?_alloc_past _ _ _ hg]; exact hc0
  subst h0
  have hn2 : decide ((1 : Int) < n) = true := by simp; omega
  have hnI : (1 : Int) < n := by omega
  have hc1' : ∀ o1, (w.alloc o1).cell? ⟨g, so + 1, none⟩ = some (.int .u8 b1) := fun o1 => by rw [World.cell?_alloc_past _ _ _ hg]; exact hc1
  have hd1 : decide (b1 < 1) = true := by simpa using hlo
  go_enter Tryz.func56, Tryz.ntmps56
  go_wp2
  refine bodyPost_ret (v := .tuple #[.agg #[.int .u8 0, .int .u64 0, .int .u64 0], .int .i64 0, .int .i64 2]) (by simp [results, Tryz.results56, go_sem]) rfl ⟨rfl, ?_⟩
  exact (Below.refl _ w).alloc (Nat.le_refl _) _

set_option maxRecDepth 100000 in
set_option maxHeartbeats 1000000 in
theorem rr18_high (g so n cap : Nat) (b0 : Int) (w : World) (hn : 0 < n) (hg : g < w.heap.size) (hc0 : w.cell? ⟨g, so, none⟩ = some (.int .u8 b0)) (h0 : b0 = 17) (hn1 : 1 < n) (b1 : Int) (hc1 : w.cell? ⟨g, so + 1, none⟩ = some (.int .u8 b1)) (hlo : ¬ b1 < 1) (hhi : 9 < b1) :
    Calls Tryz.prog 56 #[.slice (some ⟨g, so, none⟩) n cap] w fun e w' => e = .returned (.tuple #[.agg #[.int .u8 0, .int .u64 0, .int .u64 0], .int .i64 0, .int .i64 2]) ∧ Below w.heap.size w w' := by
  have hn0 : (0 : Int) < n := by omega
  have hnd : decide ((0 : Int) < n) = true := by simpa using hn0
  have hc0' : ∀ o1, (w.alloc o1).cell? ⟨g, so, none⟩ = some (.int .u8 b0) := fun o1 => by rw [World.cell?_alloc_past _ _ _ hg]; exact hc0
  subst h0
  have hn2 : decide ((1 : Int) < n) = true := by simp; omega
  have hnI : (1 : Int) < n := by omega
  have hc1' : ∀ o1, (w.alloc o1).cell? ⟨g, so + 1, none⟩ = some (.int .u8 b1) := fun o1 => by rw [World.cell?_alloc_past _ _ _ hg]; exact hc1
  have hd1 : decide (b1 < 1) = false := by simpa using hlo
  have hd2 : decide (9 < b1) = true := by simpa using hhi
  go_enter Tryz.func56, Tryz.ntmps56
  go_wp2
  refine bodyPost_ret (v := .tuple #[.agg #[.int .u8 0, .int .u64 0, .int .u64 0], .int .i64 0, .int .i64 2]) (by simp [results, Tryz.results56, go_sem]) rfl ⟨rfl, ?_⟩
  exact (Below.refl _ w).alloc (Nat.le_refl _) _

set_option maxRecDepth 100000 in
set_option maxHeartbeats 1000000 in
theorem rr18_short (g so n cap : Nat) (b0 : Int) (w : World) (hn : 0 < n) (hg : g < w.heap.size) (hc0 : w.cell? ⟨g, so, none⟩ = some (.int .u8 b0)) (h0 : b0 = 17) (hn1 : 1 < n) (b1 : Int) (hc1 : w.cell? ⟨g, so + 1, none⟩ = some (.int .u8 b1)) (hlo : ¬ b1 < 1) (hhi : ¬ 9 < b1) (hs : n < 18) :
    Calls Tryz.prog 56 #[.slice (some ⟨g, so, none⟩) n cap] w fun e w' => e = .returned (.tuple #[.agg #[.int .u8 0, .int .u64 0, .int .u64 0], .int .i64 0, .int .i64 1]) ∧ Below w.heap.size w w' := by
  have hn0 : (0 : Int) < n := by omega
  have hnd : decide ((0 : Int) < n) = true := by simpa using hn0
  have hc0' : ∀ o1, (w.alloc o1).cell? ⟨g, so, none⟩ = some (.int .u8 b0) := fun o1 => by rw [World.cell?_alloc_past _ _ _ hg]; exact hc0
  subst h0
  have hn2 : decide ((1 : Int) < n) = true := by simp; omega
  have hnI : (1 : Int) < n := by omega
  have hc1' : ∀ o1, (w.alloc o1).cell? ⟨g, so + 1, none⟩ = some (.int .u8 b1) := fun o1 => by rw [World.cell?_alloc_past _ _ _ hg]; exact hc1
  have hd1 : decide (b1 < 1) = false := by simpa using hlo
  have hd2 : decide (9 < b1) = false := by simpa using hhi
  have hlt : decide ((n : Int) < 18) = true := by simp; omega
  go_enter Tryz.func56, Tryz.ntmps56
  go_wp2
  refine bodyPost_ret (v := .tuple #[.agg #[.int .u8 0, .int .u64 0, .int .u64 0], .int .i64 0, .int .i64 1]) (by simp [results, Tryz.results56, go_sem]) rfl ⟨rfl, ?_⟩
  exact (Below.refl _ w).alloc (Nat.le_refl _) _

set_option maxRecDepth 100000 in
set_option maxHeartbeats 1000000 in
theorem rr18_ok (g so n cap : Nat) (b : Nat → Int) (w : World) (hn : 18 ≤ n) (hnc : n ≤ cap) (hn1 : n ≤ 1048576) (hg : g < w.heap.size) (hb : ∀ j, j < n → w.cell? ⟨g, so + j, none⟩ = some (.int .u8 (b j))) (hr : ∀ j, 0 ≤ b j ∧ b j ≤ 255) (hb0 : b 0 = 17) (hlo : ¬ b 1 < 1) (hhi : ¬ 9 < b 1) :
    Calls Tryz.prog 56 #[.slice (some ⟨g, so, none⟩) n cap] w fun e w' => e = .returned (.tuple #[.agg #[.int .u8 (b 1), .int .u64 (rdTo (fun j => b (2 + j)) 8), .int .u64 (rdTo (fun j => b (10 + j)) 8)], .int .i64 18, .int .i64 0]) ∧ Below w.heap.size w w' := by
  have hn0 : (0 : Int) < n := by omega
  have hnd : decide ((0 : Int) < n) = true := by simpa using hn0
  have hn2 : decide ((1 : Int) < n) = true := by simp; omega
  have hnI : (1 : Int) < n := by omega
  have hnI2 : (2 : Int) ≤ n := by omega
  have hnI10 : (10 : Int) ≤ n := by omega
  have hncI : (n : Int) ≤ cap := by omega
  have hcap : ¬ cap = 2 := by omega
  have hcap2 : ¬ cap = 10 := by omega
  have hlt : decide ((n : Int) < 18) = false := by simp; omega
  have hd1 : decide (b 1 < 1) = false := by simpa using hlo
  have hd2 : decide (9 < b 1) = false := by simpa using hhi
  have hcj : ∀ o1 j, j < n → (w.alloc o1).cell? ⟨g, so + j, none⟩ = some (.int .u8 (b j)) := fun o1 j hj => by rw [World.cell?_alloc_past _ _ _ hg]; exact hb j hj
  have HC := hide hcj
  have HR := hide hr
  have hc0' : ∀ o1, (w.alloc o1).cell? ⟨g, so, none⟩ = some (.int .u8 17) := fun o1 => (hcj o1 0 (by omega)).trans (by rw [hb0])
  have hc1' : ∀ o1, (w.alloc o1).cell? ⟨g, so + 1, none⟩ = some (.int .u8 (b 1)) := fun o1 => hcj o1 1 (by omega)
  clear hb hr hcj hb0
  go_enter Tryz.func56, Tryz.ntmps56
  go_wp2_with fail
  refine (refread g (so + 2) (n - 2) (cap - 2) (fun j => b (2 + j)) _ (by omega) (by omega) (fun j hj => by rw [Nat.add_assoc]; exact HC.out _ (2 + j) (by omega)) (fun j => HR.out (2 + j))).mono ?_
  rintro e w' ⟨rfl, rfl⟩
  go_wp2_with fail
  refine (refread g (so + 10) (n - 10) (cap - 10) (fun j => b (10 + j)) _ (by omega) (by omega) (fun j hj => by rw [Nat.add_assoc]; exact HC.out _ (10 + j) (by omega)) (fun j => HR.out (10 + j))).mono ?_
  rintro e w' ⟨rfl, rfl⟩
  go_wp2
  refine bodyPost_ret (v := .tuple #[.agg #[.int .u8 (b 1), .int .u64 (rdTo (fun j => b (2 + j)) 8), .int .u64 (rdTo (fun j => b (10 + j)) 8)], .int .i64 18, .int .i64 0]) (by simp [results, Tryz.results56, go_sem]) rfl ⟨rfl, ?_⟩
  exact (Below.refl _ w).alloc (Nat.le_refl _) _
end Go.Proofs.YtnlgndpcddngoaaGreatDoor

namespace Go.Proofs.YtnlgndpcddngoaaGreatDoor
open Go.RowKit

/-- A line of the document's book. -/
structure Ln where
  k : Ky
  kd : Int
  x : Int
  y : Int
  at_ : Int
  in_ : Int
structure Bk where
  time : Int
  ls : List Ln
def idx (k : Ky) : List Ln → Option Nat
  | [] => none
  | l :: r => if l.k = k then some 0 else (idx k r).map (· + 1)
def standsM (T : Int) (l : Ln) : Int × Int := if l.kd = 1 then (l.at_, 0) else if l.in_ = T / l.y then (l.at_, T / l.y) else (0, T / l.y)
def spacedM (T : Int) (l : Ln) (n : Int) : Int × Bool × Int :=
  if n = 0 then (l.at_, true, 0)
  else if 18446744073709551615 < (if l.at_ < T then T else l.at_) + n * l.x ∨ l.y < (n - 1) * l.x then (0, false, 18446744073709551615)
  else if (if l.at_ < T then T else l.at_) + (n - 1) * l.x ≤ orNever (T + l.y) then ((if l.at_ < T then T else l.at_) + n * l.x, true, 0)
  else (0, false, l.at_ - (l.y - (n - 1) * l.x))
def windowedM (T : Int) (l : Ln) (n : Int) : Int × Bool × Int :=
  if (standsM T l).1 + n ≤ l.x then ((standsM T l).1 + n, true, 0)
  else if l.x < n then (0, false, 18446744073709551615)
  else (0, false, orNever ((T / l.y + 1) * l.y))
def lnAdm (T : Int) (l : Ln) (n : Int) : Int × Bool × Int := if l.kd = 1 then spacedM T l n else windowedM T l n
def lnWin (T : Int) (l : Ln) : Int := if l.kd = 1 then 0 else T / l.y
def admitM (B : Bk) (i : Nat) (l : Ln) (n : Int) : Bk × Rp :=
  if (lnAdm B.time l n).2.1 then
    (if 0 < n then ⟨B.time, B.ls.set i ⟨l.k, l.kd, l.x, l.y, (lnAdm B.time l n).1, lnWin B.time l⟩⟩ else B, ⟨2, (lnAdm B.time l n).1, lnWin B.time l⟩)
  else (B, ⟨3, (lnAdm B.time l n).2.2, 0⟩)
def askM (B : Bk) (q : Rq) : Bk × Rp :=
  if q.op = 1 then
    if ¬ soundM q.kd q.x q.y then (B, ⟨8, 0, 0⟩)
    else if (idx q.key B.ls).isSome then (B, ⟨9, 0, 0⟩)
    else if B.ls.length = 12 then (B, ⟨5, 0, 0⟩)
    else (⟨B.time, B.ls ++ [⟨q.key, q.kd, q.x, q.y, 0, 0⟩]⟩, ⟨1, 0, 0⟩)
  else if q.op = 5 then (B, ⟨1, 0, 0⟩)
  else if q.op = 6 then (B, ⟨1, B.time, 0⟩)
  else match idx q.key B.ls with
    | none => (B, ⟨4, 0, 0⟩)
    | some i =>
      if q.op = 3 then (B, ⟨1, (standsM B.time (B.ls.getD i ⟨q.key, 0, 0, 0, 0, 0⟩)).1, (standsM B.time (B.ls.getD i ⟨q.key, 0, 0, 0, 0, 0⟩)).2⟩)
      else if q.op = 4 then (⟨B.time, B.ls.eraseIdx i⟩, ⟨1, 0, 0⟩)
      else admitM B i (B.ls.getD i ⟨q.key, 0, 0, 0, 0, 0⟩) q.n

/-- A key stands in the ledger as in the document's book. -/
structure LineRel (T : Int) (z : Qt) (l : Ln) : Prop where
  kd : z.kd = l.kd
  x : z.x = l.x
  y : z.y = l.y
  s : z.kd = 1 → z.lv = l.at_ ∧ z.wn = 0
  w : z.kd ≠ 1 → (z.wn = l.in_ ∧ z.lv = l.at_ ∨ z.lv = 0 ∧ l.in_ < z.wn) ∧ z.wn ≤ T / z.y
def Lines (T : Int) : List (Ky × Qt) → List Ln → Prop
  | [], [] => True
  | (k, z) :: r, l :: s => k = l.k ∧ LineRel T z l ∧ Lines T r s
  | _, _ => False
theorem Lines.len {T : Int} : ∀ {ks : List (Ky × Qt)} {ls : List Ln}, Lines T ks ls → ks.length = ls.length
  | [], [], _ => rfl
  | (_, _) :: r, l :: s, h => by simp only [List.length_cons]; rw [Lines.len h.2.2]
  | [], _ :: _, h => h.elim
  | _ :: _, [], h => h.elim
theorem Lines.mono {T T' : Int} (hT : T ≤ T') : ∀ {ks : List (Ky × Qt)} {ls : List Ln}, (∀ p ∈ ks, p.2.ok) → Lines T ks ls → Lines T' ks ls
  | [], [], _, _ => trivial
  | (k, z) :: r, l :: s, ho, h => by
    have hz : z.ok := ho (k, z) List.mem_cons_self
    refine ⟨h.1, ⟨h.2.1.kd, h.2.1.x, h.2.1.y, h.2.1.s, fun hk => ⟨(h.2.1.w hk).1, ?_⟩⟩, Lines.mono hT (fun p hp => ho p (List.mem_cons_of_mem _ hp)) h.2.2⟩
    have hy : 1 ≤ z.y := by rcases hz.kd with h | h; exact absurd h.1 hk; exact h.2
    exact Int.le_trans (h.2.1.w hk).2 (Int.ediv_le_ediv (by omega) hT)
  | [], _ :: _, _, h => h.elim
  | _ :: _, [], _, h => h.elim

theorem stands_sim (T : Int) (z : Qt) (l : Ln) (h : LineRel T z l) : ((turnM z T).lv, (turnM z T).wn) = standsM T l := by
  unfold turnM standsM
  rw [← h.kd]
  by_cases hk : z.kd = 1
  · rw [if_pos hk, if_pos hk, (h.s hk).1, (h.s hk).2]
  · rw [if_neg hk, if_neg hk, ← h.y]
    obtain ⟨h1, h2⟩ := h.w hk
    by_cases hw : T / z.y = z.wn
    · rw [if_pos hw]
      rcases h1 with ⟨e1, e2⟩ | ⟨e1, e2⟩
      · rw [if_pos (by omega), e2, hw]
      · rw [if_neg (by omega), e1, hw]
    · rw [if_neg hw]
      dsimp only
      rw [if_neg (by omega)]
theorem turn_rel (T : Int) (z : Qt) (l : Ln) (h : LineRel T z l) : LineRel T (turnM z T) l := by
  unfold turnM
  split
  · exact h
  · rename_i hk
    split
    · exact h
    · rename_i hw
      refine ⟨h.kd, h.x, h.y, fun h1 => absurd h1 hk, fun _ => ⟨?_, Int.le_refl _⟩⟩
      obtain ⟨h1, h2⟩ := h.w hk
      right
      refine ⟨rfl, ?_⟩
      show l.in_ < T / z.y
      omega

/-- An Admit of one line. -/
theorem adm_simQ (T n : Int) (z : Qt) (l : Ln) (h : LineRel T z l) (hz : z.ok) (h0 : 0 ≤ T) (h1 : T ≤ 18446744073709551615) (hn : 0 ≤ n) :
    (admQ z T n).2 = (if (lnAdm T l n).2.1 then ⟨2, (lnAdm T l n).1, lnWin T l⟩ else ⟨3, (lnAdm T l n).2.2, 0⟩) ∧
    LineRel T (admQ z T n).1 (if (lnAdm T l n).2.1 ∧ 0 < n then ⟨l.k, l.kd, l.x, l.y, (lnAdm T l n).1, lnWin T l⟩ else l) := by
  have hx := hz.x; have hy := hz.y; have hlv := hz.lv
  by_cases hk : z.kd = 1
  · have hl : l.kd = 1 := h.kd ▸ hk
    have hkx : 1 ≤ z.x := by rcases hz.kd with h | h <;> omega
    obtain ⟨e1, e2⟩ := h.s hk
    have hw : lnWin T l = 0 := by unfold lnWin; rw [if_pos hl]
    have hst : startM z T = if l.at_ < T then T else l.at_ := by unfold startM; rw [e1]
    unfold admQ lnAdm
    rw [if_pos hk, if_pos hl, hw]
    unfold admS spacedM
    rw [hst, ← h.x, ← h.y]
    generalize hS : (if l.at_ < T then T else l.at_) = S
    have hSb : T ≤ S ∧ l.at_ ≤ S ∧ (S = T ∨ S = l.at_) := by rw [← hS]; split <;> omega
    by_cases hn0 : n = 0
    · rw [if_pos hn0, if_pos hn0]
      simp only [if_true, true_and]
      rw [if_neg (by omega)]
      refine ⟨?_, h⟩
      rw [e1, e2]
    · rw [if_neg hn0, if_neg hn0]
      have hp0 : 0 ≤ (n - 1) * z.x := Int.mul_nonneg (by omega) (by omega)
      have hnx : n * z.x = (n - 1) * z.x + z.x := by rw [Int.sub_mul]; omega
      by_cases c1 : 18446744073709551615 < S + n * z.x
      · rw [if_pos c1, if_pos (Or.inl c1)]
        simp only [Bool.false_eq_true, if_false, false_and]
        exact ⟨trivial, h⟩
      · rw [if_neg c1]
        by_cases c2 : z.y < (n - 1) * z.x
        · rw [if_pos c2, if_pos (Or.inr c2)]
          simp only [Bool.false_eq_true, if_false, false_and]
          exact ⟨trivial, h⟩
        · rw [if_neg c2, if_neg (show ¬ (18446744073709551615 < S + n * z.x ∨ z.y < (n - 1) * z.x) by omega)]
          by_cases c3 : orNever (T + z.y) < S + (n - 1) * z.x
          · rw [if_pos c3, if_neg (show ¬ S + (n - 1) * z.x ≤ orNever (T + z.y) by omega)]
            simp only [Bool.false_eq_true, if_false, false_and]
            refine ⟨?_, h⟩
            have hat : S = l.at_ := by
              unfold orNever at c3
              split at c3 <;> omega
            rw [hat]
            congr 1
            omega
          · rw [if_neg c3, if_pos (show S + (n - 1) * z.x ≤ orNever (T + z.y) by omega)]
            simp only [if_true, true_and]
            rw [if_pos (show 0 < n by omega), e2]
            exact ⟨rfl, ⟨h.kd, rfl, rfl, fun _ => ⟨rfl, rfl⟩, fun h' => absurd hk h'⟩⟩
  · have hl : ¬ l.kd = 1 := fun e => hk (h.kd.trans e)
    have hky : 1 ≤ z.y := by rcases hz.kd with h | h; exact absurd h.1 hk; exact h.2
    have hs := stands_sim T z l h
    have ht := turn_rel T z l h
    have hto := turnM_ok' z T hz h0 h1
    have hw : lnWin T l = T / l.y := by unfold lnWin; rw [if_neg hl]
    have hs2 : (standsM T l).2 = T / l.y := by unfold standsM; rw [if_neg hl]; split <;> rfl
    have e1 : (turnM z T).lv = (standsM T l).1 := by rw [← hs]
    have e2 : (turnM z T).wn = T / l.y := by rw [← hs2, ← hs]
    have hd0 : 0 ≤ T / l.y := e2 ▸ hto.wn.1
    unfold admQ lnAdm
    rw [if_neg hk, if_neg hl, hw]
    unfold admW windowedM
    have ek : (turnM z T).kd = z.kd := by rw [ht.kd, h.kd]
    rw [e1, e2, ht.x, ht.y]
    by_cases c1 : (standsM T l).1 + n ≤ l.x
    · rw [if_pos c1, if_pos c1]
      simp only [if_true, true_and]
      by_cases hn0 : 0 < n
      · rw [if_pos hn0]
        exact ⟨ht.kd, rfl, rfl, fun h' => absurd (ek ▸ h') hk, fun _ => ⟨Or.inl ⟨rfl, rfl⟩, Int.le_refl _⟩⟩
      · rw [if_neg hn0]
        have : n = 0 := by omega
        subst this
        refine ⟨ht.kd, rfl, rfl, fun h' => absurd (ek ▸ h') hk, fun h' => ?_⟩
        have g := ht.w h'
        rw [e1, e2, ht.y] at g
        simpa using g
    · rw [if_neg c1, if_neg c1]
      by_cases c2 : l.x < n
      · rw [if_pos c2, if_pos c2]
        simp only [Bool.false_eq_true, if_false, false_and]
        exact ⟨trivial, ht⟩
      · rw [if_neg c2, if_neg c2]
        simp only [Bool.false_eq_true, if_false, false_and]
        refine ⟨?_, ht⟩
        rw [Int.add_mul, Int.one_mul]
theorem adm_sim (T n : Int) (z : Qt) (l : Ln) (h : LineRel T z l) (hz : z.ok) (h0 : 0 ≤ T) (h1 : T ≤ 18446744073709551615) (hn : 0 ≤ n) :
    (admM z T n).2 = (if (lnAdm T l n).2.1 then ⟨2, (lnAdm T l n).1, lnWin T l⟩ else ⟨3, (lnAdm T l n).2.2, 0⟩) ∧
    LineRel T (admM z T n).1 (if (lnAdm T l n).2.1 ∧ 0 < n then ⟨l.k, l.kd, l.x, l.y, (lnAdm T l n).1, lnWin T l⟩ else l) := by
  obtain ⟨a1, a2⟩ := adm_simQ T n z l h hz h0 h1 hn
  refine ⟨a1, ?_⟩
  unfold admM
  dsimp only
  by_cases hok : (lnAdm T l n).2.1 = true
  · rw [if_pos hok] at a1
    by_cases hn0 : 0 < n
    · rw [if_pos ⟨by rw [a1], by omega⟩]
      exact a2
    · rw [if_neg (fun h => hn0 (by omega)), if_neg (fun h => hn0 h.2)]
      exact h
  · rw [if_neg hok] at a1
    rw [if_neg (fun h => by have := h.1; rw [a1] at this; simp at this), if_neg (fun h => hok h.1)]
    exact h
end Go.Proofs.YtnlgndpcddngoaaGreatDoor

namespace Go.Proofs.YtnlgndpcddngoaaGreatDoor
open Go.RowKit

theorem idx_none {T : Int} (k : Ky) : ∀ {ks : List (Ky × Qt)} {ls : List Ln}, Lines T ks ls → idx k ls = none → fnd k ks = none
  | [], [], _, _ => rfl
  | (k', z) :: r, l :: s, h, hi => by
    unfold idx at hi
    split at hi
    · simp at hi
    · rename_i hne
      unfold fnd
      rw [if_neg (by rw [h.1]; exact hne)]
      exact idx_none k h.2.2 (by simpa using hi)
  | [], _ :: _, h, _ => h.elim
  | _ :: _, [], h, _ => h.elim
structure Found (T : Int) (k : Ky) (ks : List (Ky × Qt)) (ls : List Ln) (i : Nat) (z : Qt) (l : Ln) : Prop where
  f : fnd k ks = some z
  g : ls[i]? = some l
  hk : l.k = k
  rel : LineRel T z l
  set : ∀ z' l', LineRel T z' l' → l'.k = k → Lines T (upd k z' ks) (ls.set i l')
  del : Lines T (del k ks) (ls.eraseIdx i)
theorem idx_some {T : Int} (k : Ky) : ∀ {ks : List (Ky × Qt)} {ls : List Ln} {i : Nat}, Lines T ks ls → idx k ls = some i → ∃ z l, Found T k ks ls i z l
  | [], [], _, _, hi => by simp [idx] at hi
  | (k', z) :: r, l :: s, i, h, hi => by
    unfold idx at hi
    split at hi
    · rename_i he
      injection hi with hi
      subst hi
      have hk : k' = k := h.1.trans he
      refine ⟨z, l, by unfold fnd; rw [if_pos hk], rfl, he, h.2.1, fun z' l' hr hl => ?_, ?_⟩
      · unfold upd
        rw [if_pos hk]
        exact ⟨by rw [hk, hl], hr, h.2.2⟩
      · unfold Go.Proofs.YtnlgndpcddngoaaGreatDoor.del
        rw [if_pos hk]
        exact h.2.2
    · rename_i hne
      have hk : ¬ k' = k := by rw [h.1]; exact hne
      obtain ⟨j, hj, rfl⟩ := Option.map_eq_some_iff.1 hi
      obtain ⟨z', l', F⟩ := idx_some k h.2.2 hj
      refine ⟨z', l', by unfold fnd; rw [if_neg hk]; exact F.f, F.g, F.hk, F.rel, fun z2 l2 hr hl => ?_, ?_⟩
      · unfold upd
        rw [if_neg hk]
        exact ⟨h.1, h.2.1, F.set z2 l2 hr hl⟩
      · unfold Go.Proofs.YtnlgndpcddngoaaGreatDoor.del
        rw [if_neg hk]
        exact ⟨h.1, h.2.1, F.del⟩
  | [], _ :: _, _, h, _ => h.elim
  | _ :: _, [], _, h, _ => h.elim
theorem Lines.app {T : Int} {z : Qt} {l : Ln} (hr : LineRel T z l) : ∀ {ks : List (Ky × Qt)} {ls : List Ln}, Lines T ks ls → Lines T (ks ++ [(l.k, z)]) (ls ++ [l])
  | [], [], _ => ⟨rfl, hr, trivial⟩
  | (_, _) :: _, _ :: _, h => ⟨h.1, h.2.1, Lines.app hr h.2.2⟩
  | [], _ :: _, h => h.elim
  | _ :: _, [], h => h.elim

theorem set_same {ls : List Ln} {i : Nat} {l : Ln} (h : ls[i]? = some l) : ls.set i l = ls := by
  obtain ⟨hi, rfl⟩ := List.getElem?_eq_some_iff.1 h
  exact List.set_getElem_self hi
/-- The ledger's reply is the document's, whatever is asked (P8 to P11). -/
theorem ask_sim (L : Ld) (B : Bk) (q : Rq) (hL : L.ok) (hq : q.ok) (ht : L.time = B.time) (hl : Lines B.time L.ks B.ls) (h5 : q.op ∈ [1, 2, 3, 4, 5, 6]) :
    (doM L q).2 = (askM B q).2 ∧ (askM B q).1.time = B.time ∧ Lines B.time (doM L q).1.ks (askM B q).1.ls := by
  have hT := hL.time
  have hlen := hl.len
  have h12 := hL.len
  unfold doM askM
  by_cases o1 : q.op = 1
  · rw [if_pos o1, if_pos o1]
    by_cases hs : soundM q.kd q.x q.y
    · have hs' : ¬ ¬ soundM q.kd q.x q.y := fun h => h hs
      rw [if_neg hs', if_neg hs']
      cases hi : idx q.key B.ls with
      | none =>
        rw [idx_none q.key hl hi]
        simp only [Option.isSome_none, Bool.false_eq_true, if_false]
        by_cases hf : 12 ≤ L.ks.length
        · rw [if_pos hf, if_pos (by omega)]
          exact ⟨rfl, rfl, hl⟩
        · rw [if_neg hf, if_neg (by omega)]
          refine ⟨rfl, rfl, ?_⟩
          refine Lines.app (l := ⟨q.key, q.kd, q.x, q.y, 0, 0⟩) ⟨rfl, rfl, rfl, fun _ => ⟨rfl, rfl⟩, fun _ => ⟨Or.inl ⟨rfl, rfl⟩, ?_⟩⟩ hl
          show 0 ≤ B.time / q.y
          have := hq.y
          exact Int.ediv_nonneg (by omega) (by omega)
      | some i =>
        obtain ⟨z, l, F⟩ := idx_some q.key hl hi
        rw [F.f]
        simp only [Option.isSome_some, if_true]
        exact ⟨trivial, trivial, hl⟩
    · rw [if_pos hs, if_pos hs]
      exact ⟨rfl, rfl, hl⟩
  · rw [if_neg o1, if_neg o1]
    by_cases o5 : q.op = 5
    · rw [if_neg (by omega), if_neg (by omega), if_neg (by omega), if_neg (by omega), if_pos o5]
      exact ⟨rfl, rfl, hl⟩
    · rw [if_neg o5]
      by_cases o6 : q.op = 6
      · rw [if_neg (by omega), if_neg (by omega), if_neg (by omega), if_pos o6, if_pos o6, ht]
        exact ⟨rfl, rfl, hl⟩
      · rw [if_neg o6, if_neg o6]
        have h234 : q.op = 2 ∨ q.op = 3 ∨ q.op = 4 := by simp at h5; omega
        cases hi : idx q.key B.ls with
        | none =>
          have hf := idx_none q.key hl hi
          dsimp only
          rcases h234 with h | h | h
          · rw [if_pos h, hf]; exact ⟨rfl, rfl, hl⟩
          · rw [if_neg (by omega), if_pos h, hf]; exact ⟨rfl, rfl, hl⟩
          · rw [if_neg (by omega), if_neg (by omega), if_pos h, hf]; exact ⟨rfl, rfl, hl⟩
        | some i =>
          obtain ⟨z, l, F⟩ := idx_some q.key hl hi
          have hgd : B.ls.getD i ⟨q.key, 0, 0, 0, 0, 0⟩ = l := by simp [List.getD, F.g]
          have hz := hL.qt _ (fnd_mem F.f)
          dsimp only
          rw [hgd]
          rcases h234 with h | h | h
          · rw [if_pos h, if_neg (by omega), if_neg (by omega), F.f, ht]
            obtain ⟨a1, a2⟩ := adm_sim B.time q.n z l F.rel hz (by omega) (by omega) hq.n.1
            dsimp only
            unfold admitM
            by_cases hok : (lnAdm B.time l q.n).2.1 = true
            · rw [if_pos hok] at a1 ⊢
              by_cases hn : 0 < q.n
              · rw [if_pos hn]
                rw [if_pos ⟨hok, hn⟩] at a2
                exact ⟨a1, rfl, F.set _ _ a2 F.hk⟩
              · rw [if_neg hn]
                rw [if_neg (fun h => hn h.2)] at a2
                refine ⟨a1, rfl, ?_⟩
                have := F.set _ l a2 F.hk
                rwa [set_same F.g] at this
            · rw [if_neg hok] at a1 ⊢
              rw [if_neg (fun h => hok h.1)] at a2
              refine ⟨a1, rfl, ?_⟩
              have := F.set _ l a2 F.hk
              rwa [set_same F.g] at this
          · rw [if_neg (by omega), if_pos h, if_pos h, F.f, ht]
            have := stands_sim B.time z l F.rel
            dsimp only
            rw [← this]
            exact ⟨rfl, rfl, hl⟩
          · rw [if_neg (by omega), if_neg (by omega), if_pos h, if_neg (by omega), if_pos h, F.f]
            exact ⟨rfl, rfl, F.del⟩
end Go.Proofs.YtnlgndpcddngoaaGreatDoor

namespace Go.Proofs.YtnlgndpcddngoaaGreatDoor
open Go.RowKit

set_option maxRecDepth 100000 in
theorem plus128 (a b : Int) (w : World) (ha : 0 ≤ a ∧ a ≤ 18446744073709551615) (hb : 0 ≤ b ∧ b ≤ 18446744073709551615) :
    Calls Tryz.prog 151 #[.int .u64 a, .int .u64 b] w fun e w' => e = .returned (.tuple #[.int .u64 (orNever (a + b)), .bool (decide (a + b ≤ 18446744073709551615))]) ∧ w' = w := by
  have e1 : IntKind.u64.wrap (18446744073709551615 - b) = 18446744073709551615 - b := by rw [IntKind.wrap_u64]; omega
  by_cases h : a + b ≤ 18446744073709551615
  · have e2 : IntKind.u64.wrap (a + b) = a + b := by rw [IntKind.wrap_u64]; omega
    have e3 : ¬ 18446744073709551615 - b < a := by omega
    have e4 : orNever (a + b) = a + b := by unfold orNever; rw [if_pos h]
    have e5 : decide (a + b ≤ 18446744073709551615) = true := by simpa using h
    rw [e4, e5]
    clear e4 e5 h
    go_enter Tryz.func151, Tryz.ntmps151
    go_wp2
    go_ret2
    exact ⟨rfl, rfl⟩
  · have e3 : 18446744073709551615 - b < a := by omega
    have e4 : orNever (a + b) = 18446744073709551615 := by unfold orNever; rw [if_neg h]
    have e5 : decide (a + b ≤ 18446744073709551615) = false := by simpa using h
    rw [e4, e5]
    clear e4 e5 h
    go_enter Tryz.func151, Tryz.ntmps151
    go_wp2
    go_ret2
    exact ⟨rfl, rfl⟩
set_option maxRecDepth 100000 in
theorem times127 (a b : Int) (w : World) (ha : 0 ≤ a ∧ a ≤ 18446744073709551615) (hb : 0 ≤ b ∧ b ≤ 18446744073709551615) :
    Calls Tryz.prog 150 #[.int .u64 a, .int .u64 b] w fun e w' => e = .returned (.tuple #[.int .u64 (orNever (a * b)), .bool (decide (a * b ≤ 18446744073709551615))]) ∧ w' = w := by
  have hp : 0 ≤ a * b := Int.mul_nonneg ha.1 hb.1
  by_cases h0 : a = 0
  · subst h0
    have e4 : orNever (0 * b) = 0 := by unfold orNever; simp
    have e5 : decide (0 * b ≤ 18446744073709551615) = true := by simp
    rw [e4, e5]
    clear e4 e5 hp
    go_enter Tryz.func150, Tryz.ntmps150
    go_wp2
    go_ret2
    exact ⟨rfl, rfl⟩
  · have hd : (18446744073709551615 : Int).tdiv a = 18446744073709551615 / a := Int.tdiv_eq_ediv_of_nonneg (by omega)
    have hd2 : 0 ≤ (18446744073709551615 : Int) / a := Int.ediv_nonneg (by omega) ha.1
    have hd3 : (18446744073709551615 : Int) / a ≤ 18446744073709551615 := Int.ediv_le_self _ (by omega)
    have hdw : IntKind.u64.wrap (18446744073709551615 / a) = 18446744073709551615 / a := by rw [IntKind.wrap_u64]; omega
    have hiff : a * b ≤ 18446744073709551615 ↔ b ≤ 18446744073709551615 / a := by
      rw [Int.le_ediv_iff_mul_le (by omega), Int.mul_comm]
    by_cases h : a * b ≤ 18446744073709551615
    · have e2 : IntKind.u64.wrap (a * b) = a * b := by rw [IntKind.wrap_u64]; omega
      have e3 : ¬ 18446744073709551615 / a < b := by have := hiff.1 h; omega
      have e4 : orNever (a * b) = a * b := by unfold orNever; rw [if_pos h]
      have e5 : decide (a * b ≤ 18446744073709551615) = true := by simpa using h
      rw [e4, e5]
      clear e4 e5 h hiff hd2 hd3 hp
      go_enter Tryz.func150, Tryz.ntmps150
      go_wp2
      go_ret2
      exact ⟨rfl, rfl⟩
    · have e3 : 18446744073709551615 / a < b := by
        rcases Int.lt_or_le (18446744073709551615 / a) b with h' | h'
        · exact h'
        · exact absurd (hiff.2 h') h
      have e4 : orNever (a * b) = 18446744073709551615 := by unfold orNever; rw [if_neg h]
      have e5 : decide (a * b ≤ 18446744073709551615) = false := by simpa using h
      rw [e4, e5]
      clear e4 e5 h hiff hd2 hd3 hp
      go_enter Tryz.func150, Tryz.ntmps150
      go_wp2
      go_ret2
      exact ⟨rfl, rfl⟩

def lnc (l : Ln) : List Value := [.int .u8 l.k.k0, .int .u8 l.k.k1, .int .u8 l.k.k2, .int .u8 l.k.k3, .int .u8 l.k.k4, .int .u8 l.k.k5, .int .u8 l.k.k6, .int .u8 l.k.k7, .int .u8 l.kd, .int .u64 l.x, .int .u64 l.y, .int .u64 l.at_, .int .u64 l.in_]
def lncs (ls : List Ln) : List Value := ls.flatMap lnc
theorem lncs_get (j : Nat) (hj : j < 13) : ∀ (ls : List Ln) (i : Nat) (h : i < ls.length), (lncs ls)[i * 13 + j]? = (lnc ls[i])[j]? := by
  intro l
  induction l with
  | nil => intro i h; simp at h
  | cons q r ih =>
    intro i h
    unfold lncs
    rw [List.flatMap_cons]
    cases i with
    | zero =>
      rw [Nat.zero_mul, Nat.zero_add, List.getElem?_append_left (by simpa [lnc] using hj)]
      rfl
    | succ i =>
      rw [List.getElem?_append_right (by simp [lnc]; omega)]
      have e : (i + 1) * 13 + j - (lnc q).length = i * 13 + j := by simp [lnc]; omega
      rw [e]
      exact ih i (by simpa using h)
theorem lncs_len (ls : List Ln) : (lncs ls).length = ls.length * 13 := by
  unfold lncs
  induction ls with
  | nil => rfl
  | cons q r ih => rw [List.flatMap_cons, List.length_append, ih]; simp [lnc]; omega

/-- The document's book in memory. -/
structure BookAt (w : World) (bb : Nat) (base : Nat) (lv : Value) (B : Bk) : Prop where
  hb : w.heap[bb]? = some (.cells #[lv, .int .u64 B.time] 60)
  ho : w.ownsRow base 151 13 lv B.ls.length (lncs B.ls)
theorem BookAt.cells {w : World} {bb base g cap : Nat} {B : Bk} {n : Nat} (h : BookAt w bb base (.slice (some ⟨g, 0, none⟩) n cap) B) (i : Nat) (hi : i < B.ls.length) (j : Nat) (hj : j < 13) : w.cell? ⟨g, i * 13 + j, none⟩ = (lnc B.ls[i])[j]? := by
  obtain ⟨a, c, e⟩ := own_sliceE h.ho
  injection e with e1 e2 e3
  have ho := h.ho
  rw [e2] at ho
  rw [ho.cellAt (i * 13 + j) (by omega), lncs_get j hj B.ls i hi]
end Go.Proofs.YtnlgndpcddngoaaGreatDoor

namespace Go.Proofs.YtnlgndpcddngoaaGreatDoor
open Go.RowKit

def idxI (k : Ky) (ls : List Ln) : Int := match idx k ls with | none => -1 | some i => i
theorem idx_lt {k : Ky} : ∀ {ls : List Ln} {i : Nat}, idx k ls = some i → i < ls.length
  | [], _, h => by simp [idx] at h
  | l :: r, i, h => by
    unfold idx at h
    split at h
    · injection h with h; subst h; simp
    · obtain ⟨j, hj, rfl⟩ := Option.map_eq_some_iff.1 h
      have := idx_lt hj
      simp only [List.length_cons]; omega
/-- Up to here the key is not there. -/
theorem idx_drop {k : Ky} : ∀ (ls : List Ln) (i : Nat), (∀ j (h : j < ls.length), j < i → ls[j].k ≠ k) → (h : i < ls.length) → (ls[i].k = k → idx k ls = some i)
  | [], i, _, h, _ => by simp at h
  | l :: r, i, hn, h, he => by
    unfold idx
    cases i with
    | zero => rw [if_pos (by simpa using he)]
    | succ i =>
      rw [if_neg (by have := hn 0 (by simp) (by omega); simpa using this)]
      rw [idx_drop r i (fun j hj hji => by have := hn (j + 1) (by simp; omega) (by omega); simpa using this) (by simpa using h) (by simpa using he)]
      rfl
theorem idx_no {k : Ky} : ∀ (ls : List Ln), (∀ j (h : j < ls.length), ls[j].k ≠ k) → idx k ls = none
  | [], _ => rfl
  | l :: r, hn => by
    unfold idx
    rw [if_neg (by have := hn 0 (by simp); simpa using this), idx_no r (fun j hj => by have := hn (j + 1) (by simp; omega); simpa using this)]
    rfl

set_option maxRecDepth 100000 in
/-- '==' of two keys. -/
theorem key_cmp (a b : Ky) (w : World) : (Op.equalIn 10000 63 (.agg #[.int .u8 a.k0, .int .u8 a.k1, .int .u8 a.k2, .int .u8 a.k3, .int .u8 a.k4, .int .u8 a.k5, .int .u8 a.k6, .int .u8 a.k7]) (.agg #[.int .u8 b.k0, .int .u8 b.k1, .int .u8 b.k2, .int .u8 b.k3, .int .u8 b.k4, .int .u8 b.k5, .int .u8 b.k6, .int .u8 b.k7])).run Tryz.prog w = .ok (decide (a = b)) w := by
  have u5 := Tryz.underlying5
  have a5 := Tryz.isAgg5
  have z5 := Tryz.sizeOf5
  obtain ⟨a0, a1, a2, a3, a4, a5', a6, a7⟩ := a
  obtain ⟨b0, b1, b2, b3, b4, b5, b6, b7⟩ := b
  rw [show (10000 : Nat) = 9999 + 1 from rfl, Op.equalIn]
  simp only [Sem.run_bind, run_underlying Tryz.underlying63, Result.andThen_ok]
  simp only [Std.Legacy.Range.forIn_eq_forIn_range', Std.Legacy.Range.size, Nat.sub_zero, Nat.add_sub_cancel, Nat.div_one, List.range'_succ, List.range'_zero, List.forIn_cons, List.forIn_nil]
  go_simp
  repeat' split
  all_goals simp_all
set_option maxRecDepth 100000 in
set_option maxHeartbeats 2000000 in
theorem find84 (bb base : Nat) (lv : Value) (B : Bk) (k : Ky) (w : World) (h : BookAt w bb base lv B) (hl : B.ls.length ≤ 12) :
    Calls Tryz.prog 89 #[.pointer (some ⟨bb, 0, none⟩), .agg #[.int .u8 k.k0, .int .u8 k.k1, .int .u8 k.k2, .int .u8 k.k3, .int .u8 k.k4, .int .u8 k.k5, .int .u8 k.k6, .int .u8 k.k7]] w fun e w' => e = .returned (.int .i64 (idxI k B.ls)) ∧ Below w.heap.size w w' := by
  obtain ⟨a, c, rfl⟩ := own_sliceE h.ho
  have a1 := cellB h.hb
  have HB := hide h
  have HL := hide hl
  have hl' : (B.ls.length : Int) ≤ 12 := by omega
  clear h hl
  obtain ⟨W0, hW0⟩ : ∃ W0, W0 = w.alloc (.cells #[.int .u8 k.k0, .int .u8 k.k1, .int .u8 k.k2, .int .u8 k.k3, .int .u8 k.k4, .int .u8 k.k5, .int .u8 k.k6, .int .u8 k.k7] 63) := ⟨_, rfl⟩
  have hbx : W0.heap[w.heap.size]? = some (.cells #[.int .u8 k.k0, .int .u8 k.k1, .int .u8 k.k2, .int .u8 k.k3, .int .u8 k.k4, .int .u8 k.k5, .int .u8 k.k6, .int .u8 k.k7] 63) := hW0 ▸ heapNew _ _
  have hB0 : Below w.heap.size w W0 := hW0 ▸ (Below.refl _ w).alloc (Nat.le_refl _) _
  have hW0s := hB0.size
  go_enter Tryz.func89, Tryz.ntmps89
  go_wp2
  rw [← hW0]
  go_loopw [5] (fun s5 wr => ∃ i : Nat, i ≤ B.ls.length ∧ s5 = .int .i64 i ∧ (∀ j (h : j < B.ls.length), j < i → B.ls[j].k ≠ k) ∧ Below W0.heap.size W0 wr) (fun s5 _ => B.ls.length - (intOf s5).toNat)
  case atStart => exact ⟨0, Nat.zero_le _, rfl, fun j _ h => absurd h (Nat.not_lt_zero _), Below.refl _ _⟩
  case round =>
    obtain ⟨i, hi, rfl, hne, hbr⟩ := hrel
    have hbw : Below w.heap.size w wr := hB0.trans (hbr.mono hW0s)
    have b1 := (hbw.block bb (ltB HB.out.hb)).trans HB.out.hb
    have b2 := (hbr.block _ (ltB hbx)).trans hbx
    have c1 := cellB b1
    by_cases hlt : i < B.ls.length
    · obtain ⟨g, gc, hv, _, hgl⟩ := HB.out.ho.form (by omega)
      injection hv with e1 _ e2
      subst e1 e2
      obtain ⟨l, hle⟩ : ∃ l, l = B.ls[i] := ⟨_, rfl⟩
      have cc : ∀ j, j < 13 → wr.cell? ⟨g, i * 13 + j, none⟩ = (lnc l)[j]? := fun j hj => (hbw.cell (p := ⟨g, i * 13 + j, none⟩) hgl).trans (by rw [hle]; exact HB.out.cells i hlt j hj)
      have d0 := cc 0 (by omega)
      have d1 := cc 1 (by omega)
      have d2 := cc 2 (by omega)
      have d3 := cc 3 (by omega)
      have d4 := cc 4 (by omega)
      have d5 := cc 5 (by omega)
      have d6 := cc 6 (by omega)
      have d7 := cc 7 (by omega)
      rw [Nat.add_zero] at d0
      simp only [lnc, List.getElem?_cons_zero, List.getElem?_cons_succ] at d0 d1 d2 d3 d4 d5 d6 d7
      have x0 := cellB b2
      have hlt' : (i : Int) < (B.ls.length : Int) := by omega
      have HNE := hide hne
      have HLE := hide hle
      have HBW := hide hbw
      have HBR := hide hbr
      clear hne hle hbw hbr cc a1
      have hkc := key_cmp l.k k
      by_cases hk : l.k = k
      · rw [decide_eq_true hk] at hkc
        have HK := hide hk
        clear hk
        go_wp2_with fail
        go_region
        all_goals go_wp2
        all_goals go_ret
        all_goals refine ⟨?_, HBW.out.drew⟩
        all_goals unfold idxI
        all_goals rw [idx_drop B.ls i HNE.out hlt (by rw [← HLE.out]; exact HK.out)]
        all_goals rfl
      · rw [decide_eq_false hk] at hkc
        have HN2 : Hid (∀ j (h : j < B.ls.length), j < i + 1 → B.ls[j].k ≠ k) := hide (fun j hj hji => by
          rcases Nat.lt_or_ge j i with h | h
          · exact HNE.out j hj h
          · have e : j = i := by omega
            subst e
            rw [← HLE.out]
            exact hk)
        clear hk
        go_wp2_with fail
        go_region
        all_goals go_wp2
        all_goals go_roundw
        all_goals first | (exact ⟨i + 1, by omega, by go_num, HN2.out, HBR.out.drew⟩) | (simp [intOf]; omega)
    · obtain rfl : i = B.ls.length := by omega
      have hlt' : ¬ (B.ls.length : Int) < (B.ls.length : Int) := by omega
      clear a1
      go_wp2
      go_ret
      refine ⟨?_, hbw⟩
      unfold idxI
      rw [idx_no B.ls (fun j hj => hne j hj hj)]
      rfl
end Go.Proofs.YtnlgndpcddngoaaGreatDoor

namespace Go.Proofs.YtnlgndpcddngoaaGreatDoor
open Go.RowKit

structure Ln.ok (l : Ln) : Prop where
  kd : soundM l.kd l.x l.y
  x : 0 ≤ l.x ∧ l.x ≤ 18446744073709551615
  y : 0 ≤ l.y ∧ l.y ≤ 18446744073709551615
  at_ : 0 ≤ l.at_ ∧ l.at_ ≤ 18446744073709551615
  in_ : 0 ≤ l.in_ ∧ l.in_ ≤ 18446744073709551615
theorem Ln.ok.yp {l : Ln} (h : l.ok) (hk : ¬ l.kd = 1) : 1 ≤ l.y := by rcases h.kd with h | h; exact absurd h.1 hk; exact h.2

/-- A line's cells. -/
structure LnAt (w : World) (g i : Nat) (l : Ln) : Prop where
  c0 : w.cell? ⟨g, i * 13, none⟩ = some (.int .u8 l.k.k0)
  c1 : w.cell? ⟨g, i * 13 + 1, none⟩ = some (.int .u8 l.k.k1)
  c2 : w.cell? ⟨g, i * 13 + 2, none⟩ = some (.int .u8 l.k.k2)
  c3 : w.cell? ⟨g, i * 13 + 3, none⟩ = some (.int .u8 l.k.k3)
  c4 : w.cell? ⟨g, i * 13 + 4, none⟩ = some (.int .u8 l.k.k4)
  c5 : w.cell? ⟨g, i * 13 + 5, none⟩ = some (.int .u8 l.k.k5)
  c6 : w.cell? ⟨g, i * 13 + 6, none⟩ = some (.int .u8 l.k.k6)
  c7 : w.cell? ⟨g, i * 13 + 7, none⟩ = some (.int .u8 l.k.k7)
  c8 : w.cell? ⟨g, i * 13 + 8, none⟩ = some (.int .u8 l.kd)
  c9 : w.cell? ⟨g, i * 13 + 9, none⟩ = some (.int .u64 l.x)
  c10 : w.cell? ⟨g, i * 13 + 10, none⟩ = some (.int .u64 l.y)
  c11 : w.cell? ⟨g, i * 13 + 11, none⟩ = some (.int .u64 l.at_)
  c12 : w.cell? ⟨g, i * 13 + 12, none⟩ = some (.int .u64 l.in_)
theorem BookAt.line {w : World} {bb base g cap n : Nat} {B : Bk} (h : BookAt w bb base (.slice (some ⟨g, 0, none⟩) n cap) B) {i : Nat} {l : Ln} (hi : B.ls[i]? = some l) : LnAt w g i l := by
  obtain ⟨hlt, rfl⟩ := List.getElem?_eq_some_iff.1 hi
  have c := h.cells i hlt
  exact ⟨c 0 (by omega), c 1 (by omega), c 2 (by omega), c 3 (by omega), c 4 (by omega), c 5 (by omega), c 6 (by omega), c 7 (by omega), c 8 (by omega), c 9 (by omega), c 10 (by omega), c 11 (by omega), c 12 (by omega)⟩
theorem BookAt.open {w : World} {bb base : Nat} {lv : Value} {B : Bk} (h : BookAt w bb base lv B) {i : Nat} {l : Ln} (hi : B.ls[i]? = some l) : ∃ g cap, lv = .slice (some ⟨g, 0, none⟩) B.ls.length cap ∧ base ≤ g ∧ g < w.heap.size ∧ LnAt w g i l ∧ i < B.ls.length := by
  have hlt := (List.getElem?_eq_some_iff.1 hi).1
  obtain ⟨g, cap, hv, hg, hgl⟩ := h.ho.form (by omega)
  subst hv
  exact ⟨g, cap, rfl, hg, hgl, h.line hi, hlt⟩

set_option maxRecDepth 100000 in
set_option maxHeartbeats 2000000 in
theorem stands85 (bb base : Nat) (lv : Value) (B : Bk) (i : Nat) (l : Ln) (w : World) (h : BookAt w bb base lv B) (hi : B.ls[i]? = some l) (hl : B.ls.length ≤ 12) (ho : l.ok) (hT : 0 ≤ B.time ∧ B.time ≤ 18446744073709551615) :
    Calls Tryz.prog 90 #[.pointer (some ⟨bb, 0, none⟩), .int .i64 i] w fun e w' => e = .returned (.tuple #[.int .u64 (standsM B.time l).1, .int .u64 (standsM B.time l).2]) ∧ Below w.heap.size w w' := by
  obtain ⟨g, cap, rfl, _, hgl, L, hlt⟩ := h.open hi
  obtain ⟨d0, d1, d2, d3, d4, d5, d6, d7, d8, d9, d10, d11, d12⟩ := L
  have a1 := cellB h.hb
  have hbl := ltB h.hb
  have hlt' : (i : Int) < (B.ls.length : Int) := by omega
  have hl' : (B.ls.length : Int) ≤ 12 := by omega
  have hi0 : (0 : Int) ≤ (i : Int) := by omega
  obtain ⟨n, hn⟩ : ∃ n, n = B.ls.length := ⟨_, rfl⟩
  have b1 := fun o => upC h.hb o 1
  rw [← hn] at hlt' hl' a1 b1
  have HH := hide h
  have HO := hide ho
  clear h hl hi hn hlt
  by_cases hk : l.kd = 1
  · have e : standsM B.time l = (l.at_, 0) := by unfold standsM; rw [if_pos hk]
    rw [e]
    rw [hk] at d8
    clear e
    go_enter Tryz.func90, Tryz.ntmps90
    go_wp2_with fail
    go_ret2
    exact ⟨rfl, (Below.refl _ w).alloc (Nat.le_refl _) _⟩
  · have hy := HO.out.yp hk
    have hyr := HO.out.y
    have hkb : (l.kd == 1) = false := by simpa using hk
    have hdt : B.time.tdiv l.y = B.time / l.y := Int.tdiv_eq_ediv_of_nonneg (by omega)
    have hd0 : 0 ≤ B.time / l.y := Int.ediv_nonneg (by omega) (by omega)
    have hd1 : B.time / l.y ≤ B.time := Int.ediv_le_self _ (by omega)
    have hdw : IntKind.u64.wrap (B.time / l.y) = B.time / l.y := by rw [IntKind.wrap_u64]; omega
    have hyn : ¬ l.y = 0 := by omega
    obtain ⟨q, hq⟩ : ∃ q, q = B.time / l.y := ⟨_, rfl⟩
    by_cases hin : l.in_ = B.time / l.y
    · have e : standsM B.time l = (l.at_, q) := by unfold standsM; rw [if_neg hk, if_pos hin, hq]
      rw [e]
      rw [← hq] at hdt hdw hin
      have hinb : (l.in_ == q) = true := by simpa using hin
      clear e hd0 hd1 hin hq
      go_enter Tryz.func90, Tryz.ntmps90
      go_wp2_with fail
      go_region
      all_goals go_wp2
      all_goals go_ret2
      all_goals exact ⟨rfl, ((Below.refl _ w).alloc (Nat.le_refl _) _).drew⟩
    · have e : standsM B.time l = (0, q) := by unfold standsM; rw [if_neg hk, if_neg hin, hq]
      rw [e]
      rw [← hq] at hdt hdw hin
      have hinb : (l.in_ == q) = false := by simpa using hin
      clear e hd0 hd1 hin hq
      go_enter Tryz.func90, Tryz.ntmps90
      go_wp2_with fail
      go_region
      all_goals go_wp2
      all_goals go_ret2
      all_goals exact ⟨rfl, ((Below.refl _ w).alloc (Nat.le_refl _) _).drew⟩

theorem BookAt.kept {w w' : World} {bb base : Nat} {lv : Value} {B : Bk} (h : BookAt w bb base lv B) (hk : ∀ k, k = bb ∨ lv.ownBlock = some k → w'.heap[k]? = w.heap[k]?) : BookAt w' bb base lv B :=
  ⟨(hk bb (Or.inl rfl)).trans h.hb, own_keptE h.ho (fun g hg => hk g (Or.inr hg))⟩
theorem BookAt.below {w w' : World} {bb base : Nat} {lv : Value} {B : Bk} (h : BookAt w bb base lv B) {N : Nat} (hb : Below N w w') (hN : w.heap.size ≤ N) : BookAt w' bb base lv B :=
  h.kept (fun k hk => hb.block k (Nat.lt_of_lt_of_le (by rcases hk with rfl | hk; exact ltB h.hb; exact (own_ltE h.ho hk).2) hN))

/-- Time goes on. -/
def tellM (B : Bk) (now : Int) : Bk := ⟨if B.time < now then now else B.time, B.ls⟩
set_option maxRecDepth 100000 in
theorem tell50 (bb base : Nat) (lv : Value) (B : Bk) (now : Int) (w : World) (h : BookAt w bb base lv B) :
    Calls Tryz.prog 54 #[.pointer (some ⟨bb, 0, none⟩), .int .u64 now] w fun e w' => e = .returned (.tuple #[]) ∧ BookAt w' bb base lv (tellM B now) ∧ Keep (fun b => b = bb) w w' := by
  have a1 := cellB h.hb
  have a2 := frozenB h.hb
  have hne : ∀ g, lv.ownBlock = some g → g ≠ bb := fun g hg => own_neE h.ho hg h.hb (by decide)
  obtain ⟨a, c, rfl⟩ := own_sliceE h.ho
  by_cases ht : B.time < now
  · have e : tellM B now = ⟨now, B.ls⟩ := by unfold tellM; rw [if_pos ht]
    rw [e]
    have HH := hide h
    have HN := hide hne
    clear h hne e
    go_enter Tryz.func54, Tryz.ntmps54
    go_wp2
    go_end0
    refine ⟨rfl, ⟨by simpa using heapSet HH.out.hb 1 (.int .u64 now), own_keptE HH.out.ho (fun g hg => heapSetO (HN.out g hg) _ _)⟩, ?_⟩
    exact Keep.set (S := fun b => b = bb) (b := bb) (Keep.refl _ w) (Or.inl rfl) _ _
  · have e : tellM B now = B := by unfold tellM; rw [if_neg ht]
    rw [e]
    have HH := hide h
    clear h hne e
    go_enter Tryz.func54, Tryz.ntmps54
    go_wp2
    go_end0
    exact ⟨rfl, HH.out, Keep.refl _ _⟩
end Go.Proofs.YtnlgndpcddngoaaGreatDoor

namespace Go.Proofs.YtnlgndpcddngoaaGreatDoor
open Go.RowKit

structure Bk.ok (B : Bk) : Prop where
  time : 0 ≤ B.time ∧ B.time ≤ 18446744073709551615
  len : B.ls.length ≤ 12
  ln : ∀ l ∈ B.ls, l.ok
/-- A request's cells. -/
abbrev rqv (q : Rq) : Value := .agg #[.int .u8 q.op, .int .u8 q.k0, .int .u8 q.k1, .int .u8 q.k2, .int .u8 q.k3, .int .u8 q.k4, .int .u8 q.k5, .int .u8 q.k6, .int .u8 q.k7, .int .u8 q.kd, .int .u64 q.x, .int .u64 q.y, .int .u64 q.n]
/-- What Ask leaves. -/
def AskPost (bb base : Nat) (lv : Value) (B : Bk) (q : Rq) (w : World) (e : Ending) (w' : World) : Prop :=
  ∃ lv', e = .returned (.agg #[.int .u8 (askM B q).2.c, .int .u64 (askM B q).2.a, .int .u64 (askM B q).2.b]) ∧ BookAt w' bb base lv' (askM B q).1 ∧ Keep (fun b => b = bb ∨ lv.ownBlock = some b) w w' ∧ (∀ g, lv'.ownBlock = some g → lv.ownBlock = some g ∨ w.heap.size ≤ g)

theorem AskPost.mk' {w u : World} {bb base : Nat} {lv lv' : Value} {B B' : Bk} {q : Rq} {c a b : Int} {R : Nat} (h : BookAt u bb base lv' B') (he : askM B q = (B', ⟨c, a, b⟩)) (hR : w.heap.size ≤ R) (h1 : bb ≠ R) (h2 : ∀ g, lv'.ownBlock = some g → g ≠ R) (hk : Keep (fun b => b = bb ∨ lv.ownBlock = some b) w u) (hl : ∀ g, lv'.ownBlock = some g → lv.ownBlock = some g ∨ w.heap.size ≤ g) :
    AskPost bb base lv B q w (.returned (.agg #[.int .u8 c, .int .u64 a, .int .u64 b])) (((u.setCell ⟨R, 0, none⟩ (.int .u8 c)).setCell ⟨R, 1, none⟩ (.int .u64 a)).setCell ⟨R, 2, none⟩ (.int .u64 b)) := by
  refine ⟨lv', by rw [he], ?_, ((hk.set (Or.inr hR) _ _).set (Or.inr hR) _ _).set (Or.inr hR) _ _, hl⟩
  rw [he]
  refine h.kept (fun k hk => ?_)
  have hne : k ≠ R := by
    rcases hk with rfl | hk
    · exact h1
    · exact h2 k hk
  rw [heapSetO hne, heapSetO hne, heapSetO hne]

set_option maxRecDepth 100000 in
set_option maxHeartbeats 2000000 in
/-- Ask: Snapshot. -/
theorem ask57_5 (bb base : Nat) (lv : Value) (B : Bk) (q : Rq) (w : World) (h : BookAt w bb base lv B) (hB : B.ok) (_hq : q.ok) (ho : q.op = 5) :
    Calls Tryz.prog 61 #[.pointer (some ⟨bb, 0, none⟩), rqv q] w (AskPost bb base lv B q w) := by
  obtain ⟨W, hW⟩ : ∃ W, W = (w.alloc (.cells #[.int .u8 q.op, .int .u8 q.k0, .int .u8 q.k1, .int .u8 q.k2, .int .u8 q.k3, .int .u8 q.k4, .int .u8 q.k5, .int .u8 q.k6, .int .u8 q.k7, .int .u8 q.kd, .int .u64 q.x, .int .u64 q.y, .int .u64 q.n] 65)).alloc (.cells #[.int .u8 0, .int .u64 0, .int .u64 0] 40) := ⟨_, rfl⟩
  have hq0 : W.heap[w.heap.size]? = some (.cells #[.int .u8 q.op, .int .u8 q.k0, .int .u8 q.k1, .int .u8 q.k2, .int .u8 q.k3, .int .u8 q.k4, .int .u8 q.k5, .int .u8 q.k6, .int .u8 q.k7, .int .u8 q.kd, .int .u64 q.x, .int .u64 q.y, .int .u64 q.n] 65) := hW ▸ upB (heapNew _ _) _
  have hr0 : W.heap[w.heap.size + 1]? = some (.cells #[.int .u8 0, .int .u64 0, .int .u64 0] 40) := hW ▸ heapN (by simp)
  have hBW : Below w.heap.size w W := hW ▸ ((Below.refl _ w).alloc (Nat.le_refl _) _).alloc (by simp) _
  have hAW := h.below hBW (Nat.le_refl _)
  have hbl := ltB h.hb
  have hgl : ∀ g, lv.ownBlock = some g → g < w.heap.size := fun g hg => (own_ltE h.ho hg).2
  have h84 := find84 bb base lv B q.key W hAW hB.len
  have hl12 := hB.len
  have hTm := hB.time
  have em : askM B q = (B, ⟨1, 0, 0⟩) := by unfold askM; rw [if_neg (by omega), if_pos ho]
  have HE := hide em
  clear em
  have H84 := hide h84
  have HAW := hide hAW
  have HQ0 := hide hq0
  have HR0 := hide hr0
  have HBW := hide hBW
  have HGL := hide hgl
  have HB := hide hB
  have HH := hide h
  clear h84 hAW hq0 hr0 hBW hgl hB h
  have HO := hide ho
  clear ho
  go_enter Tryz.func61, Tryz.ntmps61
  go_wp2_with fail
  have h84 := H84.out
  rw [hW] at h84
  refine h84.mono ?_
  rw [← hW]
  rintro e w1 ⟨rfl, hb1⟩
  have hA1 := HAW.out.below hb1 (Nat.le_refl _)
  have hq1 := (hb1.block _ (ltB HQ0.out)).trans HQ0.out
  have hr1 := (hb1.block _ (ltB HR0.out)).trans HR0.out
  have x0 := cellB hq1
  have x1 := cellB hr1
  have x2 := frozenB hr1
  have y1 := cellB hA1.hb
  have HA1 := hide hA1
  have HR1 := hide hr1
  have HQ1 := hide hq1
  have HBE := hide (HBW.out.trans (hb1.mono HBW.out.size))
  have hbR : bb ≠ w.heap.size + 1 := by omega
  have hbR' : w.heap.size + 1 ≠ bb := by omega
  clear h84 hW hA1 hq1 hr1 hb1
  have ho := HO.out
  obtain ⟨ii, hii⟩ : ∃ ii, ii = idxI q.key B.ls := ⟨_, rfl⟩
  rw [← hii]
  clear hii
  go_wp2_with fail
  exact bodyPost_ret (v := .agg #[.int .u8 1, .int .u64 0, .int .u64 0]) (by simp [results, Tryz.results61, go_sem, x1]) rfl (AskPost.mk' HA1.out HE.out (Nat.le_succ _) hbR (fun g hg => by have := HGL.out g hg; omega) (Keep.of_below HBE.out) (fun g hg => Or.inl hg))
set_option maxRecDepth 100000 in
set_option maxHeartbeats 2000000 in
/-- Ask: Clock. -/
theorem ask57_6 (bb base : Nat) (lv : Value) (B : Bk) (q : Rq) (w : World) (h : BookAt w bb base lv B) (hB : B.ok) (_hq : q.ok) (ho : q.op = 6) :
    Calls Tryz.prog 61 #[.pointer (some ⟨bb, 0, none⟩), rqv q] w (AskPost bb base lv B q w) := by
  obtain ⟨W, hW⟩ : ∃ W, W = (w.alloc (.cells #[.int .u8 q.op, .int .u8 q.k0, .int .u8 q.k1, .int .u8 q.k2, .int .u8 q.k3, .int .u8 q.k4, .int .u8 q.k5, .int .u8 q.k6, .int .u8 q.k7, .int .u8 q.kd, .int .u64 q.x, .int .u64 q.y, .int .u64 q.n] 65)).alloc (.cells #[.int .u8 0, .int .u64 0, .int .u64 0] 40) := ⟨_, rfl⟩
  have hq0 : W.heap[w.heap.size]? = some (.cells #[.int .u8 q.op, .int .u8 q.k0, .int .u8 q.k1, .int .u8 q.k2, .int .u8 q.k3, .int .u8 q.k4, .int .u8 q.k5, .int .u8 q.k6, .int .u8 q.k7, .int .u8 q.kd, .int .u64 q.x, .int .u64 q.y, .int .u64 q.n] 65) := hW ▸ upB (heapNew _ _) _
  have hr0 : W.heap[w.heap.size + 1]? = some (.cells #[.int .u8 0, .int .u64 0, .int .u64 0] 40) := hW ▸ heapN (by simp)
  have hBW : Below w.heap.size w W := hW ▸ ((Below.refl _ w).alloc (Nat.le_refl _) _).alloc (by simp) _
  have hAW := h.below hBW (Nat.le_refl _)
  have hbl := ltB h.hb
  have hgl : ∀ g, lv.ownBlock = some g → g < w.heap.size := fun g hg => (own_ltE h.ho hg).2
  have h84 := find84 bb base lv B q.key W hAW hB.len
  have hl12 := hB.len
  have hTm := hB.time
  have em : askM B q = (B, ⟨1, B.time, 0⟩) := by unfold askM; rw [if_neg (by omega), if_neg (by omega), if_pos ho]
  have HE := hide em
  clear em
  have H84 := hide h84
  have HAW := hide hAW
  have HQ0 := hide hq0
  have HR0 := hide hr0
  have HBW := hide hBW
  have HGL := hide hgl
  have HB := hide hB
  have HH := hide h
  clear h84 hAW hq0 hr0 hBW hgl hB h
  have HO := hide ho
  clear ho
  go_enter Tryz.func61, Tryz.ntmps61
  go_wp2_with fail
  have h84 := H84.out
  rw [hW] at h84
  refine h84.mono ?_
  rw [← hW]
  rintro e w1 ⟨rfl, hb1⟩
  have hA1 := HAW.out.below hb1 (Nat.le_refl _)
  have hq1 := (hb1.block _ (ltB HQ0.out)).trans HQ0.out
  have hr1 := (hb1.block _ (ltB HR0.out)).trans HR0.out
  have x0 := cellB hq1
  have x1 := cellB hr1
  have x2 := frozenB hr1
  have y1 := cellB hA1.hb
  have HA1 := hide hA1
  have HR1 := hide hr1
  have HQ1 := hide hq1
  have HBE := hide (HBW.out.trans (hb1.mono HBW.out.size))
  have hbR : bb ≠ w.heap.size + 1 := by omega
  have hbR' : w.heap.size + 1 ≠ bb := by omega
  clear h84 hW hA1 hq1 hr1 hb1
  have ho := HO.out
  obtain ⟨ii, hii⟩ : ∃ ii, ii = idxI q.key B.ls := ⟨_, rfl⟩
  rw [← hii]
  clear hii
  go_wp2_with fail
  exact bodyPost_ret (v := .agg #[.int .u8 1, .int .u64 B.time, .int .u64 0]) (by simp [results, Tryz.results61, go_sem, x1]) rfl (AskPost.mk' HA1.out HE.out (Nat.le_succ _) hbR (fun g hg => by have := HGL.out g hg; omega) (Keep.of_below HBE.out) (fun g hg => Or.inl hg))
set_option maxRecDepth 100000 in
set_option maxHeartbeats 2000000 in
/-- Ask: the key is not there. -/
theorem ask57_no (bb base : Nat) (lv : Value) (B : Bk) (q : Rq) (w : World) (h : BookAt w bb base lv B) (hB : B.ok) (_hq : q.ok) (ho : q.op = 2 ∨ q.op = 3 ∨ q.op = 4) (hi : idx q.key B.ls = none) :
    Calls Tryz.prog 61 #[.pointer (some ⟨bb, 0, none⟩), rqv q] w (AskPost bb base lv B q w) := by
  obtain ⟨W, hW⟩ : ∃ W, W = (w.alloc (.cells #[.int .u8 q.op, .int .u8 q.k0, .int .u8 q.k1, .int .u8 q.k2, .int .u8 q.k3, .int .u8 q.k4, .int .u8 q.k5, .int .u8 q.k6, .int .u8 q.k7, .int .u8 q.kd, .int .u64 q.x, .int .u64 q.y, .int .u64 q.n] 65)).alloc (.cells #[.int .u8 0, .int .u64 0, .int .u64 0] 40) := ⟨_, rfl⟩
  have hq0 : W.heap[w.heap.size]? = some (.cells #[.int .u8 q.op, .int .u8 q.k0, .int .u8 q.k1, .int .u8 q.k2, .int .u8 q.k3, .int .u8 q.k4, .int .u8 q.k5, .int .u8 q.k6, .int .u8 q.k7, .int .u8 q.kd, .int .u64 q.x, .int .u64 q.y, .int .u64 q.n] 65) := hW ▸ upB (heapNew _ _) _
  have hr0 : W.heap[w.heap.size + 1]? = some (.cells #[.int .u8 0, .int .u64 0, .int .u64 0] 40) := hW ▸ heapN (by simp)
  have hBW : Below w.heap.size w W := hW ▸ ((Below.refl _ w).alloc (Nat.le_refl _) _).alloc (by simp) _
  have hAW := h.below hBW (Nat.le_refl _)
  have hbl := ltB h.hb
  have hgl : ∀ g, lv.ownBlock = some g → g < w.heap.size := fun g hg => (own_ltE h.ho hg).2
  have h84 := find84 bb base lv B q.key W hAW hB.len
  have hl12 := hB.len
  have hTm := hB.time
  have em : askM B q = (B, ⟨4, 0, 0⟩) := by unfold askM; rw [if_neg (by omega), if_neg (by omega), if_neg (by omega), hi]
  have hii : idxI q.key B.ls = -1 := by unfold idxI; rw [hi]
  rw [hii] at h84
  have HE := hide em
  have o1 : (q.op == 1) = false := by simp; omega
  have o5 : (q.op == 5) = false := by simp; omega
  have o6 : (q.op == 6) = false := by simp; omega
  have p1 : ¬ q.op = 1 := by omega
  have p5 : ¬ q.op = 5 := by omega
  have p6 : ¬ q.op = 6 := by omega
  clear em hi hii ho
  have H84 := hide h84
  have HAW := hide hAW
  have HQ0 := hide hq0
  have HR0 := hide hr0
  have HBW := hide hBW
  have HGL := hide hgl
  have HB := hide hB
  have HH := hide h
  clear h84 hAW hq0 hr0 hBW hgl hB h
  go_enter Tryz.func61, Tryz.ntmps61
  go_wp2_with fail
  have h84 := H84.out
  rw [hW] at h84
  refine h84.mono ?_
  rw [← hW]
  rintro e w1 ⟨rfl, hb1⟩
  have hA1 := HAW.out.below hb1 (Nat.le_refl _)
  have hq1 := (hb1.block _ (ltB HQ0.out)).trans HQ0.out
  have hr1 := (hb1.block _ (ltB HR0.out)).trans HR0.out
  have x0 := cellB hq1
  have x1 := cellB hr1
  have x2 := frozenB hr1
  have y1 := cellB hA1.hb
  have HA1 := hide hA1
  have HR1 := hide hr1
  have HQ1 := hide hq1
  have HBE := hide (HBW.out.trans (hb1.mono HBW.out.size))
  have hbR : bb ≠ w.heap.size + 1 := by omega
  have hbR' : w.heap.size + 1 ≠ bb := by omega
  clear h84 hW hA1 hq1 hr1 hb1
  go_wp2_with fail
  exact bodyPost_ret (v := .agg #[.int .u8 4, .int .u64 0, .int .u64 0]) (by simp [results, Tryz.results61, go_sem, x1]) rfl (AskPost.mk' HA1.out HE.out (Nat.le_succ _) hbR (fun g hg => by have := HGL.out g hg; omega) (Keep.of_below HBE.out) (fun g hg => Or.inl hg))
set_option maxRecDepth 100000 in
set_option maxHeartbeats 2000000 in
/-- Ask: Query. -/
theorem ask57_3 (bb base : Nat) (lv : Value) (B : Bk) (q : Rq) (w : World) (h : BookAt w bb base lv B) (hB : B.ok) (_hq : q.ok) (ho : q.op = 3) (i : Nat) (hi : idx q.key B.ls = some i) :
    Calls Tryz.prog 61 #[.pointer (some ⟨bb, 0, none⟩), rqv q] w (AskPost bb base lv B q w) := by
  obtain ⟨W, hW⟩ : ∃ W, W = (w.alloc (.cells #[.int .u8 q.op, .int .u8 q.k0, .int .u8 q.k1, .int .u8 q.k2, .int .u8 q.k3, .int .u8 q.k4, .int .u8 q.k5, .int .u8 q.k6, .int .u8 q.k7, .int .u8 q.kd, .int .u64 q.x, .int .u64 q.y, .int .u64 q.n] 65)).alloc (.cells #[.int .u8 0, .int .u64 0, .int .u64 0] 40) := ⟨_, rfl⟩
  have hq0 : W.heap[w.heap.size]? = some (.cells #[.int .u8 q.op, .int .u8 q.k0, .int .u8 q.k1, .int .u8 q.k2, .int .u8 q.k3, .int .u8 q.k4, .int .u8 q.k5, .int .u8 q.k6, .int .u8 q.k7, .int .u8 q.kd, .int .u64 q.x, .int .u64 q.y, .int .u64 q.n] 65) := hW ▸ upB (heapNew _ _) _
  have hr0 : W.heap[w.heap.size + 1]? = some (.cells #[.int .u8 0, .int .u64 0, .int .u64 0] 40) := hW ▸ heapN (by simp)
  have hBW : Below w.heap.size w W := hW ▸ ((Below.refl _ w).alloc (Nat.le_refl _) _).alloc (by simp) _
  have hAW := h.below hBW (Nat.le_refl _)
  have hbl := ltB h.hb
  have hgl : ∀ g, lv.ownBlock = some g → g < w.heap.size := fun g hg => (own_ltE h.ho hg).2
  have h84 := find84 bb base lv B q.key W hAW hB.len
  have hl12 := hB.len
  have hTm := hB.time
  obtain ⟨l, hl⟩ : ∃ l, B.ls[i]? = some l := ⟨_, List.getElem?_eq_getElem (idx_lt hi)⟩
  have hgd : B.ls.getD i ⟨q.key, 0, 0, 0, 0, 0⟩ = l := by simp [List.getD, hl]
  have em : askM B q = (B, ⟨1, (standsM B.time l).1, (standsM B.time l).2⟩) := by unfold askM; rw [if_neg (by omega), if_neg (by omega), if_neg (by omega), hi]; dsimp only; rw [if_pos ho, hgd]
  have hii : idxI q.key B.ls = (i : Int) := by unfold idxI; rw [hi]
  rw [hii] at h84
  have hi12 : (i : Int) ≤ 12 := by have := idx_lt hi; omega
  have hi0 : (0 : Int) ≤ (i : Int) := by omega
  have hin : ¬ (i : Int) < 0 := by omega
  have hlo := hB.ln l (List.mem_of_getElem? hl)
  have HE := hide em
  have HL := hide hl
  have HLO := hide hlo
  clear em hi hii hgd hl hlo
  have H84 := hide h84
  have HAW := hide hAW
  have HQ0 := hide hq0
  have HR0 := hide hr0
  have HBW := hide hBW
  have HGL := hide hgl
  have HB := hide hB
  have HH := hide h
  clear h84 hAW hq0 hr0 hBW hgl hB h
  have HO := hide ho
  clear ho
  go_enter Tryz.func61, Tryz.ntmps61
  go_wp2_with fail
  have h84 := H84.out
  rw [hW] at h84
  refine h84.mono ?_
  rw [← hW]
  rintro e w1 ⟨rfl, hb1⟩
  have hA1 := HAW.out.below hb1 (Nat.le_refl _)
  have hq1 := (hb1.block _ (ltB HQ0.out)).trans HQ0.out
  have hr1 := (hb1.block _ (ltB HR0.out)).trans HR0.out
  have x0 := cellB hq1
  have x1 := cellB hr1
  have x2 := frozenB hr1
  have y1 := cellB hA1.hb
  have HA1 := hide hA1
  have HR1 := hide hr1
  have HQ1 := hide hq1
  have HBE := hide (HBW.out.trans (hb1.mono HBW.out.size))
  have hbR : bb ≠ w.heap.size + 1 := by omega
  have hbR' : w.heap.size + 1 ≠ bb := by omega
  clear h84 hW hA1 hq1 hr1 hb1
  have ho := HO.out
  go_wp2_with fail
  refine (stands85 bb base lv B i l _ HA1.out HL.out hl12 HLO.out hTm).mono ?_
  rintro e w2 ⟨rfl, hb2⟩
  obtain ⟨s1, hs1⟩ : ∃ s1, s1 = (standsM B.time l).1 := ⟨_, rfl⟩
  obtain ⟨s2, hs2⟩ : ∃ s2, s2 = (standsM B.time l).2 := ⟨_, rfl⟩
  have HE2 := HE.out
  rw [← hs1, ← hs2] at HE2 ⊢
  have HE3 := hide HE2
  have hlr : w.heap.size + 1 < w1.heap.size := ltB HR1.out
  have hr2 := (hb2.block _ hlr).trans HR1.out
  have z1 := cellB hr2
  have z2 := frozenB hr2
  have HA2 := hide (HA1.out.below hb2 (Nat.le_refl _))
  have HBE2 := hide (HBE.out.trans (hb2.mono HBE.out.size))
  clear x0 x1 x2 y1 HE2 hs1 hs2 hb2 hr2
  go_wp2_with fail
  exact bodyPost_ret (v := .agg #[.int .u8 1, .int .u64 s1, .int .u64 s2]) (by simp [results, Tryz.results61, go_sem, z1]) rfl (AskPost.mk' HA2.out HE3.out (Nat.le_succ _) hbR (fun g hg => by have := HGL.out g hg; omega) (Keep.of_below HBE2.out) (fun g hg => Or.inl hg))
end Go.Proofs.YtnlgndpcddngoaaGreatDoor

namespace Go.Proofs.YtnlgndpcddngoaaGreatDoor
open Go.RowKit

set_option maxRecDepth 100000 in
set_option maxHeartbeats 2000000 in
theorem windowed112 (bb base : Nat) (lv : Value) (B : Bk) (i : Nat) (l : Ln) (n : Int) (w : World) (h : BookAt w bb base lv B) (hi : B.ls[i]? = some l) (hl : B.ls.length ≤ 12) (ho : l.ok) (hk : ¬ l.kd = 1) (hn : 0 ≤ n ∧ n ≤ 18446744073709551615) (hT : 0 ≤ B.time ∧ B.time ≤ 18446744073709551615) :
    Calls Tryz.prog 123 #[.pointer (some ⟨bb, 0, none⟩), .int .i64 i, .int .u64 n] w fun e w' => e = .returned (.tuple #[.int .u64 (windowedM B.time l n).1, .bool (windowedM B.time l n).2.1, .int .u64 (windowedM B.time l n).2.2]) ∧ Below w.heap.size w w' := by
  obtain ⟨W0, hW0⟩ : ∃ W0, W0 = w.alloc (.cells #[.int .u8 l.k.k0, .int .u8 l.k.k1, .int .u8 l.k.k2, .int .u8 l.k.k3, .int .u8 l.k.k4, .int .u8 l.k.k5, .int .u8 l.k.k6, .int .u8 l.k.k7, .int .u8 l.kd, .int .u64 l.x, .int .u64 l.y, .int .u64 l.at_, .int .u64 l.in_] 151) := ⟨_, rfl⟩
  have hbx : W0.heap[w.heap.size]? = some (.cells #[.int .u8 l.k.k0, .int .u8 l.k.k1, .int .u8 l.k.k2, .int .u8 l.k.k3, .int .u8 l.k.k4, .int .u8 l.k.k5, .int .u8 l.k.k6, .int .u8 l.k.k7, .int .u8 l.kd, .int .u64 l.x, .int .u64 l.y, .int .u64 l.at_, .int .u64 l.in_] 151) := hW0 ▸ heapNew _ _
  have hB0 : Below w.heap.size w W0 := hW0 ▸ (Below.refl _ w).alloc (Nat.le_refl _) _
  have hA0 := h.below hB0 (Nat.le_refl _)
  have h85 := stands85 bb base lv B i l W0 hA0 hi hl ho hT
  obtain ⟨g, cap, rfl, _, hgl, L, hlt⟩ := h.open hi
  obtain ⟨d0, d1, d2, d3, d4, d5, d6, d7, d8, d9, d10, d11, d12⟩ := L
  have a1 := cellB h.hb 0
  have hlt' : (i : Int) < (B.ls.length : Int) := by omega
  have hl' : (B.ls.length : Int) ≤ 12 := by omega
  have hi0 : (0 : Int) ≤ (i : Int) := by omega
  have hx := ho.x
  have hy := ho.y
  have hyp := ho.yp hk
  have hs2 : (standsM B.time l).2 = B.time / l.y := by unfold standsM; rw [if_neg hk]; split <;> rfl
  have hs1 : 0 ≤ (standsM B.time l).1 ∧ (standsM B.time l).1 ≤ 18446744073709551615 := by
    have := ho.at_
    unfold standsM
    rw [if_neg hk]
    split <;> dsimp only <;> omega
  have hd0 : 0 ≤ B.time / l.y := Int.ediv_nonneg (by omega) (by omega)
  have hd1 : B.time / l.y ≤ B.time := Int.ediv_le_self _ (by omega)
  have hwm : windowedM B.time l n = if (standsM B.time l).1 + n ≤ l.x then ((standsM B.time l).1 + n, true, 0) else if l.x < n then (0, false, 18446744073709551615) else (0, false, orNever (((standsM B.time l).2 + 1) * l.y)) := by
    unfold windowedM; rw [hs2]
  obtain ⟨C, hC⟩ : ∃ C, C = (standsM B.time l).1 := ⟨_, rfl⟩
  obtain ⟨Wn, hWn⟩ : ∃ Wn, Wn = (standsM B.time l).2 := ⟨_, rfl⟩
  rw [← hC, ← hWn] at h85 hwm
  rw [← hC] at hs1
  have hwr : 0 ≤ Wn ∧ Wn ≤ 18446744073709551615 := by rw [hWn, hs2]; omega
  obtain ⟨m, hm⟩ : ∃ m, m = B.ls.length := ⟨_, rfl⟩
  rw [← hm] at hlt' hl' a1
  have hp1 := plus128 C n
  have hp2 := plus128 Wn 1
  have ht1 := times127 (orNever (Wn + 1)) l.y
  have H85 := hide h85
  have HW := hide hwm
  have HB0 := hide hB0
  have HBX := hide hbx
  have HP1 := hide hp1
  have HP2 := hide hp2
  have HT1 := hide ht1
  clear h85 hwm hB0 hbx hp1 hp2 ht1 hC hWn hm hi hl hlt hA0 h ho hs2 hd0 hd1
  go_enter Tryz.func123, Tryz.ntmps123
  go_wp2_with fail
  rw [← hW0]
  clear hW0
  refine H85.out.mono ?_
  rintro e w1 ⟨rfl, hb1⟩
  have hbx1 := (hb1.block _ (ltB HBX.out)).trans HBX.out
  have x1 := cellB hbx1
  have HBW := hide (HB0.out.trans (hb1.mono HB0.out.size))
  clear hb1 hbx1 d0 d1 d2 d3 d4 d5 d6 d7 d8 d9 d10 d11 d12 a1
  go_wp2_with fail
  refine (HP1.out _ hs1 hn).mono ?_
  rintro e w2 ⟨rfl, rfl⟩
  by_cases c1 : C + n ≤ l.x
  · have e := HW.out
    rw [if_pos c1] at e
    have HE := hide e
    have e1 : orNever (C + n) = C + n := by unfold orNever; rw [if_pos (by omega)]
    have e2 : decide (C + n ≤ 18446744073709551615) = true := by simp; omega
    rw [e1, e2]
    clear e e1 e2 HW
    go_wp2
    exact bodyPost_ret (v := .tuple #[.int .u64 (C + n), .bool true, .int .u64 0]) (by simp [results, Tryz.results123, go_sem]) rfl ⟨by rw [HE.out], HBW.out⟩
  · obtain ⟨o1, ho1⟩ : ∃ o1, o1 = decide (C + n ≤ 18446744073709551615) := ⟨_, rfl⟩
    obtain ⟨S1, hS1⟩ : ∃ S1, S1 = orNever (C + n) := ⟨_, rfl⟩
    have hS1n : o1 = true → ¬ S1 ≤ l.x := fun h => by
      rw [ho1] at h
      have := of_decide_eq_true h
      rw [hS1]; unfold orNever; rw [if_pos this]; exact c1
    rw [← ho1, ← hS1]
    clear ho1 hS1
    by_cases c2 : l.x < n
    · have e := HW.out
      rw [if_neg c1, if_pos c2] at e
      have HE := hide e
      clear e HW c1
      cases o1 with
      | true =>
        have hs := hS1n rfl
        clear hS1n
        go_wp2
        exact bodyPost_ret (v := .tuple #[.int .u64 0, .bool false, .int .u64 18446744073709551615]) (by simp [results, Tryz.results123, go_sem]) rfl ⟨by rw [HE.out], HBW.out⟩
      | false =>
        clear hS1n
        go_wp2
        exact bodyPost_ret (v := .tuple #[.int .u64 0, .bool false, .int .u64 18446744073709551615]) (by simp [results, Tryz.results123, go_sem]) rfl ⟨by rw [HE.out], HBW.out⟩
    · have e := HW.out
      rw [if_neg c1, if_neg c2] at e
      have HE := hide e
      have hor : 0 ≤ orNever (Wn + 1) ∧ orNever (Wn + 1) ≤ 18446744073709551615 := by unfold orNever; split <;> omega
      clear e HW c1
      cases o1 with
      | true =>
        have hs := hS1n rfl
        clear hS1n
        go_wp2_with fail
        refine (HP2.out _ hwr (by omega)).mono ?_
        rintro e w3 ⟨rfl, rfl⟩
        go_wp2_with fail
        refine (HT1.out _ hor (by omega)).mono ?_
        rintro e w4 ⟨rfl, rfl⟩
        by_cases c3 : Wn + 1 ≤ 18446744073709551615 ∧ (Wn + 1) * l.y ≤ 18446744073709551615
        · have e1 : orNever (Wn + 1) = Wn + 1 := by unfold orNever; rw [if_pos c3.1]
          have e2 : decide (Wn + 1 ≤ 18446744073709551615) = true := by simpa using c3.1
          have e3 : decide ((Wn + 1) * l.y ≤ 18446744073709551615) = true := by simpa using c3.2
          rw [e1, e2, e3]
          clear e1 e2 e3 c3
          obtain ⟨R, hR⟩ : ∃ R, R = orNever ((Wn + 1) * l.y) := ⟨_, rfl⟩
          have HE2 := HE.out
          rw [← hR] at HE2 ⊢
          have HE3 := hide HE2
          clear HE2 hR
          go_wp2
          exact bodyPost_ret (v := .tuple #[.int .u64 0, .bool false, .int .u64 R]) (by simp [results, Tryz.results123, go_sem]) rfl ⟨by rw [HE3.out], HBW.out⟩
        · have hNV : orNever ((Wn + 1) * l.y) = 18446744073709551615 := by
            unfold orNever
            split
            · rename_i hle
              have hge : (Wn + 1) * 1 ≤ (Wn + 1) * l.y := Int.mul_le_mul_of_nonneg_left hyp (by omega)
              exact absurd ⟨by omega, hle⟩ c3
            · rfl
          have HE2 := HE.out
          rw [hNV] at HE2
          have HE3 := hide HE2
          have hoo : decide (Wn + 1 ≤ 18446744073709551615) = false ∨ (decide (Wn + 1 ≤ 18446744073709551615) = true ∧ decide (orNever (Wn + 1) * l.y ≤ 18446744073709551615) = false) := by
            by_cases h1 : Wn + 1 ≤ 18446744073709551615
            · right
              refine ⟨by simpa using h1, ?_⟩
              have e1 : orNever (Wn + 1) = Wn + 1 := by unfold orNever; rw [if_pos h1]
              rw [e1]
              simpa using fun h2 => c3 ⟨h1, h2⟩
            · left; simpa using h1
          obtain ⟨q1, hq1⟩ : ∃ q1, q1 = decide (Wn + 1 ≤ 18446744073709551615) := ⟨_, rfl⟩
          obtain ⟨q2, hq2⟩ : ∃ q2, q2 = decide (orNever (Wn + 1) * l.y ≤ 18446744073709551615) := ⟨_, rfl⟩
          obtain ⟨R1, hR1⟩ : ∃ R1, R1 = orNever (orNever (Wn + 1) * l.y) := ⟨_, rfl⟩
          obtain ⟨R2, hR2⟩ : ∃ R2, R2 = orNever (Wn + 1) := ⟨_, rfl⟩
          rw [← hq1, ← hq2] at hoo
          rw [← hR1, ← hq2, ← hq1, ← hR2]
          clear hq1 hq2 HE2 hNV c3 hR1 hR2 hor
          rcases hoo with rfl | ⟨rfl, rfl⟩
          all_goals go_wp2
          all_goals exact bodyPost_ret (v := .tuple #[.int .u64 0, .bool false, .int .u64 18446744073709551615]) (by simp [results, Tryz.results123, go_sem]) rfl ⟨by rw [HE3.out], HBW.out⟩
      | false =>
        clear hS1n
        go_wp2_with fail
        refine (HP2.out _ hwr (by omega)).mono ?_
        rintro e w3 ⟨rfl, rfl⟩
        go_wp2_with fail
        refine (HT1.out _ hor (by omega)).mono ?_
        rintro e w4 ⟨rfl, rfl⟩
        by_cases c3 : Wn + 1 ≤ 18446744073709551615 ∧ (Wn + 1) * l.y ≤ 18446744073709551615
        · have e1 : orNever (Wn + 1) = Wn + 1 := by unfold orNever; rw [if_pos c3.1]
          have e2 : decide (Wn + 1 ≤ 18446744073709551615) = true := by simpa using c3.1
          have e3 : decide ((Wn + 1) * l.y ≤ 18446744073709551615) = true := by simpa using c3.2
          rw [e1, e2, e3]
          clear e1 e2 e3 c3
          obtain ⟨R, hR⟩ : ∃ R, R = orNever ((Wn + 1) * l.y) := ⟨_, rfl⟩
          have HE2 := HE.out
          rw [← hR] at HE2 ⊢
          have HE3 := hide HE2
          clear HE2 hR
          go_wp2
          exact bodyPost_ret (v := .tuple #[.int .u64 0, .bool false, .int .u64 R]) (by simp [results, Tryz.results123, go_sem]) rfl ⟨by rw [HE3.out], HBW.out⟩
        · have hNV : orNever ((Wn + 1) * l.y) = 18446744073709551615 := by
            unfold orNever
            split
            · rename_i hle
              have hge : (Wn + 1) * 1 ≤ (Wn + 1) * l.y := Int.mul_le_mul_of_nonneg_left hyp (by omega)
              exact absurd ⟨by omega, hle⟩ c3
            · rfl
          have HE2 := HE.out
          rw [hNV] at HE2
          have HE3 := hide HE2
          have hoo : decide (Wn + 1 ≤ 18446744073709551615) = false ∨ (decide (Wn + 1 ≤ 18446744073709551615) = true ∧ decide (orNever (Wn + 1) * l.y ≤ 18446744073709551615) = false) := by
            by_cases h1 : Wn + 1 ≤ 18446744073709551615
            · right
              refine ⟨by simpa using h1, ?_⟩
              have e1 : orNever (Wn + 1) = Wn + 1 := by unfold orNever; rw [if_pos h1]
              rw [e1]
              simpa using fun h2 => c3 ⟨h1, h2⟩
            · left; simpa using h1
          obtain ⟨q1, hq1⟩ : ∃ q1, q1 = decide (Wn + 1 ≤ 18446744073709551615) := ⟨_, rfl⟩
          obtain ⟨q2, hq2⟩ : ∃ q2, q2 = decide (orNever (Wn + 1) * l.y ≤ 18446744073709551615) := ⟨_, rfl⟩
          obtain ⟨R1, hR1⟩ : ∃ R1, R1 = orNever (orNever (Wn + 1) * l.y) := ⟨_, rfl⟩
          obtain ⟨R2, hR2⟩ : ∃ R2, R2 = orNever (Wn + 1) := ⟨_, rfl⟩
          rw [← hq1, ← hq2] at hoo
          rw [← hR1, ← hq2, ← hq1, ← hR2]
          clear hq1 hq2 HE2 hNV c3 hR1 hR2 hor
          rcases hoo with rfl | ⟨rfl, rfl⟩
          all_goals go_wp2
          all_goals exact bodyPost_ret (v := .tuple #[.int .u64 0, .bool false, .int .u64 18446744073709551615]) (by simp [results, Tryz.results123, go_sem]) rfl ⟨by rw [HE3.out], HBW.out⟩
end Go.Proofs.YtnlgndpcddngoaaGreatDoor

namespace Go.Proofs.YtnlgndpcddngoaaGreatDoor
open Go.RowKit


set_option maxRecDepth 100000 in
set_option maxHeartbeats 1000000 in
theorem refreq1 (k0 k1 k2 k3 k4 k5 k6 k7 kd x y n : Int) (w : World) (hx0 : 0 ≤ x) (hx1 : x ≤ 18446744073709551615) (hy0 : 0 ≤ y) (hy1 : y ≤ 18446744073709551615) :
    Calls Tryz.prog 53 #[.agg #[.int .u8 1, .int .u8 k0, .int .u8 k1, .int .u8 k2, .int .u8 k3, .int .u8 k4, .int .u8 k5, .int .u8 k6, .int .u8 k7, .int .u8 kd, .int .u64 x, .int .u64 y, .int .u64 n]] w
      fun e w' => ∃ v', e = .returned v' ∧ w'.ownsRow w.heap.size 5 1 v' 27 (([26, 1, k0, k1, k2, k3, k4, k5, k6, k7, kd] ++ be8 x ++ be8 y).map (Value.int .u8)) ∧ Below w.heap.size w w' := by
  obtain ⟨i0, hi, hz0, hz1, hz2⟩ := info_parts Tryz.info5
  have hc1 : ∀ j, ((w.alloc (.cells #[.int .u8 1, .int .u8 k0, .int .u8 k1, .int .u8 k2, .int .u8 k3, .int .u8 k4, .int .u8 k5, .int .u8 k6, .int .u8 k7, .int .u8 kd, .int .u64 x, .int .u64 y, .int .u64 n] 65)).alloc (.cells #[.int .u8 26, .int .u8 1] 5)).cell? ⟨w.heap.size, j, none⟩ = (#[.int .u8 1, .int .u8 k0, .int .u8 k1, .int .u8 k2, .int .u8 k3, .int .u8 k4, .int .u8 k5, .int .u8 k6, .int .u8 k7, .int .u8 kd, .int .u64 x, .int .u64 y, .int .u64 n] : Array Value)[j]? := fun j => (World.cell?_alloc_past _ _ _ (by simp)).trans (cell_box w _ _ j)
  have hown1 : ((w.alloc (.cells #[.int .u8 1, .int .u8 k0, .int .u8 k1, .int .u8 k2, .int .u8 k3, .int .u8 k4, .int .u8 k5, .int .u8 k6, .int .u8 k7, .int .u8 kd, .int .u64 x, .int .u64 y, .int .u64 n] 65)).alloc (.cells #[.int .u8 26, .int .u8 1] 5)).ownsRow (w.heap.size + 1) 5 1 (.slice (some ⟨w.heap.size + 1, 0, none⟩) 2 2) 2 [.int .u8 26, .int .u8 1] := by
    have h := World.ownsRow_lit (base := w.heap.size + 1) (e := 5) (size := 1) (w.alloc (.cells #[.int .u8 1, .int .u8 k0, .int .u8 k1, .int .u8 k2, .int .u8 k3, .int .u8 k4, .int .u8 k5, .int .u8 k6, .int .u8 k7, .int .u8 kd, .int .u64 x, .int .u64 y, .int .u64 n] 65)) #[.int .u8 26, .int .u8 1] 2 (by simp) (by unfold maxLen; omega) rfl
    simpa using h
  have hB1 : Below w.heap.size w ((w.alloc (.cells #[.int .u8 1, .int .u8 k0, .int .u8 k1, .int .u8 k2, .int .u8 k3, .int .u8 k4, .int .u8 k5, .int .u8 k6, .int .u8 k7, .int .u8 kd, .int .u64 x, .int .u64 y, .int .u64 n] 65)).alloc (.cells #[.int .u8 26, .int .u8 1] 5)) := ((Below.refl _ w).alloc (Nat.le_refl _) _).alloc (by simp) _
  have hs1 : w.heap.size + 1 < ((w.alloc (.cells #[.int .u8 1, .int .u8 k0, .int .u8 k1, .int .u8 k2, .int .u8 k3, .int .u8 k4, .int .u8 k5, .int .u8 k6, .int .u8 k7, .int .u8 kd, .int .u64 x, .int .u64 y, .int .u64 n] 65)).alloc (.cells #[.int .u8 26, .int .u8 1] 5)).heap.size := by simp
  have hl : reqLen 1 = 26 := rfl
  go_enter Tryz.func53, Tryz.ntmps53
  go_wp2_with (first | (go_at_call 83; refine (size_any _ _).mono ?_; rintro e w' ⟨rfl, rfl⟩) | (at_builtin; refine wpList_append_own _ rfl (.tmp 17) (.tmp 19) 76 rfl (w.heap.size + 1) 5 i0 (.int .u8 0) 1 1 Tryz.underlying76 hi hz0 hz1 hz2 rfl (by decide) (.slice (some ⟨w.heap.size + 1, 0, none⟩) 2 2) 2 _ rfl hown1 ⟨w.heap.size, 1, none⟩ 8 8 [.int .u8 k0, .int .u8 k1, .int .u8 k2, .int .u8 k3, .int .u8 k4, .int .u8 k5, .int .u8 k6, .int .u8 k7] rfl rfl (src_of hc1 _ (key_src _ _ _ _ _ _ _ _ _ _ _ _ _)) (by simp [Value.oneCell']) (by unfold maxLen; omega) (by omega) (by simp) ?_; intro v2 w2 hown2 hgrow2 _; have hs2 := Nat.lt_of_lt_of_le hs1 hgrow2.size; have hD2 := (Below.refl (w.heap.size + 1) _).grown hgrow2 (Nat.le_of_lt hs1) (fun kk hkk => (hown1.lt kk hkk).1); have hc2 := fun j => (hD2.cell (p := ⟨w.heap.size, j, none⟩) (Nat.lt_succ_self _)).trans (hc1 j)) | (at_builtin; (refine wpList_append_own _ rfl (.tmp 24) (.tmp 28) 76 rfl (w.heap.size + 1) 5 i0 (.int .u8 0) 1 1 Tryz.underlying76 hi hz0 hz1 hz2 rfl (by decide) v2 10 _ rfl (hown2.alloc _) ⟨w2.heap.size, 0, none⟩ 1 1 [.int .u8 kd] rfl rfl (cell_one_new _ _ _) (by simp [Value.oneCell']) (by unfold maxLen; omega) (by omega) (by simp; omega) ?_); intro v3 w3 hown3 hgrow3 _; have hs3 : w.heap.size + 1 < w3.heap.size := (Nat.lt_of_lt_of_le (by simp; omega) hgrow3.size); have hD3 := (hD2.alloc (Nat.le_of_lt hs2) (.cells #[.int .u8 kd] 5)).grown hgrow3 (by simp; omega) (fun kk hkk => (hown2.lt kk hkk).1); have hc3 := fun j => (hD3.cell (p := ⟨w.heap.size, j, none⟩) (Nat.lt_succ_self _)).trans (hc1 j)))
  refine (refnum_any v3 11 (w.heap.size + 1) _ _ _ hown3 (by omega) (by omega) hx0 hx1).mono ?_
  rintro e w4 ⟨v4, rfl, hown4, hb4⟩
  have hs4 : w.heap.size + 1 < w4.heap.size := by have := hb4.size; omega
  have hc4 := fun j => (hb4.cell (p := ⟨w.heap.size, j, none⟩) (Nat.lt_succ_self _)).trans (hc3 j)
  go_wp2_with fail
  refine (refnum_any v4 19 (w.heap.size + 1) _ _ _ hown4 (by omega) (by omega) hy0 hy1).mono ?_
  rintro e w5 ⟨v5, rfl, hown5, hb5⟩
  have hc5 := fun j => (hb5.cell (p := ⟨w.heap.size, j, none⟩) (Nat.lt_succ_self _)).trans (hc4 j)
  go_wp2
  go_ret
  exact ⟨_, rfl, own_down (b := w.heap.size + 1) (by omega) (by simpa using hown5), hB1.trans (((hD3.trans hb4).trans hb5).mono (by omega))⟩

set_option maxRecDepth 100000 in
set_option maxHeartbeats 1000000 in
theorem refreq2 (k0 k1 k2 k3 k4 k5 k6 k7 kd x y n : Int) (w : World) (hn0 : 0 ≤ n) (hn1 : n ≤ 18446744073709551615) :
    Calls Tryz.prog 53 #[.agg #[.int .u8 2, .int .u8 k0, .int .u8 k1, .int .u8 k2, .int .u8 k3, .int .u8 k4, .int .u8 k5, .int .u8 k6, .int .u8 k7, .int .u8 kd, .int .u64 x, .int .u64 y, .int .u64 n]] w
      fun e w' => ∃ v', e = .returned v' ∧ w'.ownsRow w.heap.size 5 1 v' 18 (([17, 2, k0, k1, k2, k3, k4, k5, k6, k7] ++ be8 n).map (Value.int .u8)) ∧ Below w.heap.size w w' := by
  obtain ⟨i0, hi, hz0, hz1, hz2⟩ := info_parts Tryz.info5
  have hc1 : ∀ j, ((w.alloc (.cells #[.int .u8 2, .int .u8 k0, .int .u8 k1, .int .u8 k2, .int .u8 k3, .int .u8 k4, .int .u8 k5, .int .u8 k6, .int .u8 k7, .int .u8 kd, .int .u64 x, .int .u64 y, .int .u64 n] 65)).alloc (.cells #[.int .u8 17, .int .u8 2] 5)).cell? ⟨w.heap.size, j, none⟩ = (#[.int .u8 2, .int .u8 k0, .int .u8 k1, .int .u8 k2, .int .u8 k3, .int .u8 k4, .int .u8 k5, .int .u8 k6, .int .u8 k7, .int .u8 kd, .int .u64 x, .int .u64 y, .int .u64 n] : Array Value)[j]? := fun j => (World.cell?_alloc_past _ _ _ (by simp)).trans (cell_box w _ _ j)
  have hown1 : ((w.alloc (.cells #[.int .u8 2, .int .u8 k0, .int .u8 k1, .int .u8 k2, .int .u8 k3, .int .u8 k4, .int .u8 k5, .int .u8 k6, .int .u8 k7, .int .u8 kd, .int .u64 x, .int .u64 y, .int .u64 n] 65)).alloc (.cells #[.int .u8 17, .int .u8 2] 5)).ownsRow (w.heap.size + 1) 5 1 (.slice (some ⟨w.heap.size + 1, 0, none⟩) 2 2) 2 [.int .u8 17, .int .u8 2] := by
    have h := World.ownsRow_lit (base := w.heap.size + 1) (e := 5) (size := 1) (w.alloc (.cells #[.int .u8 2, .int .u8 k0, .int .u8 k1, .int .u8 k2, .int .u8 k3, .int .u8 k4, .int .u8 k5, .int .u8 k6, .int .u8 k7, .int .u8 kd, .int .u64 x, .int .u64 y, .int .u64 n] 65)) #[.int .u8 17, .int .u8 2] 2 (by simp) (by unfold maxLen; omega) rfl
    simpa using h
  have hB1 : Below w.heap.size w ((w.alloc (.cells #[.int .u8 2, .int .u8 k0, .int .u8 k1, .int .u8 k2, .int .u8 k3, .int .u8 k4, .int .u8 k5, .int .u8 k6, .int .u8 k7, .int .u8 kd, .int .u64 x, .int .u64 y, .int .u64 n] 65)).alloc (.cells #[.int .u8 17, .int .u8 2] 5)) := ((Below.refl _ w).alloc (Nat.le_refl _) _).alloc (by simp) _
  have hs1 : w.heap.size + 1 < ((w.alloc (.cells #[.int .u8 2, .int .u8 k0, .int .u8 k1, .int .u8 k2, .int .u8 k3, .int .u8 k4, .int .u8 k5, .int .u8 k6, .int .u8 k7, .int .u8 kd, .int .u64 x, .int .u64 y, .int .u64 n] 65)).alloc (.cells #[.int .u8 17, .int .u8 2] 5)).heap.size := by simp
  have hl : reqLen 2 = 17 := rfl
  go_enter Tryz.func53, Tryz.ntmps53
  go_wp2_with (first | (go_at_call 83; refine (size_any _ _).mono ?_; rintro e w' ⟨rfl, rfl⟩) | (at_builtin; refine wpList_append_own _ rfl (.tmp 17) (.tmp 19) 76 rfl (w.heap.size + 1) 5 i0 (.int .u8 0) 1 1 Tryz.underlying76 hi hz0 hz1 hz2 rfl (by decide) (.slice (some ⟨w.heap.size + 1, 0, none⟩) 2 2) 2 _ rfl hown1 ⟨w.heap.size, 1, none⟩ 8 8 [.int .u8 k0, .int .u8 k1, .int .u8 k2, .int .u8 k3, .int .u8 k4, .int .u8 k5, .int .u8 k6, .int .u8 k7] rfl rfl (src_of hc1 _ (key_src _ _ _ _ _ _ _ _ _ _ _ _ _)) (by simp [Value.oneCell']) (by unfold maxLen; omega) (by omega) (by simp) ?_; intro v2 w2 hown2 hgrow2 _; have hs2 := Nat.lt_of_lt_of_le hs1 hgrow2.size; have hD2 := (Below.refl (w.heap.size + 1) _).grown hgrow2 (Nat.le_of_lt hs1) (fun kk hkk => (hown1.lt kk hkk).1); have hc2 := fun j => (hD2.cell (p := ⟨w.heap.size, j, none⟩) (Nat.lt_succ_self _)).trans (hc1 j)))
  refine (refnum_any v2 10 (w.heap.size + 1) _ _ _ hown2 (by omega) (by omega) hn0 hn1).mono ?_
  rintro e w3 ⟨v3, rfl, hown3, hb3⟩
  go_wp2
  go_ret
  exact ⟨_, rfl, own_down (b := w.heap.size + 1) (by omega) (by simpa using hown3), hB1.trans ((hD2.trans hb3).mono (by omega))⟩

set_option maxRecDepth 100000 in
set_option maxHeartbeats 1000000 in
theorem refreq3 (k0 k1 k2 k3 k4 k5 k6 k7 kd x y n : Int) (w : World) :
    Calls Tryz.prog 53 #[.agg #[.int .u8 3, .int .u8 k0, .int .u8 k1, .int .u8 k2, .int .u8 k3, .int .u8 k4, .int .u8 k5, .int .u8 k6, .int .u8 k7, .int .u8 kd, .int .u64 x, .int .u64 y, .int .u64 n]] w
      fun e w' => ∃ v', e = .returned v' ∧ w'.ownsRow w.heap.size 5 1 v' 10 (([9, 3, k0, k1, k2, k3, k4, k5, k6, k7]).map (Value.int .u8)) ∧ Below w.heap.size w w' := by
  obtain ⟨i0, hi, hz0, hz1, hz2⟩ := info_parts Tryz.info5
  have hc1 : ∀ j, ((w.alloc (.cells #[.int .u8 3, .int .u8 k0, .int .u8 k1, .int .u8 k2, .int .u8 k3, .int .u8 k4, .int .u8 k5, .int .u8 k6, .int .u8 k7, .int .u8 kd, .int .u64 x, .int .u64 y, .int .u64 n] 65)).alloc (.cells #[.int .u8 9, .int .u8 3] 5)).cell? ⟨w.heap.size, j, none⟩ = (#[.int .u8 3, .int .u8 k0, .int .u8 k1, .int .u8 k2, .int .u8 k3, .int .u8 k4, .int .u8 k5, .int .u8 k6, .int .u8 k7, .int .u8 kd, .int .u64 x, .int .u64 y, .int .u64 n] : Array Value)[j]? := fun j => (World.cell?_alloc_past _ _ _ (by simp)).trans (cell_box w _ _ j)
  have hown1 : ((w.alloc (.cells #[.int .u8 3, .int .u8 k0, .int .u8 k1, .int .u8 k2, .int .u8 k3, .int .u8 k4, .int .u8 k5, .int .u8 k6, .int .u8 k7, .int .u8 kd, .int .u64 x, .int .u64 y, .int .u64 n] 65)).alloc (.cells #[.int .u8 9, .int .u8 3] 5)).ownsRow (w.heap.size + 1) 5 1 (.slice (some ⟨w.heap.size + 1, 0, none⟩) 2 2) 2 [.int .u8 9, .int .u8 3] := by
    have h := World.ownsRow_lit (base := w.heap.size + 1) (e := 5) (size := 1) (w.alloc (.cells #[.int .u8 3, .int .u8 k0, .int .u8 k1, .int .u8 k2, .int .u8 k3, .int .u8 k4, .int .u8 k5, .int .u8 k6, .int .u8 k7, .int .u8 kd, .int .u64 x, .int .u64 y, .int .u64 n] 65)) #[.int .u8 9, .int .u8 3] 2 (by simp) (by unfold maxLen; omega) rfl
    simpa using h
  have hB1 : Below w.heap.size w ((w.alloc (.cells #[.int .u8 3, .int .u8 k0, .int .u8 k1, .int .u8 k2, .int .u8 k3, .int .u8 k4, .int .u8 k5, .int .u8 k6, .int .u8 k7, .int .u8 kd, .int .u64 x, .int .u64 y, .int .u64 n] 65)).alloc (.cells #[.int .u8 9, .int .u8 3] 5)) := ((Below.refl _ w).alloc (Nat.le_refl _) _).alloc (by simp) _
  have hs1 : w.heap.size + 1 < ((w.alloc (.cells #[.int .u8 3, .int .u8 k0, .int .u8 k1, .int .u8 k2, .int .u8 k3, .int .u8 k4, .int .u8 k5, .int .u8 k6, .int .u8 k7, .int .u8 kd, .int .u64 x, .int .u64 y, .int .u64 n] 65)).alloc (.cells #[.int .u8 9, .int .u8 3] 5)).heap.size := by simp
  have hl : reqLen 3 = 9 := rfl
  go_enter Tryz.func53, Tryz.ntmps53
  go_wp2_with (first | (go_at_call 83; refine (size_any _ _).mono ?_; rintro e w' ⟨rfl, rfl⟩) | (at_builtin; refine wpList_append_own _ rfl (.tmp 17) (.tmp 19) 76 rfl (w.heap.size + 1) 5 i0 (.int .u8 0) 1 1 Tryz.underlying76 hi hz0 hz1 hz2 rfl (by decide) (.slice (some ⟨w.heap.size + 1, 0, none⟩) 2 2) 2 _ rfl hown1 ⟨w.heap.size, 1, none⟩ 8 8 [.int .u8 k0, .int .u8 k1, .int .u8 k2, .int .u8 k3, .int .u8 k4, .int .u8 k5, .int .u8 k6, .int .u8 k7] rfl rfl (src_of hc1 _ (key_src _ _ _ _ _ _ _ _ _ _ _ _ _)) (by simp [Value.oneCell']) (by unfold maxLen; omega) (by omega) (by simp) ?_; intro v2 w2 hown2 hgrow2 _; have hs2 := Nat.lt_of_lt_of_le hs1 hgrow2.size; have hD2 := (Below.refl (w.heap.size + 1) _).grown hgrow2 (Nat.le_of_lt hs1) (fun kk hkk => (hown1.lt kk hkk).1); have hc2 := fun j => (hD2.cell (p := ⟨w.heap.size, j, none⟩) (Nat.lt_succ_self _)).trans (hc1 j)))
  go_ret
  exact ⟨_, rfl, own_down (b := w.heap.size + 1) (by omega) (by simpa using hown2), hB1.trans (hD2.mono (by omega))⟩

set_option maxRecDepth 100000 in
set_option maxHeartbeats 1000000 in
theorem refreq4 (k0 k1 k2 k3 k4 k5 k6 k7 kd x y n : Int) (w : World) :
    Calls Tryz.prog 53 #[.agg #[.int .u8 4, .int .u8 k0, .int .u8 k1, .int .u8 k2, .int .u8 k3, .int .u8 k4, .int .u8 k5, .int .u8 k6, .int .u8 k7, .int .u8 kd, .int .u64 x, .int .u64 y, .int .u64 n]] w
      fun e w' => ∃ v', e = .returned v' ∧ w'.ownsRow w.heap.size 5 1 v' 10 (([9, 4, k0, k1, k2, k3, k4, k5, k6, k7]).map (Value.int .u8)) ∧ Below w.heap.size w w' := by
  obtain ⟨i0, hi, hz0, hz1, hz2⟩ := info_parts Tryz.info5
  have hc1 : ∀ j, ((w.alloc (.cells #[.int .u8 4, .int .u8 k0, .int .u8 k1, .int .u8 k2, .int .u8 k3, .int .u8 k4, .int .u8 k5, .int .u8 k6, .int .u8 k7, .int .u8 kd, .int .u64 x, .int .u64 y, .int .u64 n] 65)).alloc (.cells #[.int .u8 9, .int .u8 4] 5)).cell? ⟨w.heap.size, j, none⟩ = (#[.int .u8 4, .int .u8 k0, .int .u8 k1, .int .u8 k2, .int .u8 k3, .int .u8 k4, .int .u8 k5, .int .u8 k6, .int .u8 k7, .int .u8 kd, .int .u64 x, .int .u64 y, .int .u64 n] : Array Value)[j]? := fun j => (World.cell?_alloc_past _ _ _ (by simp)).trans (cell_box w _ _ j)
  have hown1 : ((w.alloc (.cells #[.int .u8 4, .int .u8 k0, .int .u8 k1, .int .u8 k2, .int .u8 k3, .int .u8 k4, .int .u8 k5, .int .u8 k6, .int .u8 k7, .int .u8 kd, .int .u64 x, .int .u64 y, .int .u64 n] 65)).alloc (.cells #[.int .u8 9, .int .u8 4] 5)).ownsRow (w.heap.size + 1) 5 1 (.slice (some ⟨w.heap.size + 1, 0, none⟩) 2 2) 2 [.int .u8 9, .int .u8 4] := by
    have h := World.ownsRow_lit (base := w.heap.size + 1) (e := 5) (size := 1) (w.alloc (.cells #[.int .u8 4, .int .u8 k0, .int .u8 k1, .int .u8 k2, .int .u8 k3, .int .u8 k4, .int .u8 k5, .int .u8 k6, .int .u8 k7, .int .u8 kd, .int .u64 x, .int .u64 y, .int .u64 n] 65)) #[.int .u8 9, .int .u8 4] 2 (by simp) (by unfold maxLen; omega) rfl
    simpa using h
  have hB1 : Below w.heap.size w ((w.alloc (.cells #[.int .u8 4, .int .u8 k0, .int .u8 k1, .int .u8 k2, .int .u8 k3, .int .u8 k4, .int .u8 k5, .int .u8 k6, .int .u8 k7, .int .u8 kd, .int .u64 x, .int .u64 y, .int .u64 n] 65)).alloc (.cells #[.int .u8 9, .int .u8 4] 5)) := ((Below.refl _ w).alloc (Nat.le_refl _) _).alloc (by simp) _
  have hs1 : w.heap.size + 1 < ((w.alloc (.cells #[.int .u8 4, .int .u8 k0, .int .u8 k1, .int .u8 k2, .int .u8 k3, .int .u8 k4, .int .u8 k5, .int .u8 k6, .int .u8 k7, .int .u8 kd, .int .u64 x, .int .u64 y, .int .u64 n] 65)).alloc (.cells #[.int .u8 9, .int .u8 4] 5)).heap.size := by simp
  have hl : reqLen 4 = 9 := rfl
  go_enter Tryz.func53, Tryz.ntmps53
  go_wp2_with (first | (go_at_call 83; refine (size_any _ _).mono ?_; rintro e w' ⟨rfl, rfl⟩) | (at_builtin; refine wpList_append_own _ rfl (.tmp 17) (.tmp 19) 76 rfl (w.heap.size + 1) 5 i0 (.int .u8 0) 1 1 Tryz.underlying76 hi hz0 hz1 hz2 rfl (by decide) (.slice (some ⟨w.heap.size + 1, 0, none⟩) 2 2) 2 _ rfl hown1 ⟨w.heap.size, 1, none⟩ 8 8 [.int .u8 k0, .int .u8 k1, .int .u8 k2, .int .u8 k3, .int .u8 k4, .int .u8 k5, .int .u8 k6, .int .u8 k7] rfl rfl (src_of hc1 _ (key_src _ _ _ _ _ _ _ _ _ _ _ _ _)) (by simp [Value.oneCell']) (by unfold maxLen; omega) (by omega) (by simp) ?_; intro v2 w2 hown2 hgrow2 _; have hs2 := Nat.lt_of_lt_of_le hs1 hgrow2.size; have hD2 := (Below.refl (w.heap.size + 1) _).grown hgrow2 (Nat.le_of_lt hs1) (fun kk hkk => (hown1.lt kk hkk).1); have hc2 := fun j => (hD2.cell (p := ⟨w.heap.size, j, none⟩) (Nat.lt_succ_self _)).trans (hc1 j)))
  go_ret
  exact ⟨_, rfl, own_down (b := w.heap.size + 1) (by omega) (by simpa using hown2), hB1.trans (hD2.mono (by omega))⟩

set_option maxRecDepth 100000 in
set_option maxHeartbeats 1000000 in
theorem refreq5 (k0 k1 k2 k3 k4 k5 k6 k7 kd x y n : Int) (w : World) :
    Calls Tryz.prog 53 #[.agg #[.int .u8 5, .int .u8 k0, .int .u8 k1, .int .u8 k2, .int .u8 k3, .int .u8 k4, .int .u8 k5, .int .u8 k6, .int .u8 k7, .int .u8 kd, .int .u64 x, .int .u64 y, .int .u64 n]] w
      fun e w' => ∃ v', e = .returned v' ∧ w'.ownsRow w.heap.size 5 1 v' 2 (([1, 5]).map (Value.int .u8)) ∧ Below w.heap.size w w' := by
  obtain ⟨i0, hi, hz0, hz1, hz2⟩ := info_parts Tryz.info5
  have hc1 : ∀ j, ((w.alloc (.cells #[.int .u8 5, .int .u8 k0, .int .u8 k1, .int .u8 k2, .int .u8 k3, .int .u8 k4, .int .u8 k5, .int .u8 k6, .int .u8 k7, .int .u8 kd, .int .u64 x, .int .u64 y, .int .u64 n] 65)).alloc (.cells #[.int .u8 1, .int .u8 5] 5)).cell? ⟨w.heap.size, j, none⟩ = (#[.int .u8 5, .int .u8 k0, .int .u8 k1, .int .u8 k2, .int .u8 k3, .int .u8 k4, .int .u8 k5, .int .u8 k6, .int .u8 k7, .int .u8 kd, .int .u64 x, .int .u64 y, .int .u64 n] : Array Value)[j]? := fun j => (World.cell?_alloc_past _ _ _ (by simp)).trans (cell_box w _ _ j)
  have hown1 : ((w.alloc (.cells #[.int .u8 5, .int .u8 k0, .int .u8 k1, .int .u8 k2, .int .u8 k3, .int .u8 k4, .int .u8 k5, .int .u8 k6, .int .u8 k7, .int .u8 kd, .int .u64 x, .int .u64 y, .int .u64 n] 65)).alloc (.cells #[.int .u8 1, .int .u8 5] 5)).ownsRow (w.heap.size + 1) 5 1 (.slice (some ⟨w.heap.size + 1, 0, none⟩) 2 2) 2 [.int .u8 1, .int .u8 5] := by
    have h := World.ownsRow_lit (base := w.heap.size + 1) (e := 5) (size := 1) (w.alloc (.cells #[.int .u8 5, .int .u8 k0, .int .u8 k1, .int .u8 k2, .int .u8 k3, .int .u8 k4, .int .u8 k5, .int .u8 k6, .int .u8 k7, .int .u8 kd, .int .u64 x, .int .u64 y, .int .u64 n] 65)) #[.int .u8 1, .int .u8 5] 2 (by simp) (by unfold maxLen; omega) rfl
    simpa using h
  have hB1 : Below w.heap.size w ((w.alloc (.cells #[.int .u8 5, .int .u8 k0, .int .u8 k1, .int .u8 k2, .int .u8 k3, .int .u8 k4, .int .u8 k5, .int .u8 k6, .int .u8 k7, .int .u8 kd, .int .u64 x, .int .u64 y, .int .u64 n] 65)).alloc (.cells #[.int .u8 1, .int .u8 5] 5)) := ((Below.refl _ w).alloc (Nat.le_refl _) _).alloc (by simp) _
  have hs1 : w.heap.size + 1 < ((w.alloc (.cells #[.int .u8 5, .int .u8 k0, .int .u8 k1, .int .u8 k2, .int .u8 k3, .int .u8 k4, .int .u8 k5, .int .u8 k6, .int .u8 k7, .int .u8 kd, .int .u64 x, .int .u64 y, .int .u64 n] 65)).alloc (.cells #[.int .u8 1, .int .u8 5] 5)).heap.size := by simp
  have hl : reqLen 5 = 1 := rfl
  go_enter Tryz.func53, Tryz.ntmps53
  go_wp2_with (go_at_call 83; refine (size_any _ _).mono ?_; rintro e w' ⟨rfl, rfl⟩)
  go_ret
  exact ⟨_, rfl, own_down (b := w.heap.size + 1) (by omega) (by simpa using hown1), hB1⟩

set_option maxRecDepth 100000 in
set_option maxHeartbeats 1000000 in
theorem refreq6 (k0 k1 k2 k3 k4 k5 k6 k7 kd x y n : Int) (w : World) :
    Calls Tryz.prog 53 #[.agg #[.int .u8 6, .int .u8 k0, .int .u8 k1, .int .u8 k2, .int .u8 k3, .int .u8 k4, .int .u8 k5, .int .u8 k6, .int .u8 k7, .int .u8 kd, .int .u64 x, .int .u64 y, .int .u64 n]] w
      fun e w' => ∃ v', e = .returned v' ∧ w'.ownsRow w.heap.size 5 1 v' 2 (([1, 6]).map (Value.int .u8)) ∧ Below w.heap.size w w' := by
  obtain ⟨i0, hi, hz0, hz1, hz2⟩ := info_parts Tryz.info5
  have hc1 : ∀ j, ((w.alloc (.cells #[.int .u8 6, .int .u8 k0, .int .u8 k1, .int .u8 k2, .int .u8 k3, .int .u8 k4, .int .u8 k5, .int .u8 k6, .int .u8 k7, .int .u8 kd, .int .u64 x, .int .u64 y, .int .u64 n] 65)).alloc (.cells #[.int .u8 1, .int .u8 6] 5)).cell? ⟨w.heap.size, j, none⟩ = (#[.int .u8 6, .int .u8 k0, .int .u8 k1, .int .u8 k2, .int .u8 k3, .int .u8 k4, .int .u8 k5, .int .u8 k6, .int .u8 k7, .int .u8 kd, .int .u64 x, .int .u64 y, .int .u64 n] : Array Value)[j]? := fun j => (World.cell?_alloc_past _ _ _ (by simp)).trans (cell_box w _ _ j)
  have hown1 : ((w.alloc (.cells #[.int .u8 6, .int .u8 k0, .int .u8 k1, .int .u8 k2, .int .u8 k3, .int .u8 k4, .int .u8 k5, .int .u8 k6, .int .u8 k7, .int .u8 kd, .int .u64 x, .int .u64 y, .int .u64 n] 65)).alloc (.cells #[.int .u8 1, .int .u8 6] 5)).ownsRow (w.heap.size + 1) 5 1 (.slice (some ⟨w.heap.size + 1, 0, none⟩) 2 2) 2 [.int .u8 1, .int .u8 6] := by
    have h := World.ownsRow_lit (base := w.heap.size + 1) (e := 5) (size := 1) (w.alloc (.cells #[.int .u8 6, .int .u8 k0, .int .u8 k1, .int .u8 k2, .int .u8 k3, .int .u8 k4, .int .u8 k5, .int .u8 k6, .int .u8 k7, .int .u8 kd, .int .u64 x, .int .u64 y, .int .u64 n] 65)) #[.int .u8 1, .int .u8 6] 2 (by simp) (by unfold maxLen; omega) rfl
    simpa using h
  have hB1 : Below w.heap.size w ((w.alloc (.cells #[.int .u8 6, .int .u8 k0, .int .u8 k1, .int .u8 k2, .int .u8 k3, .int .u8 k4, .int .u8 k5, .int .u8 k6, .int .u8 k7, .int .u8 kd, .int .u64 x, .int .u64 y, .int .u64 n] 65)).alloc (.cells #[.int .u8 1, .int .u8 6] 5)) := ((Below.refl _ w).alloc (Nat.le_refl _) _).alloc (by simp) _
  have hs1 : w.heap.size + 1 < ((w.alloc (.cells #[.int .u8 6, .int .u8 k0, .int .u8 k1, .int .u8 k2, .int .u8 k3, .int .u8 k4, .int .u8 k5, .int .u8 k6, .int .u8 k7, .int .u8 kd, .int .u64 x, .int .u64 y, .int .u64 n] 65)).alloc (.cells #[.int .u8 1, .int .u8 6] 5)).heap.size := by simp
  have hl : reqLen 6 = 1 := rfl
  go_enter Tryz.func53, Tryz.ntmps53
  go_wp2_with (go_at_call 83; refine (size_any _ _).mono ?_; rintro e w' ⟨rfl, rfl⟩)
  go_ret
  exact ⟨_, rfl, own_down (b := w.heap.size + 1) (by omega) (by simpa using hown1), hB1⟩

set_option maxRecDepth 100000 in
set_option maxHeartbeats 1000000 in
theorem refreq0 (op k0 k1 k2 k3 k4 k5 k6 k7 kd x y n : Int) (w : World) (h : reqLen op = 0) :
    Calls Tryz.prog 53 #[.agg #[.int .u8 op, .int .u8 k0, .int .u8 k1, .int .u8 k2, .int .u8 k3, .int .u8 k4, .int .u8 k5, .int .u8 k6, .int .u8 k7, .int .u8 kd, .int .u64 x, .int .u64 y, .int .u64 n]] w fun e w' => e = .returned (.slice none 0 0) ∧ Below w.heap.size w w' := by
  go_enter Tryz.func53, Tryz.ntmps53
  go_wp2_with (go_at_call 83; refine (size_any _ _).mono ?_; rintro e w' ⟨rfl, rfl⟩)
  go_ret
  exact ⟨rfl, (Below.refl _ w).alloc (Nat.le_refl _) _⟩

theorem refreq_any (op k0 k1 k2 k3 k4 k5 k6 k7 kd x y n : Int) (w : World) (hx0 : 0 ≤ x) (hx1 : x ≤ 18446744073709551615) (hy0 : 0 ≤ y) (hy1 : y ≤ 18446744073709551615) (hn0 : 0 ≤ n) (hn1 : n ≤ 18446744073709551615) :
    Calls Tryz.prog 53 #[.agg #[.int .u8 op, .int .u8 k0, .int .u8 k1, .int .u8 k2, .int .u8 k3, .int .u8 k4, .int .u8 k5, .int .u8 k6, .int .u8 k7, .int .u8 kd, .int .u64 x, .int .u64 y, .int .u64 n]] w
      fun e w' => ∃ v', e = .returned v' ∧ w'.ownsRow w.heap.size 5 1 v' (encReq op k0 k1 k2 k3 k4 k5 k6 k7 kd x y n).length ((encReq op k0 k1 k2 k3 k4 k5 k6 k7 kd x y n).map (Value.int .u8)) ∧ Below w.heap.size w w' := by
  by_cases h1 : op = 1
  · subst h1; exact refreq1 k0 k1 k2 k3 k4 k5 k6 k7 kd x y n w hx0 hx1 hy0 hy1
  by_cases h2 : op = 2
  · subst h2; exact refreq2 k0 k1 k2 k3 k4 k5 k6 k7 kd x y n w hn0 hn1
  by_cases h3 : op = 3
  · subst h3; exact refreq3 k0 k1 k2 k3 k4 k5 k6 k7 kd x y n w
  by_cases h4 : op = 4
  · subst h4; exact refreq4 k0 k1 k2 k3 k4 k5 k6 k7 kd x y n w
  by_cases h5 : op = 5
  · subst h5; exact refreq5 k0 k1 k2 k3 k4 k5 k6 k7 kd x y n w
  by_cases h6 : op = 6
  · subst h6; exact refreq6 k0 k1 k2 k3 k4 k5 k6 k7 kd x y n w
  have h0 : reqLen op = 0 := by simp [reqLen, h1, h2, h3, h4, h5, h6]
  have e0 : encReq op k0 k1 k2 k3 k4 k5 k6 k7 kd x y n = [] := by simp [encReq, h1, h2, h3, h4, h5, h6]
  rw [e0]
  refine (refreq0 op k0 k1 k2 k3 k4 k5 k6 k7 kd x y n w h0).mono ?_
  rintro e w' ⟨rfl, hb⟩
  exact ⟨_, rfl, World.ownsRow_nil _ _ _ _, hb⟩
end Go.Proofs.YtnlgndpcddngoaaGreatDoor

