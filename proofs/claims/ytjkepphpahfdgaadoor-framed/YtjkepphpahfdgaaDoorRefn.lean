import Derived.Test.YtjkepphpahfdgaaDoorNum
namespace Go.Proofs.YtjkepphpahfdgaaDoor
open Go.RowKit

set_option maxHeartbeats 400000 in
theorem size_any (op : Int) (w : World) :
    Calls Tryd.prog 13 #[.int .u8 op] w fun e w' => e = .returned (.int .i64 (reqLen op)) ∧ w' = w := by
  by_cases h1 : op = 1
  · subst h1
    go_enter Tryd.func13, Tryd.ntmps13
    go_wp2
    go_ret
    exact ⟨rfl, rfl⟩
  by_cases h2 : op = 2
  · subst h2
    go_enter Tryd.func13, Tryd.ntmps13
    go_wp2
    go_ret
    exact ⟨rfl, rfl⟩
  by_cases h3 : op = 3
  · subst h3
    go_enter Tryd.func13, Tryd.ntmps13
    go_wp2
    go_ret
    exact ⟨rfl, rfl⟩
  by_cases h4 : op = 4
  · subst h4
    go_enter Tryd.func13, Tryd.ntmps13
    go_wp2
    go_ret
    exact ⟨rfl, rfl⟩
  by_cases h5 : op = 5
  · subst h5
    go_enter Tryd.func13, Tryd.ntmps13
    go_wp2
    go_ret
    exact ⟨rfl, rfl⟩
  by_cases h6 : op = 6
  · subst h6
    go_enter Tryd.func13, Tryd.ntmps13
    go_wp2
    go_ret
    exact ⟨rfl, rfl⟩
  have e : reqLen op = 0 := by simp [reqLen, h1, h2, h3, h4, h5, h6]
  rw [e]
  have b1 : (op == 1) = false := by simpa using h1
  have b2 : (op == 2) = false := by simpa using h2
  have b3 : (op == 3) = false := by simpa using h3
  have b4 : (op == 4) = false := by simpa using h4
  have b5 : (op == 5) = false := by simpa using h5
  have b6 : (op == 6) = false := by simpa using h6
  clear h1 h2 h3 h4 h5 h6 e
  go_enter Tryd.func13, Tryd.ntmps13
  go_wp2
  go_ret
  exact ⟨rfl, rfl⟩


theorem div_step (n : Int) (j : Nat) : n / 256 ^ j / 256 = n / 256 ^ (j + 1) := by
  rw [Int.ediv_ediv_of_nonneg (Int.pow_nonneg (by omega)), Int.pow_succ]
theorem nb_eq (n : Int) (j : Nat) (hj : j < 8) : n / 256 ^ (7 - j) % 256 = n / 2 ^ (56 - 8 * j) % 256 := by
  match j, hj with
  | 0, _ => rfl
  | 1, _ => rfl
  | 2, _ => rfl
  | 3, _ => rfl
  | 4, _ => rfl
  | 5, _ => rfl
  | 6, _ => rfl
  | 7, _ => rfl

set_option maxRecDepth 100000 in
set_option maxHeartbeats 1000000 in
theorem refnum_any (v : Value) (k base : Nat) (xs : List Value) (n : Int) (w : World) (hown : w.ownsRow base 5 1 v k xs) (hb : base ≤ w.heap.size) (hk : k ≤ 1000) (hn0 : 0 ≤ n) (hn1 : n ≤ 18446744073709551615) :
    Calls Tryd.prog 14 #[v, .int .u64 n] w fun e w' => ∃ v', e = .returned v' ∧ w'.ownsRow base 5 1 v' (k + 8) (xs ++ (be8 n).map (Value.int .u8)) ∧ Below base w w' := by
  obtain ⟨i0, hi, hz0, hz1, hz2⟩ := info_parts Tryd.info5
  go_enter Tryd.func14, Tryd.ntmps14
  go_wp2
  go_loopw [0, 5] (fun b s wr => ∃ j : Nat, j ≤ 8 ∧ s = .int .i64 (7 - (j : Int)) ∧ wr.ownsRow base 5 1 b (k + j) (xs ++ ((be8 n).take j).map (Value.int .u8)) ∧ Below base w wr) (fun _ s _ => (intOf s + 1).toNat)
  case atStart => exact ⟨0, Nat.zero_le _, rfl, by simpa using hown, Below.refl _ _⟩
  case round =>
    obtain ⟨j, hj, rfl, hownr, hBr⟩ := hrel
    by_cases hlt : j < 8
    · have hd : decide ((j : Int) ≤ 7) = true := by simp; omega
      go_wp2
      go_loop [6, 7] (fun b kk => ∃ (m : Nat) (bv : Int), m ≤ 7 - j ∧ kk = .int .i64 m ∧ b = .int .u64 bv ∧ 0 ≤ bv ∧ bv ≤ 18446744073709551615 ∧ Hid (bv = n / 256 ^ m)) (fun _ kk => (7 - j) - (intOf kk).toNat)
      case atStart => exact ⟨0, n, Nat.zero_le _, rfl, rfl, hn0, hn1, by show n = n / 256 ^ 0; simp⟩
      case round =>
        obtain ⟨m, bv, hm, rfl, rfl, hb0, hb1, HV⟩ := hrel
        by_cases hml : m < 7 - j
        · go_wp2
          go_round
          case rel => exact ⟨m + 1, bv / 256, by omega, by go_num, rfl, by omega, by omega, by show bv / 256 = n / 256 ^ (m + 1); rw [HV.out, div_step]⟩
          case measure => simp [intOf]; omega
        · obtain rfl : m = 7 - j := by omega
          have HB : Hid (bv % 256 = n / 2 ^ (56 - 8 * j) % 256) := by show _ = _; rw [HV.out, nb_eq n j hlt]
          clear HV
          go_wp2_with (at_builtin; refine wpList_append_own _ rfl _ _ 31 rfl base 5 i0 (.int .u8 0) 1 1 Tryd.underlying31 hi hz0 hz1 hz2 rfl (by decide) u0 (k + j) _ rfl (hownr.alloc _) ⟨wr.heap.size, 0, none⟩ 1 1 [.int .u8 (bv % 256)] rfl rfl (cell_one_new _ _ _) (by simp [Value.oneCell']) (by unfold maxLen; omega) (by omega) (by have := hBr.size; simp; omega) ?_; intro v2 w2 hown2 hgrow2 _)
          go_roundw
          case rel => exact ⟨j + 1, by omega, by go_num, by rw [be8_take n j hlt, ← HB.out]; simpa [Nat.add_assoc] using hown2, (hBr.alloc (by have := hBr.size; omega) _).grown hgrow2 (by have := hBr.size; simp; omega) (fun kk hkk => (hownr.lt kk hkk).1)⟩
          case measure => simp [intOf]; omega
    · obtain rfl : j = 8 := by omega
      go_wp2
      go_ret
      exact ⟨_, rfl, hownr, hBr⟩
end Go.Proofs.YtjkepphpahfdgaaDoor
