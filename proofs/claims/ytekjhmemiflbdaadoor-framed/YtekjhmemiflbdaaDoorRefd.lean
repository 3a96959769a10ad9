import Derived.Test.YtekjhmemiflbdaaDoorRefn
import Derived.Test.YtekjhmemiflbdaaDoorField
namespace Go.Proofs.YtekjhmemiflbdaaDoor
open Go.RowKit

set_option maxRecDepth 100000 in
set_option maxHeartbeats 400000 in
theorem refread (g o m cap : Nat) (c : Nat → Int) (w : World) (hm : 8 ≤ m) (hm1 : m ≤ 1048576) (hc : ∀ j, j < 8 → w.cell? ⟨g, o + j, none⟩ = some (.int .u8 (c j))) (hr : ∀ j, 0 ≤ c j ∧ c j ≤ 255) :
    Calls Tryd.prog 25 #[.slice (some ⟨g, o, none⟩) m cap] w fun e w' => e = .returned (.int .u64 (rdTo c 8)) ∧ w' = w := by
  go_enter Tryd.func25, Tryd.ntmps25
  go_wp2
  go_loop [3, 4] (fun v i => ∃ (j : Nat) (x : Int), j ≤ 8 ∧ i = .int .i64 j ∧ v = .int .u64 x ∧ 0 ≤ x ∧ (j < 8 → x < 72057594037927936) ∧ Hid (x = rdTo c j)) (fun _ i => 8 - (intOf i).toNat)
  case atStart => exact ⟨0, 0, by omega, rfl, rfl, by omega, by omega, by show (0 : Int) = 0; rfl⟩
  case round =>
    obtain ⟨j, x, hj, rfl, rfl, hx0, hx1, HX⟩ := hrel
    by_cases hlt : j < 8
    · have hcj := hc j hlt
      have hrj := hr j
      have hxb := hx1 hlt
      have hjm : j < m := by omega

      have HC := hide hr
      clear hx1 hr
      go_wp2
      go_round
      case rel => exact ⟨j + 1, rdTo c (j + 1), by omega, by go_num, int_u64 (by rw [HX.out]; rfl), (rdTo_bound c HC.out (j + 1)).1, fun h => by have := (rdTo_lt c HC.out (j + 1) h).2; omega, rfl⟩
      case measure => simp [intOf]; omega
    · obtain rfl : j = 8 := by omega
      go_wp2
      go_ret
      exact ⟨by rw [← HX.out]; rfl, rfl⟩
end Go.Proofs.YtekjhmemiflbdaaDoor
