import Derived.Test.YtekjhmemiflbdaaDoorNum
import Derived.Laws.CopyOwn
import Derived.BigQuiet
import Derived.Deep.QuietTactic
import Derived.Deep.RegionLaw
namespace Go.Proofs.YtekjhmemiflbdaaDoor
open Go.RowKit

set_option maxRecDepth 100000 in
set_option maxHeartbeats 400000 in
theorem small_more (F g o m : Nat) (b : Int) (w : World) (hF : w.cell? ⟨F, 0, none⟩ = some (.slice (some ⟨g, o, none⟩) m m)) (hz : w.frozen? ⟨F, 0, none⟩ = false) (hm : 1 < m) (hm1 : m ≤ 255) (hc : w.cell? ⟨g, o, none⟩ = some (.int .u8 b)) :
    Calls Tryd.prog 34 #[.pointer (some ⟨F, 0, none⟩)] w fun e w' => e = .returned (.int .u8 b) ∧ w' = w.setCell ⟨F, 0, none⟩ (.slice (some ⟨g, o + 1, none⟩) (m - 1) (m - 1)) := by
  have hmp : 0 < m := by omega
  have hmI : (0 : Int) < m := by omega
  have hme : ¬ m = 1 := by omega
  go_enter Tryd.func34, Tryd.ntmps34
  go_wp2
  go_ret
  exact ⟨rfl, rfl⟩

set_option maxRecDepth 100000 in
set_option maxHeartbeats 400000 in
theorem small_last (F g o : Nat) (b : Int) (w : World) (hF : w.cell? ⟨F, 0, none⟩ = some (.slice (some ⟨g, o, none⟩) 1 1)) (hz : w.frozen? ⟨F, 0, none⟩ = false) (hc : w.cell? ⟨g, o, none⟩ = some (.int .u8 b)) :
    Calls Tryd.prog 34 #[.pointer (some ⟨F, 0, none⟩)] w fun e w' => e = .returned (.int .u8 b) ∧ ∃ v, w' = w.setCell ⟨F, 0, none⟩ v := by
  go_enter Tryd.func34, Tryd.ntmps34
  go_wp2
  go_ret
  exact ⟨rfl, _, rfl⟩

/-- The number whose first j bytes are c 0, c 1, .. -/
def rdTo (c : Nat → Int) : Nat → Int
  | 0 => 0
  | j + 1 => rdTo c j * 256 + c j

theorem u64_small (n : Int) (h0 : 0 ≤ n) (h1 : n < 2 ^ 64) : IntKind.u64.wrap n = n := by rw [IntKind.wrap_u64]; omega
theorem or_byte (x c : Int) (hx : 0 ≤ x) (hx1 : x < 2 ^ 56) (hc : 0 ≤ c) (hc1 : c ≤ 255) : bits BinOp.or IntKind.u64 (IntKind.u64.wrap (x * 256)) c = x * 256 + c := by
  rw [u64_small _ (by omega) (by omega)]
  exact bits_join .u64 64 (by decide) (fun n => u64_small n) 8 (x * 256) c (by omega) (by omega) (by omega) hc (by omega) (by omega)
theorem rdTo_bound (c : Nat → Int) (hr : ∀ j, 0 ≤ c j ∧ c j ≤ 255) : ∀ j, 0 ≤ rdTo c j ∧ rdTo c j < 256 ^ j
  | 0 => by simp [rdTo]
  | j + 1 => by
    have h := rdTo_bound c hr j
    have hj := hr j
    simp only [rdTo]
    rw [Int.pow_succ]
    omega
theorem rdTo_lt (c : Nat → Int) (hr : ∀ j, 0 ≤ c j ∧ c j ≤ 255) (j : Nat) (hj : j < 8) : 0 ≤ rdTo c j ∧ rdTo c j < 2 ^ 56 := by
  have h := rdTo_bound c hr j
  refine ⟨h.1, ?_⟩
  match j, hj with
  | 0, _ => omega
  | 1, _ => omega
  | 2, _ => omega
  | 3, _ => omega
  | 4, _ => omega
  | 5, _ => omega
  | 6, _ => omega
  | 7, _ => omega
theorem int_u64 {a b : Int} (h : a = b) : Value.int .u64 a = .int .u64 b := by rw [h]

set_option maxRecDepth 100000 in
set_option maxHeartbeats 400000 in
theorem number_any (F g o m : Nat) (c : Nat → Int) (w : World) (hF : w.cell? ⟨F, 0, none⟩ = some (.slice (some ⟨g, o, none⟩) m m)) (hz : w.frozen? ⟨F, 0, none⟩ = false) (hm : 8 ≤ m) (hm1 : m ≤ 255) (hc : ∀ j, j < 8 → w.cell? ⟨g, o + j, none⟩ = some (.int .u8 (c j))) (hr : ∀ j, 0 ≤ c j ∧ c j ≤ 255) :
    Calls Tryd.prog 37 #[.pointer (some ⟨F, 0, none⟩)] w fun e w' => e = .returned (.int .u64 (rdTo c 8)) ∧ ∃ ao, w' = w.setCell ⟨F, 0, none⟩ (.slice ao (m - 8) (m - 8)) ∧ (8 < m → ao = some ⟨g, o + 8, none⟩) := by
  go_enter Tryd.func37, Tryd.ntmps37
  go_wp2
  go_loop [3, 12] (fun v i => ∃ j : Nat, j ≤ 8 ∧ i = .int .i64 j ∧ v = .int .u64 (rdTo c j)) (fun _ i => 8 - (intOf i).toNat)
  case atStart => exact ⟨0, by omega, rfl, rfl⟩
  case round =>
    obtain ⟨j, hj, rfl, rfl⟩ := hrel
    by_cases hlt : j < 8
    · have hcj := hc j hlt
      have hrj := hr j
      have HB := hide (rdTo_lt c hr j hlt)
      have HR := hide hrj
      go_wp2
      go_round
      case rel => exact ⟨j + 1, by omega, by go_num, int_u64 (or_byte _ _ HB.out.1 HB.out.2 HR.out.1 HR.out.2)⟩
      case measure => simp [intOf]; omega
    · obtain rfl : j = 8 := by omega
      by_cases hme : m = 8
      · subst hme
        go_wp2

        go_ret
        exact ⟨rfl, _, rfl⟩
      · go_wp2

        go_ret
        exact ⟨rfl, _, rfl, fun _ => rfl⟩
end Go.Proofs.YtekjhmemiflbdaaDoor
