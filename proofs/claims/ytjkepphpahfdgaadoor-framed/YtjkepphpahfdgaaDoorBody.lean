import Derived.Test.YtjkepphpahfdgaaDoorBegin
import Derived.Test.YtjkepphpahfdgaaDoorIs
namespace Go.Proofs.YtjkepphpahfdgaaDoor
open Go.RowKit

set_option maxRecDepth 100000 in
set_option maxHeartbeats 400000 in
theorem body_frame (lo hi : Int) (f : Nat) (v : Value) (w : World)
    (hbeg : Hid (∀ w1, Below w.heap.size w w1 → Calls Tryd.prog 45 #[.agg #[.int .u8 lo, .int .u8 hi, .func (.func f) #[] #[]], v] w1 fun e w' => e = .returned (.iface 36 (.int .i64 2)) ∧ Below w1.heap.size w1 w')) :
    Calls Tryd.prog 32 #[.agg #[.int .u8 lo, .int .u8 hi, .func (.func f) #[] #[]], v] w fun e w' => e = .returned (.tuple #[.slice none 0 0, .iface 36 (.int .i64 2)]) ∧ Below w.heap.size w w' := by
  go_enter Tryd.func32, Tryd.ntmps32
  go_wp2_with fail
  refine (hbeg.out _ ((Below.refl _ w).alloc (Nat.le_refl _) _)).mono ?_
  rintro e w1 ⟨rfl, hb1⟩
  go_wp2_with fail
  refine (is_same _ _).mono ?_
  rintro e w2 ⟨rfl, rfl⟩
  go_wp2
  go_ret2
  exact ⟨rfl, ((Below.refl _ w).alloc (Nat.le_refl _) _).trans (hb1.mono (by simp))⟩

set_option maxRecDepth 100000 in
set_option maxHeartbeats 400000 in
theorem body_short (lo hi : Int) (f : Nat) (v : Value) (w : World)
    (hbeg : Hid (∀ w1, Below w.heap.size w w1 → Calls Tryd.prog 45 #[.agg #[.int .u8 lo, .int .u8 hi, .func (.func f) #[] #[]], v] w1 fun e w' => e = .returned (.iface 36 (.int .i64 1)) ∧ Below w1.heap.size w1 w')) :
    Calls Tryd.prog 32 #[.agg #[.int .u8 lo, .int .u8 hi, .func (.func f) #[] #[]], v] w fun e w' => e = .returned (.tuple #[.slice none 0 0, .iface 36 (.int .i64 1)]) ∧ Below w.heap.size w w' := by
  go_enter Tryd.func32, Tryd.ntmps32
  go_wp2_with fail
  refine (hbeg.out _ ((Below.refl _ w).alloc (Nat.le_refl _) _)).mono ?_
  rintro e w1 ⟨rfl, hb1⟩
  go_wp2_with fail
  refine (is_other _ _ _ (by decide)).mono ?_
  rintro e w2 ⟨rfl, rfl⟩
  go_wp2_with fail
  refine (is_same _ _).mono ?_
  rintro e w2 ⟨rfl, rfl⟩
  go_wp2
  go_ret2
  exact ⟨rfl, ((Below.refl _ w).alloc (Nat.le_refl _) _).trans (hb1.mono (by simp))⟩

set_option maxRecDepth 100000 in
set_option maxHeartbeats 400000 in
theorem body_short2 (lo hi : Int) (f : Nat) (g so n cap : Nat) (b0 : Int) (w : World) (hn : 0 < n) (h0 : 0 ≤ b0) (h1 : b0 ≤ 255) (hg : g < w.heap.size) (hc0 : w.cell? ⟨g, so, none⟩ = some (.int .u8 b0)) (hle : (n : Int) ≤ b0)
    (hbeg : Hid (∀ w1, Below w.heap.size w w1 → Calls Tryd.prog 45 #[.agg #[.int .u8 lo, .int .u8 hi, .func (.func f) #[] #[]], .slice (some ⟨g, so, none⟩) n cap] w1 fun e w' => e = .returned .nilIface ∧ Below w1.heap.size w1 w')) :
    Calls Tryd.prog 32 #[.agg #[.int .u8 lo, .int .u8 hi, .func (.func f) #[] #[]], .slice (some ⟨g, so, none⟩) n cap] w fun e w' => e = .returned (.tuple #[.slice none 0 0, .iface 36 (.int .i64 1)]) ∧ Below w.heap.size w w' := by
  go_enter Tryd.func32, Tryd.ntmps32
  go_wp2_with fail
  refine (hbeg.out _ ((Below.refl _ w).alloc (Nat.le_refl _) _)).mono ?_
  rintro e w1 ⟨rfl, hb1⟩
  have hB1 : Below w.heap.size w w1 := ((Below.refl _ w).alloc (Nat.le_refl _) _).trans (hb1.mono (by simp))
  have hc1 : w1.cell? ⟨g, so, none⟩ = some (.int .u8 b0) := (hB1.cell (p := ⟨g, so, none⟩) hg).trans hc0
  clear hb1
  go_wp2_with fail
  refine (is_nil _ _).mono ?_
  rintro e w2 ⟨rfl, rfl⟩
  go_wp2_with fail
  refine (is_nil _ _).mono ?_
  rintro e w2 ⟨rfl, rfl⟩
  go_wp2
  go_ret2
  exact ⟨rfl, hB1⟩

set_option maxRecDepth 100000 in
set_option maxHeartbeats 400000 in
theorem body_ok (lo hi : Int) (f : Nat) (g so n cap : Nat) (b0 : Nat) (w : World) (hn : b0 < n) (hnc : n ≤ cap) (hn1 : n ≤ 1048576) (h0 : 0 < b0) (h1 : b0 ≤ 255) (hg : g < w.heap.size) (hc0 : w.cell? ⟨g, so, none⟩ = some (.int .u8 b0))
    (hbeg : Hid (∀ w1, Below w.heap.size w w1 → Calls Tryd.prog 45 #[.agg #[.int .u8 lo, .int .u8 hi, .func (.func f) #[] #[]], .slice (some ⟨g, so, none⟩) n cap] w1 fun e w' => e = .returned .nilIface ∧ Below w1.heap.size w1 w')) :
    Calls Tryd.prog 32 #[.agg #[.int .u8 lo, .int .u8 hi, .func (.func f) #[] #[]], .slice (some ⟨g, so, none⟩) n cap] w fun e w' => e = .returned (.tuple #[.slice (some ⟨g, so + 1, none⟩) b0 b0, .nilIface]) ∧ Below w.heap.size w w' := by
  have hnp : 0 < n := by omega
  have hcm : 0 < cap := by omega
  go_enter Tryd.func32, Tryd.ntmps32
  go_wp2_with fail
  refine (hbeg.out _ ((Below.refl _ w).alloc (Nat.le_refl _) _)).mono ?_
  rintro e w1 ⟨rfl, hb1⟩
  have hB1 : Below w.heap.size w w1 := ((Below.refl _ w).alloc (Nat.le_refl _) _).trans (hb1.mono (by simp))
  have hc1 : w1.cell? ⟨g, so, none⟩ = some (.int .u8 b0) := (hB1.cell (p := ⟨g, so, none⟩) hg).trans hc0
  clear hb1
  go_wp2_with fail
  refine (is_nil _ _).mono ?_
  rintro e w2 ⟨rfl, rfl⟩
  go_wp2_with fail
  refine (is_nil _ _).mono ?_
  rintro e w2 ⟨rfl, rfl⟩
  go_wp2
  go_ret2
  rw [Nat.add_sub_cancel_left]
  exact ⟨rfl, hB1⟩
end Go.Proofs.YtjkepphpahfdgaaDoor
