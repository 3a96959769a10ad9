import Derived.Test.YtlamgpeiolfffaaGreatDoorZz02
import Derived.Test.YtlamgpeiolfffaaGreatDoorZz03
import Derived.Test.YtlamgpeiolfffaaGreatDoorZz01
import Derived.BigRegion
import Derived.RegionTactic
import Derived.Deep.WholeRow
set_option linter.unusedSectionVars false
namespace Go.Proofs.YtlamgpeiolfffaaGreatDoor
open Go.RowKit
variable [dK] [iK]

set_option maxRecDepth 100000 in
set_option maxHeartbeats 400000 in
theorem body_frame (lo hi : Int) (f : Nat) (v : Value) (w : World)
    (hbeg : Hid (∀ w1, Below w.heap.size w w1 → Calls Tryz.prog 121 #[.agg #[.int .u8 lo, .int .u8 hi, .func (.func f) #[] #[]], v] w1 fun e w' => e = .returned (.iface 46 (.int .i64 2)) ∧ Below w1.heap.size w1 w')) :
    Calls Tryz.prog 98 #[.agg #[.int .u8 lo, .int .u8 hi, .func (.func f) #[] #[]], v] w fun e w' => e = .returned (.tuple #[.slice none 0 0, .iface 46 (.int .i64 2)]) ∧ Below w.heap.size w w' := by
  go_enter Tryz.func98, Tryz.ntmps98
  go_wp2_with fail
  refine (hbeg.out _ ((Below.refl _ w).alloc (Nat.le_refl _) _)).mono ?_
  rintro e w1 ⟨rfl, hb1⟩
  go_wp2_with fail
  refine (is_same _ _).mono ?_
  rintro e w2 ⟨rfl, rfl⟩
  go_wp2
  go_ret2
  exact ⟨rfl, ((Below.refl _ w).alloc (Nat.le_refl _) _).trans (hb1.mono (by simp))⟩

set_option maxRecDepth 100000 in
set_option maxHeartbeats 400000 in
theorem body_short (lo hi : Int) (f : Nat) (v : Value) (w : World)
    (hbeg : Hid (∀ w1, Below w.heap.size w w1 → Calls Tryz.prog 121 #[.agg #[.int .u8 lo, .int .u8 hi, .func (.func f) #[] #[]], v] w1 fun e w' => e = .returned (.iface 46 (.int .i64 1)) ∧ Below w1.heap.size w1 w')) :
    Calls Tryz.prog 98 #[.agg #[.int .u8 lo, .int .u8 hi, .func (.func f) #[] #[]], v] w fun e w' => e = .returned (.tuple #[.slice none 0 0, .iface 46 (.int .i64 1)]) ∧ Below w.heap.size w w' := by
  go_enter Tryz.func98, Tryz.ntmps98
  go_wp2_with fail
  refine (hbeg.out _ ((Below.refl _ w).alloc (Nat.le_refl _) _)).mono ?_
  rintro e w1 ⟨rfl, hb1⟩
  go_wp2_with fail
  refine (is_other _ _ _ (by decide)).mono ?_
  rintro e w2 ⟨rfl, rfl⟩
  go_wp2_with fail
  refine (is_same _ _).mono ?_
  rintro e w2 ⟨rfl, rfl⟩
  go_wp2
  go_ret2
  exact ⟨rfl, ((Below.refl _ w).alloc (Nat.le_refl _) _).trans (hb1.mono (by simp))⟩

set_option maxRecDepth 100000 in
set_option maxHeartbeats 400000 in
theorem body_short2 (lo hi : Int) (f : Nat) (g so n cap : Nat) (b0 : Int) (w : World) (hn : 0 < n) (h0 : 0 ≤ b0) (h1 : b0 ≤ 255) (hg : g < w.heap.size) (hc0 : w.cell? ⟨g, so, none⟩ = some (.int .u8 b0)) (hle : (n : Int) ≤ b0)
    (hbeg : Hid (∀ w1, Below w.heap.size w w1 → Calls Tryz.prog 121 #[.agg #[.int .u8 lo, .int .u8 hi, .func (.func f) #[] #[]], .slice (some ⟨g, so, none⟩) n cap] w1 fun e w' => e = .returned .nilIface ∧ Below w1.heap.size w1 w')) :
    Calls Tryz.prog 98 #[.agg #[.int .u8 lo, .int .u8 hi, .func (.func f) #[] #[]], .slice (some ⟨g, so, none⟩) n cap] w fun e w' => e = .returned (.tuple #[.slice none 0 0, .iface 46 (.int .i64 1)]) ∧ Below w.heap.size w w' := by
  go_enter Tryz.func98, Tryz.ntmps98
  go_wp2_with fail
  refine (hbeg.out _ ((Below.refl _ w).alloc (Nat.le_refl _) _)).mono ?_
  rintro e w1 ⟨rfl, hb1⟩
  have hB1 : Below w.heap.size w w1 := ((Below.refl _ w).alloc (Nat.le_refl _) _).trans (hb1.mono (by simp))
  have hc1 : w1.cell? ⟨g, so, none⟩ = some (.int .u8 b0) := (hB1.cell (p := ⟨g, so, none⟩) hg).trans hc0
  clear hb1
  go_wp2_with fail
  refine (is_nil _ _).mono ?_
  rintro e w2 ⟨rfl, rfl⟩
  go_wp2_with fail
  refine (is_nil _ _).mono ?_
  rintro e w2 ⟨rfl, rfl⟩
  go_wp2
  go_ret2
  exact ⟨rfl, hB1⟩

set_option maxRecDepth 100000 in
set_option maxHeartbeats 400000 in
theorem body_ok (lo hi : Int) (f : Nat) (g so n cap : Nat) (b0 : Nat) (w : World) (hn : b0 < n) (hnc : n ≤ cap) (hn1 : n ≤ 1048576) (h0 : 0 < b0) (h1 : b0 ≤ 255) (hg : g < w.heap.size) (hc0 : w.cell? ⟨g, so, none⟩ = some (.int .u8 b0))
    (hbeg : Hid (∀ w1, Below w.heap.size w w1 → Calls Tryz.prog 121 #[.agg #[.int .u8 lo, .int .u8 hi, .func (.func f) #[] #[]], .slice (some ⟨g, so, none⟩) n cap] w1 fun e w' => e = .returned .nilIface ∧ Below w1.heap.size w1 w')) :
    Calls Tryz.prog 98 #[.agg #[.int .u8 lo, .int .u8 hi, .func (.func f) #[] #[]], .slice (some ⟨g, so, none⟩) n cap] w fun e w' => e = .returned (.tuple #[.slice (some ⟨g, so + 1, none⟩) b0 b0, .nilIface]) ∧ Below w.heap.size w w' := by
  have hnp : 0 < n := by omega
  have hcm : 0 < cap := by omega
  go_enter Tryz.func98, Tryz.ntmps98
  go_wp2_with fail
  refine (hbeg.out _ ((Below.refl _ w).alloc (Nat.le_refl _) _)).mono ?_
  rintro e w1 ⟨rfl, hb1⟩
  have hB1 : Below w.heap.size w w1 := ((Below.refl _ w).alloc (Nat.le_refl _) _).trans (hb1.mono (by simp))
  have hc1 : w1.cell? ⟨g, so, none⟩ = some (.int .u8 b0) := (hB1.cell (p := ⟨g, so, none⟩) hg).trans hc0
  clear hb1
  go_wp2_with fail
  refine (is_nil _ _).mono ?_
  rintro e w2 ⟨rfl, rfl⟩
  go_wp2_with fail
  refine (is_nil _ _).mono ?_
  rintro e w2 ⟨rfl, rfl⟩
  go_wp2
  go_ret2
  rw [Nat.add_sub_cancel_left]
  exact ⟨rfl, hB1⟩
end Go.Proofs.YtlamgpeiolfffaaGreatDoor

namespace Go.Proofs.YtlamgpeiolfffaaGreatDoor
open Go.RowKit
variable [dK] [iK]

theorem copy8 (g o m : Nat) (k0 k1 k2 k3 k4 k5 k6 k7 : Int) (w : World) (hgl : g < w.heap.size) (hm : 8 ≤ m)
    (h0 : w.cell? ⟨g, o, none⟩ = some (.int .u8 k0))
    (h1 : w.cell? ⟨g, o + 1, none⟩ = some (.int .u8 k1))
    (h2 : w.cell? ⟨g, o + 2, none⟩ = some (.int .u8 k2))
    (h3 : w.cell? ⟨g, o + 3, none⟩ = some (.int .u8 k3))
    (h4 : w.cell? ⟨g, o + 4, none⟩ = some (.int .u8 k4))
    (h5 : w.cell? ⟨g, o + 5, none⟩ = some (.int .u8 k5))
    (h6 : w.cell? ⟨g, o + 6, none⟩ = some (.int .u8 k6))
    (h7 : w.cell? ⟨g, o + 7, none⟩ = some (.int .u8 k7)) :
    (Builtin.copy_ #[69, 69] 3 #[.slice (some ⟨w.heap.size + 1, 0, none⟩) 8 8, .slice (some ⟨g, o, none⟩) m m]).run Tryz.prog (((w.alloc (.cells #[.int .u8 0, .int .u8 0, .int .u8 0, .int .u8 0, .int .u8 0, .int .u8 0, .int .u8 0, .int .u8 0] 56)).alloc (.cells #[.int .u8 0, .int .u8 0, .int .u8 0, .int .u8 0, .int .u8 0, .int .u8 0, .int .u8 0, .int .u8 0] 56)).drew)
      = .ok (.int .i64 8) (((w.alloc (.cells #[.int .u8 0, .int .u8 0, .int .u8 0, .int .u8 0, .int .u8 0, .int .u8 0, .int .u8 0, .int .u8 0] 56)).alloc (.cells #[.int .u8 k0, .int .u8 k1, .int .u8 k2, .int .u8 k3, .int .u8 k4, .int .u8 k5, .int .u8 k6, .int .u8 k7] 56)).drew) := by
  have hg : (((w.alloc (.cells #[.int .u8 0, .int .u8 0, .int .u8 0, .int .u8 0, .int .u8 0, .int .u8 0, .int .u8 0, .int .u8 0] 56)).alloc (.cells #[.int .u8 0, .int .u8 0, .int .u8 0, .int .u8 0, .int .u8 0, .int .u8 0, .int .u8 0, .int .u8 0] 56)).drew).heap[w.heap.size + 1]? = some (.cells #[.int .u8 0, .int .u8 0, .int .u8 0, .int .u8 0, .int .u8 0, .int .u8 0, .int .u8 0, .int .u8 0] 56 (0, 0)) := by
    show ((w.heap.push _).push _)[w.heap.size + 1]? = _
    rw [Array.getElem?_push, if_pos (by simp)]
  have hs : ∀ j v, ([.int .u8 k0, .int .u8 k1, .int .u8 k2, .int .u8 k3, .int .u8 k4, .int .u8 k5, .int .u8 k6, .int .u8 k7] : List Value)[j]? = some v → (((w.alloc (.cells #[.int .u8 0, .int .u8 0, .int .u8 0, .int .u8 0, .int .u8 0, .int .u8 0, .int .u8 0, .int .u8 0] 56)).alloc (.cells #[.int .u8 0, .int .u8 0, .int .u8 0, .int .u8 0, .int .u8 0, .int .u8 0, .int .u8 0, .int .u8 0] 56)).drew).cell? ((⟨g, o, none⟩ : Addr).add j) = some v := by
    intro j v hj
    rw [Addr.add_lit]
    show ((w.alloc (.cells #[.int .u8 0, .int .u8 0, .int .u8 0, .int .u8 0, .int .u8 0, .int .u8 0, .int .u8 0, .int .u8 0] 56)).alloc (.cells #[.int .u8 0, .int .u8 0, .int .u8 0, .int .u8 0, .int .u8 0, .int .u8 0, .int .u8 0, .int .u8 0] 56)).cell? ⟨g, o + j, none⟩ = some v
    rw [World.cell?_alloc_lt _ _ ⟨g, o + j, none⟩ (by simp; omega), World.cell?_alloc_lt _ _ ⟨g, o + j, none⟩ hgl]
    match j, hj with
    | 0, hj => simp at hj; subst hj; exact h0
    | 1, hj => simp at hj; subst hj; exact h1
    | 2, hj => simp at hj; subst hj; exact h2
    | 3, hj => simp at hj; subst hj; exact h3
    | 4, hj => simp at hj; subst hj; exact h4
    | 5, hj => simp at hj; subst hj; exact h5
    | 6, hj => simp at hj; subst hj; exact h6
    | 7, hj => simp at hj; subst hj; exact h7
  have hmin : Nat.min m 8 = 8 := Nat.min_eq_right hm
  rw [run_copy_row (P := Tryz.prog) _ 69 69 3 5 (w.heap.size + 1) 0 8 8 ⟨g, o, none⟩ m m _ 56 [.int .u8 k0, .int .u8 k1, .int .u8 k2, .int .u8 k3, .int .u8 k4, .int .u8 k5, .int .u8 k6, .int .u8 k7] Tryz.underlying69 (by kernel_rfl) hg (by rw [hmin]; rfl) hs (by simp) (by simp [Value.oneCell'])]
  have e : (((w.alloc (.cells #[.int .u8 0, .int .u8 0, .int .u8 0, .int .u8 0, .int .u8 0, .int .u8 0, .int .u8 0, .int .u8 0] 56)).alloc (.cells #[.int .u8 0, .int .u8 0, .int .u8 0, .int .u8 0, .int .u8 0, .int .u8 0, .int .u8 0, .int .u8 0] 56)).drew).setRow (w.heap.size + 1) #[.int .u8 k0, .int .u8 k1, .int .u8 k2, .int .u8 k3, .int .u8 k4, .int .u8 k5, .int .u8 k6, .int .u8 k7] = ((w.alloc (.cells #[.int .u8 0, .int .u8 0, .int .u8 0, .int .u8 0, .int .u8 0, .int .u8 0, .int .u8 0, .int .u8 0] 56)).alloc (.cells #[.int .u8 k0, .int .u8 k1, .int .u8 k2, .int .u8 k3, .int .u8 k4, .int .u8 k5, .int .u8 k6, .int .u8 k7] 56)).drew := by
    show (((w.alloc (.cells #[.int .u8 0, .int .u8 0, .int .u8 0, .int .u8 0, .int .u8 0, .int .u8 0, .int .u8 0, .int .u8 0] 56)).alloc (.cells #[.int .u8 0, .int .u8 0, .int .u8 0, .int .u8 0, .int .u8 0, .int .u8 0, .int .u8 0, .int .u8 0] 56)).setRow (w.heap.size + 1) #[.int .u8 k0, .int .u8 k1, .int .u8 k2, .int .u8 k3, .int .u8 k4, .int .u8 k5, .int .u8 k6, .int .u8 k7]).drew = _
    have h := World.setRow_alloc_new (w.alloc (.cells #[.int .u8 0, .int .u8 0, .int .u8 0, .int .u8 0, .int .u8 0, .int .u8 0, .int .u8 0, .int .u8 0] 56)) #[.int .u8 0, .int .u8 0, .int .u8 0, .int .u8 0, .int .u8 0, .int .u8 0, .int .u8 0, .int .u8 0] #[.int .u8 k0, .int .u8 k1, .int .u8 k2, .int .u8 k3, .int .u8 k4, .int .u8 k5, .int .u8 k6, .int .u8 k7] 56
    rw [World.size_alloc] at h
    rw [h]
  simp only [List.take_zero, List.nil_append, List.length_cons, List.length_nil]
  exact congrArg _ e

set_option maxRecDepth 100000 in
set_option maxHeartbeats 1000000 in
theorem key_more (F g o m : Nat) (k0 k1 k2 k3 k4 k5 k6 k7 : Int) (w : World) (hFl : F < w.heap.size) (hgl : g < w.heap.size) (hm : 8 < m) (hm1 : m ≤ 255) (hF : w.cell? ⟨F, 0, none⟩ = some (.slice (some ⟨g, o, none⟩) m m)) (hz : w.frozen? ⟨F, 0, none⟩ = false)
    (h0 : w.cell? ⟨g, o, none⟩ = some (.int .u8 k0))
    (h1 : w.cell? ⟨g, o + 1, none⟩ = some (.int .u8 k1))
    (h2 : w.cell? ⟨g, o + 2, none⟩ = some (.int .u8 k2))
    (h3 : w.cell? ⟨g, o + 3, none⟩ = some (.int .u8 k3))
    (h4 : w.cell? ⟨g, o + 4, none⟩ = some (.int .u8 k4))
    (h5 : w.cell? ⟨g, o + 5, none⟩ = some (.int .u8 k5))
    (h6 : w.cell? ⟨g, o + 6, none⟩ = some (.int .u8 k6))
    (h7 : w.cell? ⟨g, o + 7, none⟩ = some (.int .u8 k7)) :
    Calls Tryz.prog 100 #[.pointer (some ⟨F, 0, none⟩)] w fun e w' => e = .returned (.agg #[.int .u8 k0, .int .u8 k1, .int .u8 k2, .int .u8 k3, .int .u8 k4, .int .u8 k5, .int .u8 k6, .int .u8 k7]) ∧ Below w.heap.size (w.setCell ⟨F, 0, none⟩ (.slice (some ⟨g, o + 8, none⟩) (m - 8) (m - 8))) w' := by
  have hcp := copy8 g o m k0 k1 k2 k3 k4 k5 k6 k7 w hgl (by omega) h0 h1 h2 h3 h4 h5 h6 h7
  have hme : ¬ m = 8 := by omega
  have hmI : (8 : Int) ≤ m := by omega
  clear h0 h1 h2 h3 h4 h5 h6 h7
  go_enter Tryz.func100, Tryz.ntmps100
  go_wp2
  go_region
  go_wp2
  exact bodyPost_ret (v := .agg #[.int .u8 k0, .int .u8 k1, .int .u8 k2, .int .u8 k3, .int .u8 k4, .int .u8 k5, .int .u8 k6, .int .u8 k7]) (by simp [results, Tryz.results100, go_sem]) rfl ⟨rfl, (((Below.refl _ _).alloc (by simp) _).alloc (by simp) _).drew⟩

set_option maxRecDepth 100000 in
set_option maxHeartbeats 1000000 in
theorem key_last (F g o : Nat) (k0 k1 k2 k3 k4 k5 k6 k7 : Int) (w : World) (hFl : F < w.heap.size) (hgl : g < w.heap.size) (hF : w.cell? ⟨F, 0, none⟩ = some (.slice (some ⟨g, o, none⟩) 8 8)) (hz : w.frozen? ⟨F, 0, none⟩ = false)
    (h0 : w.cell? ⟨g, o, none⟩ = some (.int .u8 k0))
    (h1 : w.cell? ⟨g, o + 1, none⟩ = some (.int .u8 k1))
    (h2 : w.cell? ⟨g, o + 2, none⟩ = some (.int .u8 k2))
    (h3 : w.cell? ⟨g, o + 3, none⟩ = some (.int .u8 k3))
    (h4 : w.cell? ⟨g, o + 4, none⟩ = some (.int .u8 k4))
    (h5 : w.cell? ⟨g, o + 5, none⟩ = some (.int .u8 k5))
    (h6 : w.cell? ⟨g, o + 6, none⟩ = some (.int .u8 k6))
    (h7 : w.cell? ⟨g, o + 7, none⟩ = some (.int .u8 k7)) :
    Calls Tryz.prog 100 #[.pointer (some ⟨F, 0, none⟩)] w fun e w' => e = .returned (.agg #[.int .u8 k0, .int .u8 k1, .int .u8 k2, .int .u8 k3, .int .u8 k4, .int .u8 k5, .int .u8 k6, .int .u8 k7]) ∧ ∃ v, Below w.heap.size (w.setCell ⟨F, 0, none⟩ v) w' := by
  have hcp := copy8 g o 8 k0 k1 k2 k3 k4 k5 k6 k7 w hgl (by omega) h0 h1 h2 h3 h4 h5 h6 h7
  clear h0 h1 h2 h3 h4 h5 h6 h7
  go_enter Tryz.func100, Tryz.ntmps100
  go_wp2
  go_region
  go_wp2
  exact bodyPost_ret (v := .agg #[.int .u8 k0, .int .u8 k1, .int .u8 k2, .int .u8 k3, .int .u8 k4, .int .u8 k5, .int .u8 k6, .int .u8 k7]) (by simp [results, Tryz.results100, go_sem]) rfl ⟨rfl, _, (((Below.refl _ _).alloc (by simp) _).alloc (by simp) _).drew⟩
end Go.Proofs.YtlamgpeiolfffaaGreatDoor
