import Derived.Test.YtlcnkcgmjnfbiaaGreatDoorZd00
import Derived.BigQuiet
import Derived.Laws.EntriesVeiled
import Derived.Deep.QuietTactic
set_option linter.unusedSectionVars false
namespace Go.Proofs.YtlcnkcgmjnfbiaaGreatDoor
open Go.RowKit
variable [dK] [iK]

set_option maxRecDepth 100000 in
set_option maxHeartbeats 400000 in
theorem requests_any (w : World) : Calls Tryz.prog 132 #[] w fun e w' => e = .returned (.agg #[.int .u8 1, .int .u8 26, .func (.func 113) #[] #[]]) ∧ Below w.heap.size w w' := by
  go_enter Tryz.func132, Tryz.ntmps132
  go_wp2
  exact bodyPost_ret (v := .agg #[.int .u8 1, .int .u8 26, .func (.func 113) #[] #[]]) (by simp [results, Tryz.results132, go_sem]) rfl ⟨rfl, (Below.refl _ w).alloc (Nat.le_refl _) _⟩

set_option maxRecDepth 100000 in
set_option maxHeartbeats 400000 in
theorem begin0 (ao : Option Addr) (cap : Nat) (w : World) :
    Calls Tryz.prog 160 #[.agg #[.int .u8 1, .int .u8 26, .func (.func 113) #[] #[]], .slice ao 0 cap] w fun e w' => e = .returned (.iface 27 (.int .i64 1)) ∧ Below w.heap.size w w' := by
  go_enter Tryz.func160, Tryz.ntmps160
  go_wp2
  go_ret
  exact ⟨rfl, (Below.refl _ w).alloc (Nat.le_refl _) _⟩

set_option maxRecDepth 100000 in
set_option maxHeartbeats 400000 in
theorem begin1 (g so n cap : Nat) (b0 : Int) (w : World) (hn : 0 < n) (hg : g < w.heap.size) (hc0 : w.cell? ⟨g, so, none⟩ = some (.int .u8 b0)) (hlo : b0 < 1) :
    Calls Tryz.prog 160 #[.agg #[.int .u8 1, .int .u8 26, .func (.func 113) #[] #[]], .slice (some ⟨g, so, none⟩) n cap] w fun e w' => e = .returned (.iface 27 (.int .i64 2)) ∧ Below w.heap.size w w' := by
  have hd : decide (b0 < 1) = true := by simpa using hlo
  have hn0 : ((n : Int) == 0) = false := by simp; omega
  have hc0' : (w.alloc (.cells #[.int .u8 1, .int .u8 26, .func (.func 113) #[] #[]] 261)).cell? ⟨g, so, none⟩ = some (.int .u8 b0) := by rw [World.cell?_alloc_lt _ _ ⟨g, so, none⟩ hg]; exact hc0
  go_enter Tryz.func160, Tryz.ntmps160
  go_wp2
  go_quiet (fail)
  go_wp2
  go_ret
  exact ⟨rfl, below_drewN ((Below.refl _ w).alloc (Nat.le_refl _) _) _⟩

set_option maxRecDepth 100000 in
set_option maxHeartbeats 400000 in
theorem begin2 (g so n cap : Nat) (b0 : Int) (w : World) (hn : 0 < n) (hg : g < w.heap.size) (hc0 : w.cell? ⟨g, so, none⟩ = some (.int .u8 b0)) (hlo : ¬ b0 < 1) (hhi : 26 < b0) :
    Calls Tryz.prog 160 #[.agg #[.int .u8 1, .int .u8 26, .func (.func 113) #[] #[]], .slice (some ⟨g, so, none⟩) n cap] w fun e w' => e = .returned (.iface 27 (.int .i64 2)) ∧ Below w.heap.size w w' := by
  have hd : decide (b0 < 1) = false := by simpa using hlo
  have hd2 : decide (26 < b0) = true := by simpa using hhi
  have hn0 : ((n : Int) == 0) = false := by simp; omega
  have hc0' : (w.alloc (.cells #[.int .u8 1, .int .u8 26, .func (.func 113) #[] #[]] 261)).cell? ⟨g, so, none⟩ = some (.int .u8 b0) := by rw [World.cell?_alloc_lt _ _ ⟨g, so, none⟩ hg]; exact hc0
  go_enter Tryz.func160, Tryz.ntmps160
  go_wp2
  go_quiet (fail)
  go_wp2
  go_ret
  exact ⟨rfl, below_drewN ((Below.refl _ w).alloc (Nat.le_refl _) _) _⟩

set_option maxRecDepth 100000 in
set_option maxHeartbeats 400000 in
theorem begin3 (g so n cap : Nat) (b0 : Int) (w : World) (hn : 0 < n) (hg : g < w.heap.size) (hc0 : w.cell? ⟨g, so, none⟩ = some (.int .u8 b0)) (hlo : ¬ b0 < 1) (hhi : ¬ 26 < b0) (hn1 : ((n : Int) == 1) = true) :
    Calls Tryz.prog 160 #[.agg #[.int .u8 1, .int .u8 26, .func (.func 113) #[] #[]], .slice (some ⟨g, so, none⟩) n cap] w fun e w' => e = .returned (.iface 27 (.int .i64 1)) ∧ Below w.heap.size w w' := by
  have hd : decide (b0 < 1) = false := by simpa using hlo
  have hd2 : decide (26 < b0) = false := by simpa using hhi
  have hn0 : ((n : Int) == 0) = false := by simp; omega
  have hc0' : (w.alloc (.cells #[.int .u8 1, .int .u8 26, .func (.func 113) #[] #[]] 261)).cell? ⟨g, so, none⟩ = some (.int .u8 b0) := by rw [World.cell?_alloc_lt _ _ ⟨g, so, none⟩ hg]; exact hc0
  go_enter Tryz.func160, Tryz.ntmps160
  go_wp2
  go_quiet (fail)
  go_wp2
  go_ret
  exact ⟨rfl, below_drewN ((Below.refl _ w).alloc (Nat.le_refl _) _) _⟩

set_option maxRecDepth 100000 in
set_option maxHeartbeats 400000 in
theorem begin4 (g so n cap : Nat) (b0 b1 : Int) (w : World) (hn : 1 < n) (hg : g < w.heap.size) (hc0 : w.cell? ⟨g, so, none⟩ = some (.int .u8 b0)) (hc1 : w.cell? ⟨g, so + 1, none⟩ = some (.int .u8 b1)) (hlo : ¬ b0 < 1) (hhi : ¬ 26 < b0) :
    Calls Tryz.prog 160 #[.agg #[.int .u8 1, .int .u8 26, .func (.func 113) #[] #[]], .slice (some ⟨g, so, none⟩) n cap] w fun e w' => e = .returned (if b0 = reqLen b1 then .nilIface else .iface 27 (.int .i64 2)) ∧ Below w.heap.size w w' := by
  have hd : decide (b0 < 1) = false := by simpa using hlo
  have hd2 : decide (26 < b0) = false := by simpa using hhi
  have hn0 : ((n : Int) == 0) = false := by simp; omega
  have hn1 : ((n : Int) == 1) = false := by simp; omega
  have hnp : 0 < n := by omega
  have hnI : (1 : Int) < (n : Int) := by omega
  have hwr : IntKind.i64.wrap b0 = b0 := wrap_small b0 (by omega) (by omega)
  have hc0' : (w.alloc (.cells #[.int .u8 1, .int .u8 26, .func (.func 113) #[] #[]] 261)).cell? ⟨g, so, none⟩ = some (.int .u8 b0) := by rw [World.cell?_alloc_lt _ _ ⟨g, so, none⟩ hg]; exact hc0
  have hc1' : (w.alloc (.cells #[.int .u8 1, .int .u8 26, .func (.func 113) #[] #[]] 261)).cell? ⟨g, so + 1, none⟩ = some (.int .u8 b1) := by rw [World.cell?_alloc_lt _ _ ⟨g, so + 1, none⟩ hg]; exact hc1
  by_cases heq : b0 = reqLen b1
  · rw [if_pos heq]
    have hb : (b0 != reqLen b1) = false := by simpa using heq
    have HQ := hide heq
    clear heq
    go_enter Tryz.func160, Tryz.ntmps160
    go_wp2
    go_quiet (fail)
    go_wp2
    go_quiet ((go_at_call 113; refine (len_any _ _).mono ?_; rintro e w2 ⟨rfl, rfl⟩; exact ⟨rfl, _, rfl⟩))
    go_wp2
    go_ret
    exact ⟨rfl, below_drewN (below_drewN ((Below.refl _ w).alloc (Nat.le_refl _) _) _) _⟩
  · rw [if_neg heq]
    have hb : (b0 != reqLen b1) = true := by simpa using heq
    go_enter Tryz.func160, Tryz.ntmps160
    go_wp2
    go_quiet (fail)
    go_wp2
    go_quiet ((go_at_call 113; refine (len_any _ _).mono ?_; rintro e w2 ⟨rfl, rfl⟩; exact ⟨rfl, _, rfl⟩))
    go_wp2
    go_ret
    exact ⟨rfl, below_drewN ((Below.refl _ w).alloc (Nat.le_refl _) _) _⟩
end Go.Proofs.YtlcnkcgmjnfbiaaGreatDoor
