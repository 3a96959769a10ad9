import Derived.Test.YtlamgpeiolfffaaGreatDoorZy00
set_option linter.unusedSectionVars false
namespace Go.Proofs.YtlamgpeiolfffaaGreatDoor
open Go.RowKit
variable [dK] [iK]

/-- How many bytes follow the first of a reply; 0: there is no such Code. -/
def repLen (c : Int) : Int := if c < 1 ∨ 9 < c then 0 else 17
set_option maxRecDepth 100000 in
set_option maxHeartbeats 400000 in
theorem rlen_any (c : Int) (w : World) :
    Calls Tryz.prog 129 #[.int .u8 c] w fun e w' => e = .returned (.int .i64 (repLen c)) ∧ w' = w := by
  by_cases h1 : c < 1
  · have e : repLen c = 0 := by simp [repLen, h1]
    rw [e]
    have hd : decide (c < 1) = true := by simpa using h1
    go_enter Tryz.func129, Tryz.ntmps129
    go_wp2
    go_ret
    exact ⟨rfl, rfl⟩
  by_cases h2 : 9 < c
  · have e : repLen c = 0 := by simp [repLen, h2]
    rw [e]
    have hd : decide (c < 1) = false := by simpa using h1
    have hd2 : decide (9 < c) = true := by simpa using h2
    go_enter Tryz.func129, Tryz.ntmps129
    go_wp2
    go_ret
    exact ⟨rfl, rfl⟩
  have e : repLen c = 17 := by simp [repLen, h1, h2]
  rw [e]
  have hd : decide (c < 1) = false := by simpa using h1
  have hd2 : decide (9 < c) = false := by simpa using h2
  go_enter Tryz.func129, Tryz.ntmps129
  go_wp2
  go_ret
  exact ⟨rfl, rfl⟩

set_option maxRecDepth 100000 in
set_option maxHeartbeats 400000 in
theorem replies_any (w : World) : Calls Tryz.prog 113 #[] w fun e w' => e = .returned (.agg #[.int .u8 17, .int .u8 17, .func (.func 129) #[] #[]]) ∧ Below w.heap.size w w' := by
  go_enter Tryz.func113, Tryz.ntmps113
  go_wp2
  exact bodyPost_ret (v := .agg #[.int .u8 17, .int .u8 17, .func (.func 129) #[] #[]]) (by simp [results, Tryz.results113, go_sem]) rfl ⟨rfl, (Below.refl _ w).alloc (Nat.le_refl _) _⟩

set_option maxRecDepth 100000 in
set_option maxHeartbeats 400000 in
theorem rbegin0 (ao : Option Addr) (cap : Nat) (w : World) :
    Calls Tryz.prog 121 #[.agg #[.int .u8 17, .int .u8 17, .func (.func 129) #[] #[]], .slice ao 0 cap] w fun e w' => e = .returned (.iface 46 (.int .i64 1)) ∧ Below w.heap.size w w' := by
  go_enter Tryz.func121, Tryz.ntmps121
  go_wp2
  go_ret
  exact ⟨rfl, (Below.refl _ w).alloc (Nat.le_refl _) _⟩

set_option maxRecDepth 100000 in
set_option maxHeartbeats 400000 in
theorem rbegin1 (g n cap : Nat) (b0 : Int) (w : World) (hn : 0 < n) (hg : g < w.heap.size) (hc0 : w.cell? ⟨g, 0, none⟩ = some (.int .u8 b0)) (hlo : b0 < 17) :
    Calls Tryz.prog 121 #[.agg #[.int .u8 17, .int .u8 17, .func (.func 129) #[] #[]], .slice (some ⟨g, 0, none⟩) n cap] w fun e w' => e = .returned (.iface 46 (.int .i64 2)) ∧ Below w.heap.size w w' := by
  have hd : decide (b0 < 17) = true := by simpa using hlo
  have hn0 : ((n : Int) == 0) = false := by simp; omega
  have hc0' : (w.alloc (.cells #[.int .u8 17, .int .u8 17, .func (.func 129) #[] #[]] 188)).cell? ⟨g, 0, none⟩ = some (.int .u8 b0) := by rw [World.cell?_alloc_lt _ _ ⟨g, 0, none⟩ hg]; exact hc0
  go_enter Tryz.func121, Tryz.ntmps121
  go_wp2
  go_quiet (fail)
  go_wp2
  go_ret
  exact ⟨rfl, below_drewN ((Below.refl _ w).alloc (Nat.le_refl _) _) _⟩

set_option maxRecDepth 100000 in
set_option maxHeartbeats 400000 in
theorem rbegin2 (g n cap : Nat) (b0 : Int) (w : World) (hn : 0 < n) (hg : g < w.heap.size) (hc0 : w.cell? ⟨g, 0, none⟩ = some (.int .u8 b0)) (hlo : ¬ b0 < 17) (hhi : 17 < b0) :
    Calls Tryz.prog 121 #[.agg #[.int .u8 17, .int .u8 17, .func (.func 129) #[] #[]], .slice (some ⟨g, 0, none⟩) n cap] w fun e w' => e = .returned (.iface 46 (.int .i64 2)) ∧ Below w.heap.size w w' := by
  have hd : decide (b0 < 17) = false := by simpa using hlo
  have hd2 : decide (17 < b0) = true := by simpa using hhi
  have hn0 : ((n : Int) == 0) = false := by simp; omega
  have hc0' : (w.alloc (.cells #[.int .u8 17, .int .u8 17, .func (.func 129) #[] #[]] 188)).cell? ⟨g, 0, none⟩ = some (.int .u8 b0) := by rw [World.cell?_alloc_lt _ _ ⟨g, 0, none⟩ hg]; exact hc0
  go_enter Tryz.func121, Tryz.ntmps121
  go_wp2
  go_quiet (fail)
  go_wp2
  go_ret
  exact ⟨rfl, below_drewN ((Below.refl _ w).alloc (Nat.le_refl _) _) _⟩

set_option maxRecDepth 100000 in
set_option maxHeartbeats 400000 in
theorem rbegin3 (g n cap : Nat) (b0 : Int) (w : World) (hn : 0 < n) (hg : g < w.heap.size) (hc0 : w.cell? ⟨g, 0, none⟩ = some (.int .u8 b0)) (hlo : ¬ b0 < 17) (hhi : ¬ 17 < b0) (hn1 : ((n : Int) == 1) = true) :
    Calls Tryz.prog 121 #[.agg #[.int .u8 17, .int .u8 17, .func (.func 129) #[] #[]], .slice (some ⟨g, 0, none⟩) n cap] w fun e w' => e = .returned (.iface 46 (.int .i64 1)) ∧ Below w.heap.size w w' := by
  have hd : decide (b0 < 17) = false := by simpa using hlo
  have hd2 : decide (17 < b0) = false := by simpa using hhi
  have hn0 : ((n : Int) == 0) = false := by simp; omega
  have hc0' : (w.alloc (.cells #[.int .u8 17, .int .u8 17, .func (.func 129) #[] #[]] 188)).cell? ⟨g, 0, none⟩ = some (.int .u8 b0) := by rw [World.cell?_alloc_lt _ _ ⟨g, 0, none⟩ hg]; exact hc0
  go_enter Tryz.func121, Tryz.ntmps121
  go_wp2
  go_quiet (fail)
  go_wp2
  go_ret
  exact ⟨rfl, below_drewN ((Below.refl _ w).alloc (Nat.le_refl _) _) _⟩

set_option maxRecDepth 100000 in
set_option maxHeartbeats 400000 in
theorem rbegin4 (g n cap : Nat) (b0 b1 : Int) (w : World) (hn : 1 < n) (hg : g < w.heap.size) (hc0 : w.cell? ⟨g, 0, none⟩ = some (.int .u8 b0)) (hc1 : w.cell? ⟨g, 1, none⟩ = some (.int .u8 b1)) (hlo : ¬ b0 < 17) (hhi : ¬ 17 < b0) :
    Calls Tryz.prog 121 #[.agg #[.int .u8 17, .int .u8 17, .func (.func 129) #[] #[]], .slice (some ⟨g, 0, none⟩) n cap] w fun e w' => e = .returned (if b0 = repLen b1 then .nilIface else .iface 46 (.int .i64 2)) ∧ Below w.heap.size w w' := by
  have hd : decide (b0 < 17) = false := by simpa using hlo
  have hd2 : decide (17 < b0) = false := by simpa using hhi
  have hn0 : ((n : Int) == 0) = false := by simp; omega
  have hn1 : ((n : Int) == 1) = false := by simp; omega
  have hnp : 0 < n := by omega
  have hnI : (1 : Int) < (n : Int) := by omega
  have hwr : IntKind.i64.wrap b0 = b0 := wrap_small b0 (by omega) (by omega)
  have hc0' : (w.alloc (.cells #[.int .u8 17, .int .u8 17, .func (.func 129) #[] #[]] 188)).cell? ⟨g, 0, none⟩ = some (.int .u8 b0) := by rw [World.cell?_alloc_lt _ _ ⟨g, 0, none⟩ hg]; exact hc0
  have hc1' : (w.alloc (.cells #[.int .u8 17, .int .u8 17, .func (.func 129) #[] #[]] 188)).cell? ⟨g, 1, none⟩ = some (.int .u8 b1) := by rw [World.cell?_alloc_lt _ _ ⟨g, 1, none⟩ hg]; exact hc1
  by_cases heq : b0 = repLen b1
  · rw [if_pos heq]
    have hb : (b0 != repLen b1) = false := by simpa using heq
    have HQ := hide heq
    clear heq
    go_enter Tryz.func121, Tryz.ntmps121
    go_wp2
    go_quiet (fail)
    go_wp2
    go_quiet ((go_at_call 129; refine (rlen_any _ _).mono ?_; rintro e w2 ⟨rfl, rfl⟩; exact ⟨rfl, _, rfl⟩))
    go_wp2
    go_ret
    exact ⟨rfl, below_drewN (below_drewN ((Below.refl _ w).alloc (Nat.le_refl _) _) _) _⟩
  · rw [if_neg heq]
    have hb : (b0 != repLen b1) = true := by simpa using heq
    go_enter Tryz.func121, Tryz.ntmps121
    go_wp2
    go_quiet (fail)
    go_wp2
    go_quiet ((go_at_call 129; refine (rlen_any _ _).mono ?_; rintro e w2 ⟨rfl, rfl⟩; exact ⟨rfl, _, rfl⟩))
    go_wp2
    go_ret
    exact ⟨rfl, below_drewN ((Below.refl _ w).alloc (Nat.le_refl _) _) _⟩

end Go.Proofs.YtlamgpeiolfffaaGreatDoor
