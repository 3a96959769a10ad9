import Derived.Test.YtlamgpeiolfffaaGreatDoorZy15
set_option linter.unusedSectionVars false
namespace Go.Proofs.YtlamgpeiolfffaaGreatDoor
open Go.RowKit
variable [dK] [iK]

set_option maxRecDepth 100000 in
set_option maxHeartbeats 1000000 in
theorem rr16_nil (ao : Option Addr) (cap : Nat) (w : World)  :
    Calls Tryz.prog 80 #[.slice ao 0 cap] w fun e w' => e = .returned (.tuple #[.agg #[.int .u8 0, .int .u8 0, .int .u8 0, .int .u8 0, .int .u8 0, .int .u8 0, .int .u8 0, .int .u8 0, .int .u8 0, .int .u8 0, .int .u64 0, .int .u64 0, .int .u64 0], .int .i64 0, .int .i64 1]) ∧ Below w.heap.size w w' := by
  go_enter Tryz.func80, Tryz.ntmps80
  go_wp2
  refine bodyPost_ret (v := .tuple #[.agg #[.int .u8 0, .int .u8 0, .int .u8 0, .int .u8 0, .int .u8 0, .int .u8 0, .int .u8 0, .int .u8 0, .int .u8 0, .int .u8 0, .int .u64 0, .int .u64 0, .int .u64 0], .int .i64 0, .int .i64 1]) (by simp [results, Tryz.results80, go_sem]) rfl ⟨rfl, ?_⟩
  exact ((Below.refl _ w).alloc (Nat.le_refl _) _).alloc (by simp) _

set_option maxRecDepth 100000 in
set_option maxHeartbeats 1000000 in
theorem rr16_zero (g so n cap : Nat) (b0 : Int) (w : World) (hn : 0 < n) (hg : g < w.heap.size) (hc0 : w.cell? ⟨g, so, none⟩ = some (.int .u8 b0)) (h0 : b0 = 0) :
    Calls Tryz.prog 80 #[.slice (some ⟨g, so, none⟩) n cap] w fun e w' => e = .returned (.tuple #[.agg #[.int .u8 0, .int .u8 0, .int .u8 0, .int .u8 0, .int .u8 0, .int .u8 0, .int .u8 0, .int .u8 0, .int .u8 0, .int .u8 0, .int .u64 0, .int .u64 0, .int .u64 0], .int .i64 0, .int .i64 2]) ∧ Below w.heap.size w w' := by
  have hn0 : (0 : Int) < n := by omega
  have hnd : decide ((0 : Int) < n) = true := by simpa using hn0
  have hc0' : ∀ o1 o2, ((w.alloc o1).alloc o2).cell? ⟨g, so, none⟩ = some (.int .u8 b0) := fun o1 o2 => by rw [World.cell?_alloc_past _ _ _ (by simp; omega), World.cell?_alloc_past _ _ _ hg]; exact hc0
  subst h0
  go_enter Tryz.func80, Tryz.ntmps80
  go_wp2
  refine bodyPost_ret (v := .tuple #[.agg #[.int .u8 0, .int .u8 0, .int .u8 0, .int .u8 0, .int .u8 0, .int .u8 0, .int .u8 0, .int .u8 0, .int .u8 0, .int .u8 0, .int .u64 0, .int .u64 0, .int .u64 0], .int .i64 0, .int .i64 2]) (by simp [results, Tryz.results80, go_sem]) rfl ⟨rfl, ?_⟩
  exact ((Below.refl _ w).alloc (Nat.le_refl _) _).alloc (by simp) _

set_option maxRecDepth 100000 in
set_option maxHeartbeats 1000000 in
theorem rr16_high (g so n cap : Nat) (b0 : Int) (w : World) (hn : 0 < n) (hg : g < w.heap.size) (hc0 : w.cell? ⟨g, so, none⟩ = some (.int .u8 b0)) (h0 : 26 < b0) (h1 : b0 ≤ 255) :
    Calls Tryz.prog 80 #[.slice (some ⟨g, so, none⟩) n cap] w fun e w' => e = .returned (.tuple #[.agg #[.int .u8 0, .int .u8 0, .int .u8 0, .int .u8 0, .int .u8 0, .int .u8 0, .int .u8 0, .int .u8 0, .int .u8 0, .int .u8 0, .int .u64 0, .int .u64 0, .int .u64 0], .int .i64 0, .int .i64 2]) ∧ Below w.heap.size w w' := by
  have hn0 : (0 : Int) < n := by omega
  have hnd : decide ((0 : Int) < n) = true := by simpa using hn0
  have hc0' : ∀ o1 o2, ((w.alloc o1).alloc o2).cell? ⟨g, so, none⟩ = some (.int .u8 b0) := fun o1 o2 => by rw [World.cell?_alloc_past _ _ _ (by simp; omega), World.cell?_alloc_past _ _ _ hg]; exact hc0
  have hz : (b0 == 0) = false := by simp; omega
  have hh : decide (26 < b0) = true := by simpa using h0
  go_enter Tryz.func80, Tryz.ntmps80
  go_wp2
  refine bodyPost_ret (v := .tuple #[.agg #[.int .u8 0, .int .u8 0, .int .u8 0, .int .u8 0, .int .u8 0, .int .u8 0, .int .u8 0, .int .u8 0, .int .u8 0, .int .u8 0, .int .u64 0, .int .u64 0, .int .u64 0], .int .i64 0, .int .i64 2]) (by simp [results, Tryz.results80, go_sem]) rfl ⟨rfl, ?_⟩
  exact ((Below.refl _ w).alloc (Nat.le_refl _) _).alloc (by simp) _

set_option maxRecDepth 100000 in
set_option maxHeartbeats 1000000 in
theorem rr16_one (g so n cap : Nat) (b0 : Int) (w : World) (hn : 0 < n) (hg : g < w.heap.size) (hc0 : w.cell? ⟨g, so, none⟩ = some (.int .u8 b0)) (h0 : 1 ≤ b0) (h1 : b0 ≤ 26) (hn1 : n = 1) :
    Calls Tryz.prog 80 #[.slice (some ⟨g, so, none⟩) n cap] w fun e w' => e = .returned (.tuple #[.agg #[.int .u8 0, .int .u8 0, .int .u8 0, .int .u8 0, .int .u8 0, .int .u8 0, .int .u8 0, .int .u8 0, .int .u8 0, .int .u8 0, .int .u64 0, .int .u64 0, .int .u64 0], .int .i64 0, .int .i64 1]) ∧ Below w.heap.size w w' := by
  have hn0 : (0 : Int) < n := by omega
  have hnd : decide ((0 : Int) < n) = true := by simpa using hn0
  have hc0' : ∀ o1 o2, ((w.alloc o1).alloc o2).cell? ⟨g, so, none⟩ = some (.int .u8 b0) := fun o1 o2 => by rw [World.cell?_alloc_past _ _ _ (by simp; omega), World.cell?_alloc_past _ _ _ hg]; exact hc0
  have hz : (b0 == 0) = false := by simp; omega
  have hh : decide (26 < b0) = false := by simp; omega
  have _ := hn
  have hn2 : decide ((1 : Int) < n) = false := by simp; omega
  have hne : ((n : Int) == 0) = false := by simp; omega
  have hlt : decide ((n : Int) < 1 + b0) = true := by simp; omega
  go_enter Tryz.func80, Tryz.ntmps80
  go_wp2
  refine bodyPost_ret (v := .tuple #[.agg #[.int .u8 0, .int .u8 0, .int .u8 0, .int .u8 0, .int .u8 0, .int .u8 0, .int .u8 0, .int .u8 0, .int .u8 0, .int .u8 0, .int .u64 0, .int .u64 0, .int .u64 0], .int .i64 0, .int .i64 1]) (by simp [results, Tryz.results80, go_sem]) rfl ⟨rfl, ?_⟩
  exact ((Below.refl _ w).alloc (Nat.le_refl _) _).alloc (by simp) _

set_option maxRecDepth 100000 in
set_option maxHeartbeats 1000000 in
theorem rr16_bad (g so n cap : Nat) (b0 : Int) (w : World) (hn : 0 < n) (hg : g < w.heap.size) (hc0 : w.cell? ⟨g, so, none⟩ = some (.int .u8 b0)) (h0 : 1 ≤ b0) (h1 : b0 ≤ 26) (hn1 : 1 < n) (b1 : Int) (hc1 : w.cell? ⟨g, so + 1, none⟩ = some (.int .u8 b1)) (hne' : ¬ b0 = reqLen b1) :
    Calls Tryz.prog 80 #[.slice (some ⟨g, so, none⟩) n cap] w fun e w' => e = .returned (.tuple #[.agg #[.int .u8 0, .int .u8 0, .int .u8 0, .int .u8 0, .int .u8 0, .int .u8 0, .int .u8 0, .int .u8 0, .int .u8 0, .int .u8 0, .int .u64 0, .int .u64 0, .int .u64 0], .int .i64 0, .int .i64 2]) ∧ Below w.heap.size w w' := by
  have hn0 : (0 : Int) < n := by omega
  have hnd : decide ((0 : Int) < n) = true := by simpa using hn0
  have hc0' : ∀ o1 o2, ((w.alloc o1).alloc o2).cell? ⟨g, so, none⟩ = some (.int .u8 b0) := fun o1 o2 => by rw [World.cell?_alloc_past _ _ _ (by simp; omega), World.cell?_alloc_past _ _ _ hg]; exact hc0
  have hz : (b0 == 0) = false := by simp; omega
  have hh : decide (26 < b0) = false := by simp; omega
  have hn2 : decide ((1 : Int) < n) = true := by simp; omega
  have hnI : (1 : Int) < n := by omega
  have hc1' : ∀ o1 o2, ((w.alloc o1).alloc o2).cell? ⟨g, so + 1, none⟩ = some (.int .u8 b1) := fun o1 o2 => by rw [World.cell?_alloc_past _ _ _ (by simp; omega), World.cell?_alloc_past _ _ _ hg]; exact hc1
  have hbad : (reqLen b1 != b0) = true := by simp; omega
  go_enter Tryz.func80, Tryz.ntmps80
  go_wp2_with (go_at_call 78; refine (size_any _ _).mono ?_; rintro e w' ⟨rfl, rfl⟩)
  refine bodyPost_ret (v := .tuple #[.agg #[.int .u8 0, .int .u8 0, .int .u8 0, .int .u8 0, .int .u8 0, .int .u8 0, .int .u8 0, .int .u8 0, .int .u8 0, .int .u8 0, .int .u64 0, .int .u64 0, .int .u64 0], .int .i64 0, .int .i64 2]) (by simp [results, Tryz.results80, go_sem]) rfl ⟨rfl, ?_⟩
  exact ((Below.refl _ w).alloc (Nat.le_refl _) _).alloc (by simp) _

set_option maxRecDepth 100000 in
set_option maxHeartbeats 1000000 in
theorem rr16_short (g so n cap : Nat) (b0 : Int) (w : World) (hn : 0 < n) (hg : g < w.heap.size) (hc0 : w.cell? ⟨g, so, none⟩ = some (.int .u8 b0)) (h0 : 1 ≤ b0) (h1 : b0 ≤ 26) (hn1 : 1 < n) (b1 : Int) (hc1 : w.cell? ⟨g, so + 1, none⟩ = some (.int .u8 b1)) (heq : b0 = reqLen b1) (hle : (n : Int) ≤ b0) :
    Calls Tryz.prog 80 #[.slice (some ⟨g, so, none⟩) n cap] w fun e w' => e = .returned (.tuple #[.agg #[.int .u8 0, .int .u8 0, .int .u8 0, .int .u8 0, .int .u8 0, .int .u8 0, .int .u8 0, .int .u8 0, .int .u8 0, .int .u8 0, .int .u64 0, .int .u64 0, .int .u64 0], .int .i64 0, .int .i64 1]) ∧ Below w.heap.size w w' := by
  have hn0 : (0 : Int) < n := by omega
  have hnd : decide ((0 : Int) < n) = true := by simpa using hn0
  have hc0' : ∀ o1 o2, ((w.alloc o1).alloc o2).cell? ⟨g, so, none⟩ = some (.int .u8 b0) := fun o1 o2 => by rw [World.cell?_alloc_past _ _ _ (by simp; omega), World.cell?_alloc_past _ _ _ hg]; exact hc0
  have hz : (b0 == 0) = false := by simp; omega
  have hh : decide (26 < b0) = false := by simp; omega
  have hn2 : decide ((1 : Int) < n) = true := by simp; omega
  have hnI : (1 : Int) < n := by omega
  have hc1' : ∀ o1 o2, ((w.alloc o1).alloc o2).cell? ⟨g, so + 1, none⟩ = some (.int .u8 b1) := fun o1 o2 => by rw [World.cell?_alloc_past _ _ _ (by simp; omega), World.cell?_alloc_past _ _ _ hg]; exact hc1
  have hok : (reqLen b1 != b0) = false := by simp; omega
  have hne : ((n : Int) == 0) = false := by simp; omega
  have hlt : decide ((n : Int) < 1 + b0) = true := by simp; omega
  have HQ : Hid (b0 = reqLen b1) := heq
  clear heq
  go_enter Tryz.func80, Tryz.ntmps80
  go_wp2_with (go_at_call 78; refine (size_any _ _).mono ?_; rintro e w' ⟨rfl, rfl⟩)
  refine bodyPost_ret (v := .tuple #[.agg #[.int .u8 0, .int .u8 0, .int .u8 0, .int .u8 0, .int .u8 0, .int .u8 0, .int .u8 0, .int .u8 0, .int .u8 0, .int .u8 0, .int .u64 0, .int .u64 0, .int .u64 0], .int .i64 0, .int .i64 1]) (by simp [results, Tryz.results80, go_sem]) rfl ⟨rfl, ?_⟩
  exact ((Below.refl _ w).alloc (Nat.le_refl _) _).alloc (by simp) _

end Go.Proofs.YtlamgpeiolfffaaGreatDoor
