import Derived.Test.YtlamgpeiolfffaaGreatDoorZy17
set_option linter.unusedSectionVars false
namespace Go.Proofs.YtlamgpeiolfffaaGreatDoor
open Go.RowKit
variable [dK] [iK]

set_option maxRecDepth 100000 in
set_option maxHeartbeats 2000000 in
theorem rr16_5 (g so n cap : Nat) (b : Nat → Int) (w : World) (hn : 2 ≤ n) (_hnc : n ≤ cap) (hn1 : n ≤ 1048576) (hg : g < w.heap.size) (hb : ∀ j, j < n → w.cell? ⟨g, so + j, none⟩ = some (.int .u8 (b j))) (hr : ∀ j, 0 ≤ b j ∧ b j ≤ 255) (hb0 : b 0 = 1) (hb1 : b 1 = 5) :
    Calls Tryz.prog 80 #[.slice (some ⟨g, so, none⟩) n cap] w fun e w' => e = .returned (.tuple #[.agg #[.int .u8 5, .int .u8 0, .int .u8 0, .int .u8 0, .int .u8 0, .int .u8 0, .int .u8 0, .int .u8 0, .int .u8 0, .int .u8 0, .int .u64 0, .int .u64 0, .int .u64 0], .int .i64 2, .int .i64 0]) ∧ Below w.heap.size w w' := by
  have hn0 : (0 : Int) < n := by omega
  have hnd : decide ((0 : Int) < n) = true := by simpa using hn0
  have hn2 : decide ((1 : Int) < n) = true := by simp; omega
  have hnI : (1 : Int) < n := by omega
  have hne : ((n : Int) == 0) = false := by simp; omega
  have hlt : decide ((n : Int) < 2) = false := by simp; omega
  have hl : reqLen 5 = 1 := rfl
  have hS := St2.start w g hg #[.int .u8 0, .int .u8 0, .int .u8 0, .int .u8 0, .int .u8 0, .int .u8 0, .int .u8 0, .int .u8 0, .int .u8 0, .int .u8 0, .int .u64 0, .int .u64 0, .int .u64 0]
  have hc0 : w.cell? ⟨g, so, none⟩ = some (.int .u8 1) := (hb 0 (by omega)).trans (by rw [hb0])
  have hc1 : w.cell? ⟨g, so + 1, none⟩ = some (.int .u8 5) := (hb 1 (by omega)).trans (by rw [hb1])
  have hc0' : ∀ o1 o2, ((w.alloc o1).alloc o2).cell? ⟨g, so, none⟩ = some (.int .u8 1) := fun o1 o2 => by rw [World.cell?_alloc_past _ _ _ (by simp; omega), World.cell?_alloc_past _ _ _ hg]; exact hc0
  have hc1' : ∀ o1 o2, ((w.alloc o1).alloc o2).cell? ⟨g, so + 1, none⟩ = some (.int .u8 5) := fun o1 o2 => by rw [World.cell?_alloc_past _ _ _ (by simp; omega), World.cell?_alloc_past _ _ _ hg]; exact hc1
  have _ := hr
  clear hb hr hb0 hb1
  clear hS
  have hR8 : ∀ j, ((w.alloc (.cells #[.int .u8 0, .int .u8 0, .int .u8 0, .int .u8 0, .int .u8 0, .int .u8 0, .int .u8 0, .int .u8 0, .int .u8 0, .int .u8 0, .int .u64 0, .int .u64 0, .int .u64 0] 58)).alloc (.cells #[.int .u8 5, .int .u8 0, .int .u8 0, .int .u8 0, .int .u8 0, .int .u8 0, .int .u8 0, .int .u8 0, .int .u8 0, .int .u8 0, .int .u64 0, .int .u64 0, .int .u64 0] 58)).cell? ⟨w.heap.size, j, none⟩ = (#[.int .u8 0, .int .u8 0, .int .u8 0, .int .u8 0, .int .u8 0, .int .u8 0, .int .u8 0, .int .u8 0, .int .u8 0, .int .u8 0, .int .u64 0, .int .u64 0, .int .u64 0] : Array Value)[j]? := (St2.start w g hg _).R
  by_cases h2 : (2 : Int) < n
  all_goals
    go_enter Tryz.func80, Tryz.ntmps80
    go_wp2_with (go_at_call 78; refine (size_any _ _).mono ?_; rintro e w' ⟨rfl, rfl⟩)
    go_region
    go_wp2
    refine bodyPost_ret (v := .tuple #[.agg #[.int .u8 5, .int .u8 0, .int .u8 0, .int .u8 0, .int .u8 0, .int .u8 0, .int .u8 0, .int .u8 0, .int .u8 0, .int .u8 0, .int .u64 0, .int .u64 0, .int .u64 0], .int .i64 2, .int .i64 0]) (by simp [results, Tryz.results80, go_sem]) rfl ⟨rfl, ?_⟩
    exact Below.drew (((Below.refl _ w).alloc (Nat.le_refl _) _).alloc (by simp) _)

set_option maxRecDepth 100000 in
set_option maxHeartbeats 2000000 in
theorem rr16_6 (g so n cap : Nat) (b : Nat → Int) (w : World) (hn : 2 ≤ n) (_hnc : n ≤ cap) (hn1 : n ≤ 1048576) (hg : g < w.heap.size) (hb : ∀ j, j < n → w.cell? ⟨g, so + j, none⟩ = some (.int .u8 (b j))) (hr : ∀ j, 0 ≤ b j ∧ b j ≤ 255) (hb0 : b 0 = 1) (hb1 : b 1 = 6) :
    Calls Tryz.prog 80 #[.slice (some ⟨g, so, none⟩) n cap] w fun e w' => e = .returned (.tuple #[.agg #[.int .u8 6, .int .u8 0, .int .u8 0, .int .u8 0, .int .u8 0, .int .u8 0, .int .u8 0, .int .u8 0, .int .u8 0, .int .u8 0, .int .u64 0, .int .u64 0, .int .u64 0], .int .i64 2, .int .i64 0]) ∧ Below w.heap.size w w' := by
  have hn0 : (0 : Int) < n := by omega
  have hnd : decide ((0 : Int) < n) = true := by simpa using hn0
  have hn2 : decide ((1 : Int) < n) = true := by simp; omega
  have hnI : (1 : Int) < n := by omega
  have hne : ((n : Int) == 0) = false := by simp; omega
  have hlt : decide ((n : Int) < 2) = false := by simp; omega
  have hl : reqLen 6 = 1 := rfl
  have hS := St2.start w g hg #[.int .u8 0, .int .u8 0, .int .u8 0, .int .u8 0, .int .u8 0, .int .u8 0, .int .u8 0, .int .u8 0, .int .u8 0, .int .u8 0, .int .u64 0, .int .u64 0, .int .u64 0]
  have hc0 : w.cell? ⟨g, so, none⟩ = some (.int .u8 1) := (hb 0 (by omega)).trans (by rw [hb0])
  have hc1 : w.cell? ⟨g, so + 1, none⟩ = some (.int .u8 6) := (hb 1 (by omega)).trans (by rw [hb1])
  have hc0' : ∀ o1 o2, ((w.alloc o1).alloc o2).cell? ⟨g, so, none⟩ = some (.int .u8 1) := fun o1 o2 => by rw [World.cell?_alloc_past _ _ _ (by simp; omega), World.cell?_alloc_past _ _ _ hg]; exact hc0
  have hc1' : ∀ o1 o2, ((w.alloc o1).alloc o2).cell? ⟨g, so + 1, none⟩ = some (.int .u8 6) := fun o1 o2 => by rw [World.cell?_alloc_past _ _ _ (by simp; omega), World.cell?_alloc_past _ _ _ hg]; exact hc1
  have _ := hr
  clear hb hr hb0 hb1
  clear hS
  have hR8 : ∀ j, ((w.alloc (.cells #[.int .u8 0, .int .u8 0, .int .u8 0, .int .u8 0, .int .u8 0, .int .u8 0, .int .u8 0, .int .u8 0, .int .u8 0, .int .u8 0, .int .u64 0, .int .u64 0, .int .u64 0] 58)).alloc (.cells #[.int .u8 6, .int .u8 0, .int .u8 0, .int .u8 0, .int .u8 0, .int .u8 0, .int .u8 0, .int .u8 0, .int .u8 0, .int .u8 0, .int .u64 0, .int .u64 0, .int .u64 0] 58)).cell? ⟨w.heap.size, j, none⟩ = (#[.int .u8 0, .int .u8 0, .int .u8 0, .int .u8 0, .int .u8 0, .int .u8 0, .int .u8 0, .int .u8 0, .int .u8 0, .int .u8 0, .int .u64 0, .int .u64 0, .int .u64 0] : Array Value)[j]? := (St2.start w g hg _).R
  by_cases h2 : (2 : Int) < n
  all_goals
    go_enter Tryz.func80, Tryz.ntmps80
    go_wp2_with (go_at_call 78; refine (size_any _ _).mono ?_; rintro e w' ⟨rfl, rfl⟩)
    go_region
    go_wp2
    refine bodyPost_ret (v := .tuple #[.agg #[.int .u8 6, .int .u8 0, .int .u8 0, .int .u8 0, .int .u8 0, .int .u8 0, .int .u8 0, .int .u8 0, .int .u8 0, .int .u8 0, .int .u64 0, .int .u64 0, .int .u64 0], .int .i64 2, .int .i64 0]) (by simp [results, Tryz.results80, go_sem]) rfl ⟨rfl, ?_⟩
    exact Below.drew (((Below.refl _ w).alloc (Nat.le_refl _) _).alloc (by simp) _)

end Go.Proofs.YtlamgpeiolfffaaGreatDoor
