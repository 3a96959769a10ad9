import Derived.Test.YtlamgpeiolfffaaGreatDoorZy17
set_option linter.unusedSectionVars false
namespace Go.Proofs.YtlamgpeiolfffaaGreatDoor
open Go.RowKit
variable [dK] [iK]

set_option maxRecDepth 100000 in
set_option maxHeartbeats 2000000 in
theorem rr16_3 (g so n cap : Nat) (b : Nat → Int) (w : World) (hn : 10 ≤ n) (_hnc : n ≤ cap) (hn1 : n ≤ 1048576) (hg : g < w.heap.size) (hb : ∀ j, j < n → w.cell? ⟨g, so + j, none⟩ = some (.int .u8 (b j))) (hr : ∀ j, 0 ≤ b j ∧ b j ≤ 255) (hb0 : b 0 = 9) (hb1 : b 1 = 3) :
    Calls Tryz.prog 80 #[.slice (some ⟨g, so, none⟩) n cap] w fun e w' => e = .returned (.tuple #[.agg #[.int .u8 3, .int .u8 (b 2), .int .u8 (b 3), .int .u8 (b 4), .int .u8 (b 5), .int .u8 (b 6), .int .u8 (b 7), .int .u8 (b 8), .int .u8 (b 9), .int .u8 0, .int .u64 0, .int .u64 0, .int .u64 0], .int .i64 10, .int .i64 0]) ∧ Below w.heap.size w w' := by
  have hn0 : (0 : Int) < n := by omega
  have hnd : decide ((0 : Int) < n) = true := by simpa using hn0
  have hn2 : decide ((1 : Int) < n) = true := by simp; omega
  have hnI : (1 : Int) < n := by omega
  have hne : ((n : Int) == 0) = false := by simp; omega
  have hlt : decide ((n : Int) < 10) = false := by simp; omega
  have hl : reqLen 3 = 9 := rfl
  have hS := St2.start w g hg #[.int .u8 0, .int .u8 0, .int .u8 0, .int .u8 0, .int .u8 0, .int .u8 0, .int .u8 0, .int .u8 0, .int .u8 0, .int .u8 0, .int .u64 0, .int .u64 0, .int .u64 0]
  have hc0 : w.cell? ⟨g, so, none⟩ = some (.int .u8 9) := (hb 0 (by omega)).trans (by rw [hb0])
  have hc1 : w.cell? ⟨g, so + 1, none⟩ = some (.int .u8 3) := (hb 1 (by omega)).trans (by rw [hb1])
  have hc0' : ∀ o1 o2, ((w.alloc o1).alloc o2).cell? ⟨g, so, none⟩ = some (.int .u8 9) := fun o1 o2 => by rw [World.cell?_alloc_past _ _ _ (by simp; omega), World.cell?_alloc_past _ _ _ hg]; exact hc0
  have hc1' : ∀ o1 o2, ((w.alloc o1).alloc o2).cell? ⟨g, so + 1, none⟩ = some (.int .u8 3) := fun o1 o2 => by rw [World.cell?_alloc_past _ _ _ (by simp; omega), World.cell?_alloc_past _ _ _ hg]; exact hc1
  have HB := hide hb
  have HR := hide hr
  clear hb hr hb0 hb1
  have hn3 : decide ((2 : Int) < n) = true := by simp; omega
  go_enter Tryz.func80, Tryz.ntmps80
  go_wp2_with (go_at_call 78; refine (size_any _ _).mono ?_; rintro e w' ⟨rfl, rfl⟩)
  have HS : St2 w ((w.alloc (.cells #[.int .u8 0, .int .u8 0, .int .u8 0, .int .u8 0, .int .u8 0, .int .u8 0, .int .u8 0, .int .u8 0, .int .u8 0, .int .u8 0, .int .u64 0, .int .u64 0, .int .u64 0] 58)).alloc (.cells #[.int .u8 3, .int .u8 0, .int .u8 0, .int .u8 0, .int .u8 0, .int .u8 0, .int .u8 0, .int .u8 0, .int .u8 0, .int .u8 0, .int .u64 0, .int .u64 0, .int .u64 0] 58)) g (keyArr 3 b 0) := St2.start w g hg _
  clear hS hc0' hc1'
  go_loopw [7] (fun i wr => ∃ j : Nat, j ≤ 8 ∧ i = .int .i64 j ∧ St2 w wr g (keyArr 3 b j)) (fun i _ => 8 - (intOf i).toNat)
  case atStart => exact ⟨0, by omega, rfl, HS⟩
  case round =>
    obtain ⟨j, hj, rfl, S⟩ := hrel
    clear HS
    by_cases hj8 : j < 8
    · have hbj : wr.cell? ⟨g, so + (2 + j), none⟩ = some (.int .u8 (b (2 + j))) := (S.G (so + (2 + j))).trans (HB.out (2 + j) (by omega))
      have hrs : 1 + j < (keyArr 3 b j).size := by show _ < 13; omega
      obtain ⟨u, hu⟩ : ∃ u, wr.cell? ⟨w.heap.size + 1, 1 + j, none⟩ = some u := ⟨_, (S.r (1 + j)).trans (Array.getElem?_eq_getElem hrs)⟩
      have hfu := S.rf (1 + j)
      have hjn : 2 + j < n := by omega
      go_wp2
      go_roundw
      case rel => exact ⟨j + 1, by omega, by go_num, by rw [← keyArr_step 3 b j hj8]; exact S.setr (1 + j) hrs _⟩
      case measure => simp [intOf]; omega
    · obtain rfl : j = 8 := by omega
      have S8 : St2 w wr g #[.int .u8 3, .int .u8 (b 2), .int .u8 (b 3), .int .u8 (b 4), .int .u8 (b 5), .int .u8 (b 6), .int .u8 (b 7), .int .u8 (b 8), .int .u8 (b 9), .int .u8 0, .int .u64 0, .int .u64 0, .int .u64 0] := S
      clear S
      have hr8 := S8.r
      have hrf8 := S8.rf
      have hR8 := S8.R
      have hRf8 := S8.Rf
      have hG0 : wr.cell? ⟨g, so, none⟩ = some (.int .u8 9) := (S8.G so).trans hc0
      go_wp2_with fail
      go_region
      all_goals
        go_wp2
        refine bodyPost_ret (v := .tuple #[.agg #[.int .u8 3, .int .u8 (b 2), .int .u8 (b 3), .int .u8 (b 4), .int .u8 (b 5), .int .u8 (b 6), .int .u8 (b 7), .int .u8 (b 8), .int .u8 (b 9), .int .u8 0, .int .u64 0, .int .u64 0, .int .u64 0], .int .i64 10, .int .i64 0]) (by simp [results, Tryz.results80, go_sem, hR8]) rfl ⟨rfl, ?_⟩
        refine Below.drew ?_
        repeat (refine Below.setCell ?_ (by first | exact Nat.le_refl _ | (show _ ≤ w.heap.size + 1; omega)) _)
        exact S8.B

set_option maxRecDepth 100000 in
set_option maxHeartbeats 2000000 in
theorem rr16_4 (g so n cap : Nat) (b : Nat → Int) (w : World) (hn : 10 ≤ n) (_hnc : n ≤ cap) (hn1 : n ≤ 1048576) (hg : g < w.heap.size) (hb : ∀ j, j < n → w.cell? ⟨g, so + j, none⟩ = some (.int .u8 (b j))) (hr : ∀ j, 0 ≤ b j ∧ b j ≤ 255) (hb0 : b 0 = 9) (hb1 : b 1 = 4) :
    Calls Tryz.prog 80 #[.slice (some ⟨g, so, none⟩) n cap] w fun e w' => e = .returned (.tuple #[.agg #[.int .u8 4, .int .u8 (b 2), .int .u8 (b 3), .int .u8 (b 4), .int .u8 (b 5), .int .u8 (b 6), .int .u8 (b 7), .int .u8 (b 8), .int .u8 (b 9), .int .u8 0, .int .u64 0, .int .u64 0, .int .u64 0], .int .i64 10, .int .i64 0]) ∧ Below w.heap.size w w' := by
  have hn0 : (0 : Int) < n := by omega
  have hnd : decide ((0 : Int) < n) = true := by simpa using hn0
  have hn2 : decide ((1 : Int) < n) = true := by simp; omega
  have hnI : (1 : Int) < n := by omega
  have hne : ((n : Int) == 0) = false := by simp; omega
  have hlt : decide ((n : Int) < 10) = false := by simp; omega
  have hl : reqLen 4 = 9 := rfl
  have hS := St2.start w g hg #[.int .u8 0, .int .u8 0, .int .u8 0, .int .u8 0, .int .u8 0, .int .u8 0, .int .u8 0, .int .u8 0, .int .u8 0, .int .u8 0, .int .u64 0, .int .u64 0, .int .u64 0]
  have hc0 : w.cell? ⟨g, so, none⟩ = some (.int .u8 9) := (hb 0 (by omega)).trans (by rw [hb0])
  have hc1 : w.cell? ⟨g, so + 1, none⟩ = some (.int .u8 4) := (hb 1 (by omega)).trans (by rw [hb1])
  have hc0' : ∀ o1 o2, ((w.alloc o1).alloc o2).cell? ⟨g, so, none⟩ = some (.int .u8 9) := fun o1 o2 => by rw [World.cell?_alloc_past _ _ _ (by simp; omega), World.cell?_alloc_past _ _ _ hg]; exact hc0
  have hc1' : ∀ o1 o2, ((w.alloc o1).alloc o2).cell? ⟨g, so + 1, none⟩ = some (.int .u8 4) := fun o1 o2 => by rw [World.cell?_alloc_past _ _ _ (by simp; omega), World.cell?_alloc_past _ _ _ hg]; exact hc1
  have HB := hide hb
  have HR := hide hr
  clear hb hr hb0 hb1
  have hn3 : decide ((2 : Int) < n) = true := by simp; omega
  go_enter Tryz.func80, Tryz.ntmps80
  go_wp2_with (go_at_call 78; refine (size_any _ _).mono ?_; rintro e w' ⟨rfl, rfl⟩)
  have HS : St2 w ((w.alloc (.cells #[.int .u8 0, .int .u8 0, .int .u8 0, .int .u8 0, .int .u8 0, .int .u8 0, .int .u8 0, .int .u8 0, .int .u8 0, .int .u8 0, .int .u64 0, .int .u64 0, .int .u64 0] 58)).alloc (.cells #[.int .u8 4, .int .u8 0, .int .u8 0, .int .u8 0, .int .u8 0, .int .u8 0, .int .u8 0, .int .u8 0, .int .u8 0, .int .u8 0, .int .u64 0, .int .u64 0, .int .u64 0] 58)) g (keyArr 4 b 0) := St2.start w g hg _
  clear hS hc0' hc1'
  go_loopw [7] (fun i wr => ∃ j : Nat, j ≤ 8 ∧ i = .int .i64 j ∧ St2 w wr g (keyArr 4 b j)) (fun i _ => 8 - (intOf i).toNat)
  case atStart => exact ⟨0, by omega, rfl, HS⟩
  case round =>
    obtain ⟨j, hj, rfl, S⟩ := hrel
    clear HS
    by_cases hj8 : j < 8
    · have hbj : wr.cell? ⟨g, so + (2 + j), none⟩ = some (.int .u8 (b (2 + j))) := (S.G (so + (2 + j))).trans (HB.out (2 + j) (by omega))
      have hrs : 1 + j < (keyArr 4 b j).size := by show _ < 13; omega
      obtain ⟨u, hu⟩ : ∃ u, wr.cell? ⟨w.heap.size + 1, 1 + j, none⟩ = some u := ⟨_, (S.r (1 + j)).trans (Array.getElem?_eq_getElem hrs)⟩
      have hfu := S.rf (1 + j)
      have hjn : 2 + j < n := by omega
      go_wp2
      go_roundw
      case rel => exact ⟨j + 1, by omega, by go_num, by rw [← keyArr_step 4 b j hj8]; exact S.setr (1 + j) hrs _⟩
      case measure => simp [intOf]; omega
    · obtain rfl : j = 8 := by omega
      have S8 : St2 w wr g #[.int .u8 4, .int .u8 (b 2), .int .u8 (b 3), .int .u8 (b 4), .int .u8 (b 5), .int .u8 (b 6), .int .u8 (b 7), .int .u8 (b 8), .int .u8 (b 9), .int .u8 0, .int .u64 0, .int .u64 0, .int .u64 0] := S
      clear S
      have hr8 := S8.r
      have hrf8 := S8.rf
      have hR8 := S8.R
      have hRf8 := S8.Rf
      have hG0 : wr.cell? ⟨g, so, none⟩ = some (.int .u8 9) := (S8.G so).trans hc0
      go_wp2_with fail
      go_region
      all_goals
        go_wp2
        refine bodyPost_ret (v := .tuple #[.agg #[.int .u8 4, .int .u8 (b 2), .int .u8 (b 3), .int .u8 (b 4), .int .u8 (b 5), .int .u8 (b 6), .int .u8 (b 7), .int .u8 (b 8), .int .u8 (b 9), .int .u8 0, .int .u64 0, .int .u64 0, .int .u64 0], .int .i64 10, .int .i64 0]) (by simp [results, Tryz.results80, go_sem, hR8]) rfl ⟨rfl, ?_⟩
        refine Below.drew ?_
        repeat (refine Below.setCell ?_ (by first | exact Nat.le_refl _ | (show _ ≤ w.heap.size + 1; omega)) _)
        exact S8.B

end Go.Proofs.YtlamgpeiolfffaaGreatDoor
