import Derived.Test.YtlamgpeiolfffaaGreatDoorZy17
set_option linter.unusedSectionVars false
namespace Go.Proofs.YtlamgpeiolfffaaGreatDoor
open Go.RowKit
variable [dK] [iK]

set_option maxRecDepth 100000 in
set_option maxHeartbeats 2000000 in
theorem rr16_1 (g so n cap : Nat) (b : Nat → Int) (w : World) (hn : 27 ≤ n) (hnc : n ≤ cap) (hn1 : n ≤ 1048576) (hg : g < w.heap.size) (hb : ∀ j, j < n → w.cell? ⟨g, so + j, none⟩ = some (.int .u8 (b j))) (hr : ∀ j, 0 ≤ b j ∧ b j ≤ 255) (hb0 : b 0 = 26) (hb1 : b 1 = 1) :
    Calls Tryz.prog 80 #[.slice (some ⟨g, so, none⟩) n cap] w fun e w' => e = .returned (.tuple #[.agg #[.int .u8 1, .int .u8 (b 2), .int .u8 (b 3), .int .u8 (b 4), .int .u8 (b 5), .int .u8 (b 6), .int .u8 (b 7), .int .u8 (b 8), .int .u8 (b 9), .int .u8 (b 10), .int .u64 (rdTo (fun j => b (11 + j)) 8), .int .u64 (rdTo (fun j => b (19 + j)) 8), .int .u64 0], .int .i64 27, .int .i64 0]) ∧ Below w.heap.size w w' := by
  have hn0 : (0 : Int) < n := by omega
  have hnd : decide ((0 : Int) < n) = true := by simpa using hn0
  have hn2 : decide ((1 : Int) < n) = true := by simp; omega
  have hnI : (1 : Int) < n := by omega
  have hne : ((n : Int) == 0) = false := by simp; omega
  have hlt : decide ((n : Int) < 27) = false := by simp; omega
  have hl : reqLen 1 = 26 := rfl
  have hS := St2.start w g hg #[.int .u8 0, .int .u8 0, .int .u8 0, .int .u8 0, .int .u8 0, .int .u8 0, .int .u8 0, .int .u8 0, .int .u8 0, .int .u8 0, .int .u64 0, .int .u64 0, .int .u64 0]
  have hc0 : w.cell? ⟨g, so, none⟩ = some (.int .u8 26) := (hb 0 (by omega)).trans (by rw [hb0])
  have hc1 : w.cell? ⟨g, so + 1, none⟩ = some (.int .u8 1) := (hb 1 (by omega)).trans (by rw [hb1])
  have hc0' : ∀ o1 o2, ((w.alloc o1).alloc o2).cell? ⟨g, so, none⟩ = some (.int .u8 26) := fun o1 o2 => by rw [World.cell?_alloc_past _ _ _ (by simp; omega), World.cell?_alloc_past _ _ _ hg]; exact hc0
  have hc1' : ∀ o1 o2, ((w.alloc o1).alloc o2).cell? ⟨g, so + 1, none⟩ = some (.int .u8 1) := fun o1 o2 => by rw [World.cell?_alloc_past _ _ _ (by simp; omega), World.cell?_alloc_past _ _ _ hg]; exact hc1
  have HB := hide hb
  have HR := hide hr
  clear hb hr hb0 hb1
  have hn3 : decide ((2 : Int) < n) = true := by simp; omega
  have hcap : ¬ cap = 11 := by omega
  have hcap2 : ¬ cap = 19 := by omega
  have hnI10 : (10 : Int) < n := by omega
  have hnI11 : (11 : Int) ≤ n := by omega
  have hnI19 : (19 : Int) ≤ n := by omega
  have hncI : (n : Int) ≤ cap := by omega
  go_enter Tryz.func80, Tryz.ntmps80
  go_wp2_with (go_at_call 78; refine (size_any _ _).mono ?_; rintro e w' ⟨rfl, rfl⟩)
  have HS : St2 w ((w.alloc (.cells #[.int .u8 0, .int .u8 0, .int .u8 0, .int .u8 0, .int .u8 0, .int .u8 0, .int .u8 0, .int .u8 0, .int .u8 0, .int .u8 0, .int .u64 0, .int .u64 0, .int .u64 0] 58)).alloc (.cells #[.int .u8 1, .int .u8 0, .int .u8 0, .int .u8 0, .int .u8 0, .int .u8 0, .int .u8 0, .int .u8 0, .int .u8 0, .int .u8 0, .int .u64 0, .int .u64 0, .int .u64 0] 58)) g (keyArr 1 b 0) := St2.start w g hg _
  clear hS hc0' hc1'
  go_loopw [7] (fun i wr => ∃ j : Nat, j ≤ 8 ∧ i = .int .i64 j ∧ St2 w wr g (keyArr 1 b j)) (fun i _ => 8 - (intOf i).toNat)
  case atStart => exact ⟨0, by omega, rfl, HS⟩
  case round =>
    obtain ⟨j, hj, rfl, S⟩ := hrel
    clear HS
    by_cases hj8 : j < 8
    · have hbj : wr.cell? ⟨g, so + (2 + j), none⟩ = some (.int .u8 (b (2 + j))) := (S.G (so + (2 + j))).trans (HB.out (2 + j) (by omega))
      have hrs : 1 + j < (keyArr 1 b j).size := by show _ < 13; omega
      obtain ⟨u, hu⟩ : ∃ u, wr.cell? ⟨w.heap.size + 1, 1 + j, none⟩ = some u := ⟨_, (S.r (1 + j)).trans (Array.getElem?_eq_getElem hrs)⟩
      have hfu := S.rf (1 + j)
      have hjn : 2 + j < n := by omega
      go_wp2
      go_roundw
      case rel => exact ⟨j + 1, by omega, by go_num, by rw [← keyArr_step 1 b j hj8]; exact S.setr (1 + j) hrs _⟩
      case measure => simp [intOf]; omega
    · obtain rfl : j = 8 := by omega
      have S8 : St2 w wr g #[.int .u8 1, .int .u8 (b 2), .int .u8 (b 3), .int .u8 (b 4), .int .u8 (b 5), .int .u8 (b 6), .int .u8 (b 7), .int .u8 (b 8), .int .u8 (b 9), .int .u8 0, .int .u64 0, .int .u64 0, .int .u64 0] := S
      clear S
      have hr8 := S8.r
      have hrf8 := S8.rf
      have hR8 := S8.R
      have hRf8 := S8.Rf
      have hG0 : wr.cell? ⟨g, so, none⟩ = some (.int .u8 26) := (S8.G so).trans hc0
      have hG10 : wr.cell? ⟨g, so + 10, none⟩ = some (.int .u8 (b 10)) := (S8.G (so + 10)).trans (HB.out 10 (by omega))
      go_wp2_with fail
      have T9 := S8.setr 9 (by simp) (.int .u8 (b 10))
      refine (refread g (so + 11) (n - 11) (cap - 11) (fun j => b (11 + j)) _ (by omega) (by omega) (fun j hj => by rw [Nat.add_assoc]; exact (T9.G (so + (11 + j))).trans (HB.out (11 + j) (by omega))) (fun j => HR.out (11 + j))).mono ?_
      rintro e w5 ⟨rfl, hw5⟩
      have S9 : St2 w w5 g #[.int .u8 1, .int .u8 (b 2), .int .u8 (b 3), .int .u8 (b 4), .int .u8 (b 5), .int .u8 (b 6), .int .u8 (b 7), .int .u8 (b 8), .int .u8 (b 9), .int .u8 (b 10), .int .u64 0, .int .u64 0, .int .u64 0] := by rw [hw5]; exact T9
      clear hw5 T9 hG0 hG10 hr8 hrf8 hR8 hRf8 S8
      have hrS9 := S9.r
      have hrfS9 := S9.rf
      have hRS9 := S9.R
      have hRfS9 := S9.Rf
      go_wp2_with fail
      have T10 := S9.setr 10 (by simp) (.int .u64 (rdTo (fun j => b (11 + j)) 8))
      refine (refread g (so + 19) (n - 19) (cap - 19) (fun j => b (19 + j)) _ (by omega) (by omega) (fun j hj => by rw [Nat.add_assoc]; exact (T10.G (so + (19 + j))).trans (HB.out (19 + j) (by omega))) (fun j => HR.out (19 + j))).mono ?_
      rintro e w6 ⟨rfl, hw6⟩
      have S10 : St2 w w6 g #[.int .u8 1, .int .u8 (b 2), .int .u8 (b 3), .int .u8 (b 4), .int .u8 (b 5), .int .u8 (b 6), .int .u8 (b 7), .int .u8 (b 8), .int .u8 (b 9), .int .u8 (b 10), .int .u64 (rdTo (fun j => b (11 + j)) 8), .int .u64 0, .int .u64 0] := by rw [hw6]; exact T10
      clear hw6 T10 hrS9 hrfS9 hRS9 hRfS9 S9
      have hrS10 := S10.r
      have hrfS10 := S10.rf
      have hRS10 := S10.R
      have hRfS10 := S10.Rf
      go_wp2_with fail
      have hGS100 := (S10.G so).trans hc0
      go_region
      all_goals
        go_wp2
        refine bodyPost_ret (v := .tuple #[.agg #[.int .u8 1, .int .u8 (b 2), .int .u8 (b 3), .int .u8 (b 4), .int .u8 (b 5), .int .u8 (b 6), .int .u8 (b 7), .int .u8 (b 8), .int .u8 (b 9), .int .u8 (b 10), .int .u64 (rdTo (fun j => b (11 + j)) 8), .int .u64 (rdTo (fun j => b (19 + j)) 8), .int .u64 0], .int .i64 27, .int .i64 0]) (by simp [results, Tryz.results80, go_sem, hRS10]) rfl ⟨rfl, ?_⟩
        refine Below.drew ?_
        repeat (refine Below.setCell ?_ (by first | exact Nat.le_refl _ | (show _ ≤ w.heap.size + 1; omega)) _)
        exact S10.B
end Go.Proofs.YtlamgpeiolfffaaGreatDoor
