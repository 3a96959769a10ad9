import Derived.Test.YtjkepphpahfdgaaDoorRefr
namespace Go.Proofs.YtjkepphpahfdgaaDoor
open Go.RowKit

/-- The bytes of a reply, by the document (P3). -/
def encRep (c a b : Int) : List Int := [17, c] ++ be8 a ++ be8 b

set_option maxRecDepth 100000 in
set_option maxHeartbeats 1000000 in
theorem wrep (c a b : Int) (w : World) (ha0 : 0 ≤ a) (ha1 : a ≤ 18446744073709551615) (hb0 : 0 ≤ b) (hb1 : b ≤ 18446744073709551615) :
    Calls Tryd.prog 15 #[.agg #[.int .u8 c, .int .u64 a, .int .u64 b]] w
      fun e w' => e = .returned (.slice (some ⟨w.heap.size + 1, 0, none⟩) 18 18) ∧ w'.ownsRow w.heap.size 5 1 (.slice (some ⟨w.heap.size + 1, 0, none⟩) 18 18) 18 ((encRep c a b).map (Value.int .u8)) ∧ Below w.heap.size w w' := by
  go_enter Tryd.func15, Tryd.ntmps15
  go_wp2_with fail
  refine (start_at 17 _ _ (w.heap.size + 1) (by simp) (by omega) (by omega)).mono ?_
  rintro e w1 ⟨rfl, hown1, hb1'⟩
  have hs1 : w.heap.size + 1 < w1.heap.size := (hown1.lt (w.heap.size + 1) rfl).2
  have hc1 : ∀ j, w1.cell? ⟨w.heap.size, j, none⟩ = (#[.int .u8 c, .int .u64 a, .int .u64 b] : Array Value)[j]? := fun j => (hb1'.cell (p := ⟨w.heap.size, j, none⟩) (by simp)).trans (cell_box w _ _ j)
  have hB1 : Below w.heap.size w w1 := ((Below.refl _ w).alloc (Nat.le_refl _) _).trans (hb1'.mono (by omega))
  clear hb1'
  go_wp2_with fail
  refine (num_any (w.heap.size + 1) 2 18 (w.heap.size + 1) _ _ _ hown1 (by omega) ha0 ha1).mono ?_
  rintro e w2 ⟨rfl, hown2, hgrow2⟩
  have hs2 := hgrow2.size
  have hc2 := fun j => (cell_grown hgrow2 (b := w.heap.size) (by omega) (by omega) j).trans (hc1 j)
  go_wp2_with fail
  refine (num_any (w.heap.size + 1) 10 18 (w.heap.size + 1) _ _ _ hown2 (by omega) hb0 hb1).mono ?_
  rintro e w3 ⟨rfl, hown3, hgrow3⟩
  go_wp2
  go_ret
  refine ⟨rfl, own_down (b := w.heap.size + 1) (by omega) hown3, ?_⟩
  exact (hB1.grown hgrow2 (by omega) (by simp)).grown hgrow3 (by omega) (by simp)

set_option maxRecDepth 100000 in
set_option maxHeartbeats 1000000 in
theorem reply_any (c a b : Int) (w : World) (ha0 : 0 ≤ a) (ha1 : a ≤ 18446744073709551615) (hb0 : 0 ≤ b) (hb1 : b ≤ 18446744073709551615) :
    Calls Tryd.prog 7 #[.agg #[.int .u8 c, .int .u64 a, .int .u64 b]] w
      fun e w' => ∃ g, e = .returned (.slice (some ⟨g, 0, none⟩) 18 18) ∧ w'.ownsRow w.heap.size 5 1 (.slice (some ⟨g, 0, none⟩) 18 18) 18 ((encRep c a b).map (Value.int .u8)) ∧ Below w.heap.size w w' := by
  go_enter Tryd.func7, Tryd.ntmps7
  go_wp2_with fail
  refine (wrep c a b _ ha0 ha1 hb0 hb1).mono ?_
  rintro e w1 ⟨rfl, ho, hb⟩
  go_wp2
  go_ret
  exact ⟨_, rfl, own_down (b := w.heap.size + 1) (by omega) (by simpa using ho), ((Below.refl _ w).alloc (Nat.le_refl _) _).trans (hb.mono (by simp))⟩

set_option maxRecDepth 100000 in
set_option maxHeartbeats 1000000 in
theorem refrep (c a b : Int) (w : World) (ha0 : 0 ≤ a) (ha1 : a ≤ 18446744073709551615) (hb0 : 0 ≤ b) (hb1 : b ≤ 18446744073709551615) :
    Calls Tryd.prog 8 #[.agg #[.int .u8 c, .int .u64 a, .int .u64 b]] w
      fun e w' => ∃ v', e = .returned v' ∧ w'.ownsRow w.heap.size 5 1 v' 18 ((encRep c a b).map (Value.int .u8)) ∧ Below w.heap.size w w' := by
  have hown1 : ((w.alloc (.cells #[.int .u8 c, .int .u64 a, .int .u64 b] 30)).alloc (.cells #[.int .u8 17, .int .u8 c] 5)).ownsRow (w.heap.size + 1) 5 1 (.slice (some ⟨w.heap.size + 1, 0, none⟩) 2 2) 2 [.int .u8 17, .int .u8 c] := by
    have h := World.ownsRow_lit (base := w.heap.size + 1) (e := 5) (size := 1) (w.alloc (.cells #[.int .u8 c, .int .u64 a, .int .u64 b] 30)) #[.int .u8 17, .int .u8 c] 2 (by simp) (by unfold maxLen; omega) rfl
    simpa using h
  have hc1 : ∀ j, ((w.alloc (.cells #[.int .u8 c, .int .u64 a, .int .u64 b] 30)).alloc (.cells #[.int .u8 17, .int .u8 c] 5)).cell? ⟨w.heap.size, j, none⟩ = (#[.int .u8 c, .int .u64 a, .int .u64 b] : Array Value)[j]? := fun j => (World.cell?_alloc_past _ _ _ (by simp)).trans (cell_box w _ _ j)
  have hB1 : Below w.heap.size w ((w.alloc (.cells #[.int .u8 c, .int .u64 a, .int .u64 b] 30)).alloc (.cells #[.int .u8 17, .int .u8 c] 5)) := ((Below.refl _ w).alloc (Nat.le_refl _) _).alloc (by simp) _
  go_enter Tryd.func8, Tryd.ntmps8
  go_wp2_with fail
  refine (refnum_any _ 2 (w.heap.size + 1) _ _ _ hown1 (by simp) (by omega) ha0 ha1).mono ?_
  rintro e w2 ⟨v2, rfl, hown2, hb2⟩
  have hs2 : w.heap.size + 1 < w2.heap.size := by have := hb2.size; simp at this; omega
  have hc2 := fun j => (hb2.cell (p := ⟨w.heap.size, j, none⟩) (Nat.lt_succ_self _)).trans (hc1 j)
  go_wp2_with fail
  refine (refnum_any v2 10 (w.heap.size + 1) _ _ _ hown2 (by omega) (by omega) hb0 hb1).mono ?_
  rintro e w3 ⟨v3, rfl, hown3, hb3⟩
  go_wp2
  go_ret
  exact ⟨_, rfl, own_down (b := w.heap.size + 1) (by omega) hown3, hB1.trans ((hb2.trans hb3).mono (by omega))⟩
end Go.Proofs.YtjkepphpahfdgaaDoor
