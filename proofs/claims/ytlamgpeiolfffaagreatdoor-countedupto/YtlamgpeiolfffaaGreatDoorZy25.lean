import Derived.Test.YtlamgpeiolfffaaGreatDoorZy18
set_option linter.unusedSectionVars false
namespace Go.Proofs.YtlamgpeiolfffaaGreatDoor
open Go.RowKit
variable [dK] [iK]

set_option maxRecDepth 100000 in
set_option maxHeartbeats 2000000 in
theorem rreq1 (g so n cap : Nat) (k0 k1 k2 k3 k4 k5 k6 k7 : Int) (w : World) (hn : 27 ≤ n) (hnc : n ≤ cap) (hn1 : n ≤ 1048576) (hg : g < w.heap.size) (c0 : w.cell? ⟨g, so, none⟩ = some (.int .u8 26)) (c1 : w.cell? ⟨g, so + 1, none⟩ = some (.int .u8 1)) (h0 : w.cell? ⟨g, so + 2, none⟩ = some (.int .u8 k0)) (h1 : w.cell? ⟨g, so + 3, none⟩ = some (.int .u8 k1)) (h2 : w.cell? ⟨g, so + 4, none⟩ = some (.int .u8 k2)) (h3 : w.cell? ⟨g, so + 5, none⟩ = some (.int .u8 k3)) (h4 : w.cell? ⟨g, so + 6, none⟩ = some (.int .u8 k4)) (h5 : w.cell? ⟨g, so + 7, none⟩ = some (.int .u8 k5)) (h6 : w.cell? ⟨g, so + 8, none⟩ = some (.int .u8 k6)) (h7 : w.cell? ⟨g, so + 9, none⟩ = some (.int .u8 k7)) (kd : Int) (hkd : w.cell? ⟨g, so + 10, none⟩ = some (.int .u8 kd)) (cx cy : Nat → Int) (hcx : ∀ j, j < 8 → w.cell? ⟨g, so + 11 + j, none⟩ = some (.int .u8 (cx j))) (hcxr : ∀ j, 0 ≤ cx j ∧ cx j ≤ 255) (hcy : ∀ j, j < 8 → w.cell? ⟨g, so + 19 + j, none⟩ = some (.int .u8 (cy j))) (hcyr : ∀ j, 0 ≤ cy j ∧ cy j ≤ 255) :
    Calls Tryz.prog 67 #[.slice (some ⟨g, so, none⟩) n cap] w fun e w' => e = .returned (.tuple #[.agg #[.int .u8 1, .int .u8 k0, .int .u8 k1, .int .u8 k2, .int .u8 k3, .int .u8 k4, .int .u8 k5, .int .u8 k6, .int .u8 k7, .int .u8 kd, .int .u64 (rdTo cx 8), .int .u64 (rdTo cy 8), .int .u64 0], .int .i64 27, .nilIface]) ∧ Below w.heap.size w w' := by
  go_enter Tryz.func67, Tryz.ntmps67
  go_wp2_with fail
  refine (requests_any _).mono ?_
  rintro e w1 ⟨rfl, hb1⟩
  have hB1 : Below w.heap.size w w1 := ((Below.refl _ w).alloc (Nat.le_refl _) _).trans (hb1.mono (by simp))
  have hs1 : w.heap.size < w1.heap.size := by have := hb1.size; simp at this; omega
  go_wp2_with fail
  refine (body_req g so n cap 26 1 w1 (by omega) hnc hn1 (by omega) (by omega) (by decide) (by omega) ((hB1.cell (p := ⟨g, so, none⟩) hg).trans c0) ((hB1.cell (p := ⟨g, so + 1, none⟩) hg).trans c1)).mono ?_
  rintro e w2 ⟨rfl, hb2⟩
  have hB2 : Below w.heap.size w w2 := hB1.trans (hb2.mono (by omega))
  have hs2 : w.heap.size < w2.heap.size := by have := hb2.size; omega
  have hR : ∀ j, w2.cell? ⟨w.heap.size, j, none⟩ = (#[.int .u8 0, .int .u8 0, .int .u8 0, .int .u8 0, .int .u8 0, .int .u8 0, .int .u8 0, .int .u8 0, .int .u8 0, .int .u8 0, .int .u64 0, .int .u64 0, .int .u64 0] : Array Value)[j]? := fun j => (hb2.cell (p := ⟨w.heap.size, j, none⟩) hs1).trans ((hb1.cell (p := ⟨w.heap.size, j, none⟩) (by simp)).trans (cell_box w _ _ j))
  have hRf : ∀ j, w2.frozen? ⟨w.heap.size, j, none⟩ = false := fun j => (hb2.frozen (p := ⟨w.heap.size, j, none⟩) hs1).trans ((hb1.frozen (p := ⟨w.heap.size, j, none⟩) (by simp)).trans (by simp))
  clear hb1 hb2
  go_wp2_with fail
  have hg2 : g < w2.heap.size := by omega
  refine (small_more w2.heap.size g (so + 1) 26 1 _ (by simp) (by simp) (by omega) (by omega) (by rw [World.cell?_alloc_lt _ _ ⟨g, so + 1, none⟩ hg2]; exact (hB2.cell (p := ⟨g, so + 1, none⟩) hg).trans c1)).mono ?_
  rintro e w3 ⟨rfl, rfl⟩
  go_wp2_with fail
  refine (key_more w2.heap.size g (so + 2) 25 k0 k1 k2 k3 k4 k5 k6 k7 _ (by simp; omega) (by simp; omega) (by omega) (by omega) (by simp) (by simp)
    (by rw [cell_two_up _ _ _ hg2]; exact (hB2.cell (p := ⟨g, so + 2, none⟩) hg).trans h0)
    (by rw [cell_two_up _ _ _ hg2]; exact (hB2.cell (p := ⟨g, so + 3, none⟩) hg).trans h1)
    (by rw [cell_two_up _ _ _ hg2]; exact (hB2.cell (p := ⟨g, so + 4, none⟩) hg).trans h2)
    (by rw [cell_two_up _ _ _ hg2]; exact (hB2.cell (p := ⟨g, so + 5, none⟩) hg).trans h3)
    (by rw [cell_two_up _ _ _ hg2]; exact (hB2.cell (p := ⟨g, so + 6, none⟩) hg).trans h4)
    (by rw [cell_two_up _ _ _ hg2]; exact (hB2.cell (p := ⟨g, so + 7, none⟩) hg).trans h5)
    (by rw [cell_two_up _ _ _ hg2]; exact (hB2.cell (p := ⟨g, so + 8, none⟩) hg).trans h6)
    (by rw [cell_two_up _ _ _ hg2]; exact (hB2.cell (p := ⟨g, so + 9, none⟩) hg).trans h7)).mono ?_
  rintro e w5 ⟨rfl, hb5⟩
  have S5 := St.of_key hB2 hg hs2 hR hRf hb5
  clear hb5 hR hRf h0 h1 h2 h3 h4 h5 h6 h7 c0 c1 hB1 hB2
  have HX := hide hcx
  have HXR := hide hcxr
  have HY := hide hcy
  have HYR := hide hcyr
  have HK := hide hkd
  clear hcx hcxr hcy hcyr hkd
  have hrS5 := S5.r
  have hrfS5 := S5.rf
  have hRS5 := S5.R
  have hRfS5 := S5.Rf
  have hne : ¬ w.heap.size = w2.heap.size + 1 := by omega
  have hne' : ¬ w2.heap.size + 1 = w.heap.size := by omega
  go_wp2_with fail
  have S6 := ((((((((S5.setr 1 (by simp) (.int .u8 k0)).setr 2 (by simp) (.int .u8 k1)).setr 3 (by simp) (.int .u8 k2)).setr 4 (by simp) (.int .u8 k3)).setr 5 (by simp) (.int .u8 k4)).setr 6 (by simp) (.int .u8 k5)).setr 7 (by simp) (.int .u8 k6)).setr 8 (by simp) (.int .u8 k7))
  refine (small_more w2.heap.size g (so + 10) 17 kd _ S6.F S6.Ff (by omega) (by omega) ((S6.G (so + 10)).trans HK.out)).mono ?_
  rintro e w7 ⟨rfl, hw7⟩
  have S7 : St w w2 w7 g (.slice (some ⟨g, so + 11, none⟩) 16 16) #[.int .u8 1, .int .u8 k0, .int .u8 k1, .int .u8 k2, .int .u8 k3, .int .u8 k4, .int .u8 k5, .int .u8 k6, .int .u8 k7, .int .u8 0, .int .u64 0, .int .u64 0, .int .u64 0] := by rw [hw7]; exact S6.setF _
  clear hw7 S6 hrS5 hrfS5 hRS5 hRfS5 S5
  have hrS7 := S7.r
  have hrfS7 := S7.rf
  have hRS7 := S7.R
  have hRfS7 := S7.Rf
  go_wp2_with fail
  have S8 := S7.setr 9 (by simp) (.int .u8 kd)
  refine (number_any w2.heap.size g (so + 11) 16 cx _ S8.F S8.Ff (by omega) (by omega) (fun j hj => (S8.G (so + 11 + j)).trans (HX.out j hj)) HXR.out).mono ?_
  rintro e w9 ⟨rfl, ao, hw9, hao⟩
  obtain rfl := hao (by omega)
  have S9 : St w w2 w9 g (.slice (some ⟨g, so + 19, none⟩) 8 8) #[.int .u8 1, .int .u8 k0, .int .u8 k1, .int .u8 k2, .int .u8 k3, .int .u8 k4, .int .u8 k5, .int .u8 k6, .int .u8 k7, .int .u8 kd, .int .u64 0, .int .u64 0, .int .u64 0] := by rw [hw9]; exact S8.setF _
  clear hw9 S8 hrS7 hrfS7 hRS7 hRfS7 S7 hao
  have hrS9 := S9.r
  have hrfS9 := S9.rf
  have hRS9 := S9.R
  have hRfS9 := S9.Rf
  go_wp2_with fail
  have S10 := S9.setr 10 (by simp) (.int .u64 (rdTo cx 8))
  refine (number_any w2.heap.size g (so + 19) 8 cy _ S10.F S10.Ff (by omega) (by omega) (fun j hj => (S10.G (so + 19 + j)).trans (HY.out j hj)) HYR.out).mono ?_
  rintro e w11 ⟨rfl, ao, hw11, -⟩
  have S11 : St w w2 w11 g (.slice ao 0 0) #[.int .u8 1, .int .u8 k0, .int .u8 k1, .int .u8 k2, .int .u8 k3, .int .u8 k4, .int .u8 k5, .int .u8 k6, .int .u8 k7, .int .u8 kd, .int .u64 (rdTo cx 8), .int .u64 0, .int .u64 0] := by rw [hw11]; exact S10.setF _
  clear hw11 S10 hrS9 hrfS9 hRS9 hRfS9 S9
  have hrS11 := S11.r
  have hrfS11 := S11.rf
  have hRS11 := S11.R
  have hRfS11 := S11.Rf
  go_wp2
  refine bodyPost_ret (v := .tuple #[.agg #[.int .u8 1, .int .u8 k0, .int .u8 k1, .int .u8 k2, .int .u8 k3, .int .u8 k4, .int .u8 k5, .int .u8 k6, .int .u8 k7, .int .u8 kd, .int .u64 (rdTo cx 8), .int .u64 (rdTo cy 8), .int .u64 0], .int .i64 27, .nilIface]) (by simp [results, Tryz.results67, go_sem, hRS11]) rfl ⟨rfl, ?_⟩
  repeat (refine Below.setCell ?_ (by first | exact Nat.le_refl _ | (show _ ≤ w2.heap.size + 1; omega) | (show _ ≤ w2.heap.size; omega)) _)
  exact S11.B

end Go.Proofs.YtlamgpeiolfffaaGreatDoor
