import Derived.Test.YtlamgpeiolfffaaGreatDoorZz06
import Derived.Test.YtlamgpeiolfffaaGreatDoorZz02
import Derived.Test.YtlamgpeiolfffaaGreatDoorZz07
set_option linter.unusedSectionVars false
namespace Go.Proofs.YtlamgpeiolfffaaGreatDoor
open Go.RowKit
variable [dK] [iK]

set_option maxRecDepth 100000 in
set_option maxHeartbeats 2000000 in
theorem rreq1 (g so n cap : Nat) (k0 k1 k2 k3 k4 k5 k6 k7 : Int) (w : World) (hn : 27 ≤ n) (hnc : n ≤ cap) (hn1 : n ≤ 1048576) (hg : g < w.heap.size) (c0 : w.cell? ⟨g, so, none⟩ = some (.int .u8 26)) (c1 : w.cell? ⟨g, so + 1, none⟩ = some (.int .u8 1)) (h0 : w.cell? ⟨g, so + 2, none⟩ = some (.int .u8 k0)) (h1 : w.cell? ⟨g, so + 3, none⟩ = some (.int .u8 k1)) (h2 : w.cell? ⟨g, so + 4, none⟩ = some (.int .u8 k2)) (h3 : w.cell? ⟨g, so + 5, none⟩ = some (.int .u8 k3)) (h4 : w.cell? ⟨g, so + 6, none⟩ = some (.int .u8 k4)) (h5 : w.cell? ⟨g, so + 7, none⟩ = some (.int .u8 k5)) (h6 : w.cell? ⟨g, so + 8, none⟩ = some (.int .u8 k6)) (h7 : w.cell? ⟨g, so + 9, none⟩ = some (.int .u8 k7)) (kd : Int) (hkd : w.cell? ⟨g, so + 10, none⟩ = some (.int .u8 kd)) (cx cy : Nat → Int) (hcx : ∀ j, j < 8 → w.cell? ⟨g, so + 11 + j, none⟩ = some (.int .u8 (cx j))) (hcxr : ∀ j, 0 ≤ cx j ∧ cx j ≤ 255) (hcy : ∀ j, j < 8 → w.cell? ⟨g, so + 19 + j, none⟩ = some (.int .u8 (cy j))) (hcyr : ∀ j, 0 ≤ cy j ∧ cy j ≤ 255) :
    Calls Tryz.prog 67 #[.slice (some ⟨g, so, none⟩) n cap] w fun e w' => e = .returned (.tuple #[.agg #[.int .u8 1, .int .u8 k0, .int .u8 k1, .int .u8 k2, .int .u8 k3, .int .u8 k4, .int .u8 k5, .int .u8 k6, .int .u8 k7, .int .u8 kd, .int .u64 (rdTo cx 8), .int .u64 (rdTo cy 8), .int .u64 0], .int .i64 27, .nilIface]) ∧ Below w.heap.size w w' := by
  go_enter Tryz.func67, Tryz.ntmps67
  go_wp2_with fail
  refine (requests_any _).mono ?_
  rintro e w1 ⟨rfl, hb1⟩
  have hB1 : Below w.heap.size w w1 := ((Below.refl _ w).alloc (Nat.le_refl _) _).trans (hb1.mono (by simp))
  have hs1 : w.heap.size < w1.heap.size := by have := hb1.size; simp at this; omega
  go_wp2_with fail
  refine (body_req g so n cap 26 1 w1 (by omega) hnc hn1 (by omega) (by omega) (by decide) (by omega) ((hB1.cell (p := ⟨g, so, none⟩) hg).trans c0) ((hB1.cell (p := ⟨g, so + 1, none⟩) hg).trans c1)).mono ?_
  rintro e w2 ⟨rfl, hb2⟩
  have hB2 : Below w.heap.size w w2 := hB1.trans (hb2.mono (by omega))
  have hs2 : w.heap.size < w2.heap.size := by have := hb2.size; omega
  have hR : ∀ j, w2.cell? ⟨w.heap.size, j, none⟩ = (#[.int .u8 0, .int .u8 0, .int .u8 0, .int .u8 0, .int .u8 0, .int .u8 0, .int .u8 0, .int .u8 0, .int .u8 0, .int .u8 0, .int .u64 0, .int .u64 0, .int .u64 0] : Array Value)[j]? := fun j => (hb2.cell (p := ⟨w.heap.size, j, none⟩) hs1).trans ((hb1.cell (p := ⟨w.heap.size, j, none⟩) (by simp)).trans (cell_box w _ _ j))
  have hRf : ∀ j, w2.frozen? ⟨w.heap.size, j, none⟩ = false := fun j => (hb2.frozen (p := ⟨w.heap.size, j, none⟩) hs1).trans ((hb1.frozen (p := ⟨w.heap.size, j, none⟩) (by simp)).trans (by simp))
  clear hb1 hb2
  go_wp2_with fail
  have hg2 : g < w2.heap.size := by omega
  refine (small_more w2.heap.size g (so + 1) 26 1 _ (by simp) (by simp) (by omega) (by omega) (by rw [World.cell?_alloc_lt _ _ ⟨g, so + 1, none⟩ hg2]; exact (hB2.cell (p := ⟨g, so + 1, none⟩) hg).trans c1)).mono ?_
  rintro e w3 ⟨rfl, rfl⟩
  go_wp2_with fail
  refine (key_more w2.heap.size g (so + 2) 25 k0 k1 k2 k3 k4 k5 k6 k7 _ (by simp; omega) (by simp; omega) (by omega) (by omega) (by simp) (by simp)
    (by rw [cell_two_up _ _ _ hg2]; exact (hB2.cell (p := ⟨g, so + 2, none⟩) hg).trans h0)
    (by rw [cell_two_up _ _ _ hg2]; exact (hB2.cell (p := ⟨g, so + 3, none⟩) hg).trans h1)
    (by rw [cell_two_up _ _ _ hg2]; exact (hB2.cell (p := ⟨g, so + 4, none⟩) hg).trans h2)
    (by rw [cell_two_up _ _ _ hg2]; exact (hB2.cell (p := ⟨g, so + 5, none⟩) hg).trans h3)
    (by rw [cell_two_up _ _ _ hg2]; exact (hB2.cell (p := ⟨g, so + 6, none⟩) hg).trans h4)
    (by rw [cell_two_up _ _ _ hg2]; exact (hB2.cell (p := ⟨g, so + 7, none⟩) hg).trans h5)
    (by rw [cell_two_up _ _ _ hg2]; exact (hB2.cell (p := ⟨g, so + 8, none⟩) hg).trans h6)
    (by rw [cell_two_up _ _ _ hg2]; exact (hB2.cell (p := ⟨g, so + 9, none⟩) hg).trans h7)).mono ?_
  rintro e w5 ⟨rfl, hb5⟩
  have S5 := St.of_key hB2 hg hs2 hR hRf hb5
  clear hb5 hR hRf h0 h1 h2 h3 h4 h5 h6 h7 c0 c1 hB1 hB2
  have HX := hide hcx
  have HXR := hide hcxr
  have HY := hide hcy
  have HYR := hide hcyr
  have HK := hide hkd
  clear hcx hcxr hcy hcyr hkd
  have hrS5 := S5.r
  have hrfS5 := S5.rf
  have hRS5 := S5.R
  have hRfS5 := S5.Rf
  have hne : ¬ w.heap.size = w2.heap.size + 1 := by omega
  have hne' : ¬ w2.heap.size + 1 = w.heap.size := by omega
  go_wp2_with fail
  have S6 := ((((((((S5.setr 1 (by simp) (.int .u8 k0)).setr 2 (by simp) (.int .u8 k1)).setr 3 (by simp) (.int .u8 k2)).setr 4 (by simp) (.int .u8 k3)).setr 5 (by simp) (.int .u8 k4)).setr 6 (by simp) (.int .u8 k5)).setr 7 (by simp) (.int .u8 k6)).setr 8 (by simp) (.int .u8 k7))
  refine (small_more w2.heap.size g (so + 10) 17 kd _ S6.F S6.Ff (by omega) (by omega) ((S6.G (so + 10)).trans HK.out)).mono ?_
  rintro e w7 ⟨rfl, hw7⟩
  have S7 : St w w2 w7 g (.slice (some ⟨g, so + 11, none⟩) 16 16) #[.int .u8 1, .int .u8 k0, .int .u8 k1, .int .u8 k2, .int .u8 k3, .int .u8 k4, .int .u8 k5, .int .u8 k6, .int .u8 k7, .int .u8 0, .int .u64 0, .int .u64 0, .int .u64 0] := by rw [hw7]; exact S6.setF _
  clear hw7 S6 hrS5 hrfS5 hRS5 hRfS5 S5
  have hrS7 := S7.r
  have hrfS7 := S7.rf
  have hRS7 := S7.R
  have hRfS7 := S7.Rf
  go_wp2_with fail
  have S8 := S7.setr 9 (by simp) (.int .u8 kd)
  refine (number_any w2.heap.size g (so + 11) 16 cx _ S8.F S8.Ff (by omega) (by omega) (fun j hj => (S8.G (so + 11 + j)).trans (HX.out j hj)) HXR.out).mono ?_
  rintro e w9 ⟨rfl, ao, hw9, hao⟩
  obtain rfl := hao (by omega)
  have S9 : St w w2 w9 g (.slice (some ⟨g, so + 19, none⟩) 8 8) #[.int .u8 1, .int .u8 k0, .int .u8 k1, .int .u8 k2, .int .u8 k3, .int .u8 k4, .int .u8 k5, .int .u8 k6, .int .u8 k7, .int .u8 kd, .int .u64 0, .int .u64 0, .int .u64 0] := by rw [hw9]; exact S8.setF _
  clear hw9 S8 hrS7 hrfS7 hRS7 hRfS7 S7 hao
  have hrS9 := S9.r
  have hrfS9 := S9.rf
  have hRS9 := S9.R
  have hRfS9 := S9.Rf
  go_wp2_with fail
  have S10 := S9.setr 10 (by simp) (.int .u64 (rdTo cx 8))
  refine (number_any w2.heap.size g (so + 19) 8 cy _ S10.F S10.Ff (by omega) (by omega) (fun j hj => (S10.G (so + 19 + j)).trans (HY.out j hj)) HYR.out).mono ?_
  rintro e w11 ⟨rfl, ao, hw11, -⟩
  have S11 : St w w2 w11 g (.slice ao 0 0) #[.int .u8 1, .int .u8 k0, .int .u8 k1, .int .u8 k2, .int .u8 k3, .int .u8 k4, .int .u8 k5, .int .u8 k6, .int .u8 k7, .int .u8 kd, .int .u64 (rdTo cx 8), .int .u64 0, .int .u64 0] := by rw [hw11]; exact S10.setF _
  clear hw11 S10 hrS9 hrfS9 hRS9 hRfS9 S9
  have hrS11 := S11.r
  have hrfS11 := S11.rf
  have hRS11 := S11.R
  have hRfS11 := S11.Rf
  go_wp2
  refine bodyPost_ret (v := .tuple #[.agg #[.int .u8 1, .int .u8 k0, .int .u8 k1, .int .u8 k2, .int .u8 k3, .int .u8 k4, .int .u8 k5, .int .u8 k6, .int .u8 k7, .int .u8 kd, .int .u64 (rdTo cx 8), .int .u64 (rdTo cy 8), .int .u64 0], .int .i64 27, .nilIface]) (by simp [results, Tryz.results67, go_sem, hRS11]) rfl ⟨rfl, ?_⟩
  repeat (refine Below.setCell ?_ (by first | exact Nat.le_refl _ | (show _ ≤ w2.heap.size + 1; omega) | (show _ ≤ w2.heap.size; omega)) _)
  exact S11.B

end Go.Proofs.YtlamgpeiolfffaaGreatDoor

namespace Go.Proofs.YtlamgpeiolfffaaGreatDoor
open Go.RowKit
variable [dK] [iK]

theorem rdQ_1 (bs : List Int) (h0 : rdErr bs = 0) (h1 : bs.getD 1 0 = 1) : rdQ bs = ⟨1, bs.getD 2 0, bs.getD 3 0, bs.getD 4 0, bs.getD 5 0, bs.getD 6 0, bs.getD 7 0, bs.getD 8 0, bs.getD 9 0, bs.getD 10 0, num8 bs 11, num8 bs 19, 0⟩ := by
  unfold rdQ; rw [if_pos h0, if_pos h1]
theorem rdQ_2 (bs : List Int) (h0 : rdErr bs = 0) (h1 : bs.getD 1 0 = 2) : rdQ bs = ⟨2, bs.getD 2 0, bs.getD 3 0, bs.getD 4 0, bs.getD 5 0, bs.getD 6 0, bs.getD 7 0, bs.getD 8 0, bs.getD 9 0, 0, 0, 0, num8 bs 10⟩ := by
  unfold rdQ; rw [if_pos h0, if_neg (by omega), if_pos h1]
theorem rdQ_3 (bs : List Int) (h0 : rdErr bs = 0) (h1 : bs.getD 1 0 = 3 ∨ bs.getD 1 0 = 4) : rdQ bs = ⟨bs.getD 1 0, bs.getD 2 0, bs.getD 3 0, bs.getD 4 0, bs.getD 5 0, bs.getD 6 0, bs.getD 7 0, bs.getD 8 0, bs.getD 9 0, 0, 0, 0, 0⟩ := by
  unfold rdQ; rw [if_pos h0, if_neg (by omega), if_neg (by omega), if_pos h1]
theorem rdQ_5 (bs : List Int) (h0 : rdErr bs = 0) (h1 : bs.getD 1 0 = 5 ∨ bs.getD 1 0 = 6) : rdQ bs = ⟨bs.getD 1 0, 0, 0, 0, 0, 0, 0, 0, 0, 0, 0, 0, 0⟩ := by
  unfold rdQ; rw [if_pos h0, if_neg (by omega), if_neg (by omega), if_neg (by omega)]
def errV (k : Int) : Value := if k = 0 then .nilIface else .iface 46 (.int .i64 k)

set_option maxRecDepth 100000 in
set_option maxHeartbeats 1000000 in
theorem read26_err (v : Value) (k : Int) (w : World)
    (hbody : Hid (∀ w1, Below w.heap.size w w1 → Calls Tryz.prog 98 #[.agg #[.int .u8 1, .int .u8 26, .func (.func 62) #[] #[]], v] w1 fun e w' => e = .returned (.tuple #[.slice none 0 0, .iface 46 (.int .i64 k)]) ∧ Below w1.heap.size w1 w')) :
    Calls Tryz.prog 67 #[v] w fun e w' => e = .returned (.tuple #[.agg #[.int .u8 0, .int .u8 0, .int .u8 0, .int .u8 0, .int .u8 0, .int .u8 0, .int .u8 0, .int .u8 0, .int .u8 0, .int .u8 0, .int .u64 0, .int .u64 0, .int .u64 0], .int .i64 0, .iface 46 (.int .i64 k)]) ∧ Below w.heap.size w w' := by
  go_enter Tryz.func67, Tryz.ntmps67
  go_wp2_with fail
  refine (requests_any _).mono ?_
  rintro e w1 ⟨rfl, hb1⟩
  have hB1 : Below w.heap.size w w1 := ((Below.refl _ w).alloc (Nat.le_refl _) _).trans (hb1.mono (by simp))
  have hs1 : w.heap.size < w1.heap.size := by have := hb1.size; simp at this; omega
  go_wp2_with fail
  refine (hbody.out w1 hB1).mono ?_
  rintro e w2 ⟨rfl, hb2⟩
  have hB2 : Below w.heap.size w w2 := hB1.trans (hb2.mono (by omega))
  have hR : ∀ j, w2.cell? ⟨w.heap.size, j, none⟩ = (#[.int .u8 0, .int .u8 0, .int .u8 0, .int .u8 0, .int .u8 0, .int .u8 0, .int .u8 0, .int .u8 0, .int .u8 0, .int .u8 0, .int .u64 0, .int .u64 0, .int .u64 0] : Array Value)[j]? := fun j => (hb2.cell (p := ⟨w.heap.size, j, none⟩) hs1).trans ((hb1.cell (p := ⟨w.heap.size, j, none⟩) (by simp)).trans (cell_box w _ _ j))
  have hRf : ∀ j, w2.frozen? ⟨w.heap.size, j, none⟩ = false := fun j => (hb2.frozen (p := ⟨w.heap.size, j, none⟩) hs1).trans ((hb1.frozen (p := ⟨w.heap.size, j, none⟩) (by simp)).trans (by simp))
  clear hb1 hb2
  go_wp2
  refine bodyPost_ret (v := .tuple #[.agg #[.int .u8 0, .int .u8 0, .int .u8 0, .int .u8 0, .int .u8 0, .int .u8 0, .int .u8 0, .int .u8 0, .int .u8 0, .int .u8 0, .int .u64 0, .int .u64 0, .int .u64 0], .int .i64 0, .iface 46 (.int .i64 k)]) (by simp [results, Tryz.results67, go_sem, hR]) rfl ⟨rfl, ?_⟩
  repeat (refine Below.setCell ?_ (by first | exact Nat.le_refl _ | (show _ ≤ w2.heap.size; omega)) _)
  exact hB2

theorem read26_nil (ao : Option Addr) (cap : Nat) (w : World) :
    Calls Tryz.prog 67 #[.slice ao 0 cap] w fun e w' => e = .returned (.tuple #[.agg #[.int .u8 0, .int .u8 0, .int .u8 0, .int .u8 0, .int .u8 0, .int .u8 0, .int .u8 0, .int .u8 0, .int .u8 0, .int .u8 0, .int .u64 0, .int .u64 0, .int .u64 0], .int .i64 0, .iface 46 (.int .i64 1)]) ∧ Below w.heap.size w w' := by
  refine read26_err _ 1 w ?_
  intro w1 _
  refine body_short 1 26 62 _ w1 ?_
  intro w2 _
  exact begin0 ao cap w2

/-- frame.ReadRequest, over bytes that are not none. -/
theorem read26_cons (g so cap : Nat) (b0 : Int) (t : List Int) (w : World) (hcap : (b0 :: t).length ≤ cap) (hlen : (b0 :: t).length ≤ 1048576) (hg : g < w.heap.size)
    (hc : ∀ j, j < (b0 :: t).length → w.cell? ⟨g, so + j, none⟩ = some (.int .u8 ((b0 :: t).getD j 0))) (hr : ∀ j, 0 ≤ (b0 :: t).getD j 0 ∧ (b0 :: t).getD j 0 ≤ 255) (q : Rq) (hq : q = rdQ (b0 :: t)) :
    Calls Tryz.prog 67 #[.slice (some ⟨g, so, none⟩) (b0 :: t).length cap] w fun e w' => e = .returned (.tuple #[.agg #[.int .u8 q.op, .int .u8 q.k0, .int .u8 q.k1, .int .u8 q.k2, .int .u8 q.k3, .int .u8 q.k4, .int .u8 q.k5, .int .u8 q.k6, .int .u8 q.k7, .int .u8 q.kd, .int .u64 q.x, .int .u64 q.y, .int .u64 q.n], .int .i64 (rdN (b0 :: t)), errV (rdErr (b0 :: t))]) ∧ Below w.heap.size w w' := by
  have c0 : w.cell? ⟨g, so, none⟩ = some (.int .u8 b0) := hc 0 (by simp)
  have r0 : 0 ≤ b0 ∧ b0 ≤ 255 := hr 0
  by_cases hlo : b0 < 1
  · have e1 : rdErr (b0 :: t) = 2 := by simp [rdErr, hlo]
    have e2 : rdQ (b0 :: t) = Rq.zero := by simp [rdQ, e1]
    have e3 : rdN (b0 :: t) = 0 := by simp [rdN, e1]
    subst hq
    rw [e1, e2, e3]
    refine read26_err _ 2 w ?_
    intro w1 hB
    refine body_frame 1 26 62 _ w1 ?_
    intro w2 hB2
    have hB3 := hB.trans (hB2.mono hB.size)
    exact begin1 g so _ cap b0 w2 (by simp) (Nat.lt_of_lt_of_le hg hB3.size) ((hB3.cell (p := ⟨g, so, none⟩) hg).trans c0) hlo
  by_cases hhi : 26 < b0
  · have e1 : rdErr (b0 :: t) = 2 := by simp [rdErr, hhi]
    have e2 : rdQ (b0 :: t) = Rq.zero := by simp [rdQ, e1]
    have e3 : rdN (b0 :: t) = 0 := by simp [rdN, e1]
    subst hq
    rw [e1, e2, e3]
    refine read26_err _ 2 w ?_
    intro w1 hB
    refine body_frame 1 26 62 _ w1 ?_
    intro w2 hB2
    have hB3 := hB.trans (hB2.mono hB.size)
    exact begin2 g so _ cap b0 w2 (by simp) (Nat.lt_of_lt_of_le hg hB3.size) ((hB3.cell (p := ⟨g, so, none⟩) hg).trans c0) hlo hhi
  have hor : ¬ (b0 < 1 ∨ 26 < b0) := by omega
  cases t with
  | nil =>
    have e1 : rdErr [b0] = 1 := by simp [rdErr, hor]
    have e2 : rdQ [b0] = Rq.zero := by simp [rdQ, e1]
    have e3 : rdN [b0] = 0 := by simp [rdN, e1]
    subst hq
    rw [e1, e2, e3]
    refine read26_err _ 1 w ?_
    intro w1 hB
    refine body_short 1 26 62 _ w1 ?_
    intro w2 hB2
    have hB3 := hB.trans (hB2.mono hB.size)
    exact begin3 g so _ cap b0 w2 (by simp) (Nat.lt_of_lt_of_le hg hB3.size) ((hB3.cell (p := ⟨g, so, none⟩) hg).trans c0) hlo hhi (by simp)
  | cons b1 t =>
    have c1 : w.cell? ⟨g, so + 1, none⟩ = some (.int .u8 b1) := hc 1 (by simp)
    by_cases heq : b0 = reqLen b1
    · by_cases hle : (((b0 :: b1 :: t).length : Nat) : Int) ≤ b0
      · have e1 : rdErr (b0 :: b1 :: t) = 1 := by simp only [rdErr]; rw [if_neg hor, if_pos heq, if_pos hle]
        have e2 : rdQ (b0 :: b1 :: t) = Rq.zero := by simp [rdQ, e1]
        have e3 : rdN (b0 :: b1 :: t) = 0 := by simp [rdN, e1]
        subst hq
        rw [e1, e2, e3]
        refine read26_err _ 1 w ?_
        intro w1 hB
        refine body_short2 1 26 62 g so _ cap b0 w1 (by simp) r0.1 r0.2 (Nat.lt_of_lt_of_le hg hB.size) ((hB.cell (p := ⟨g, so, none⟩) hg).trans c0) hle ?_
        intro w2 hB2
        have hB3 := hB.trans (hB2.mono hB.size)
        refine (begin4 g so _ cap b0 b1 w2 (by simp) (Nat.lt_of_lt_of_le hg hB3.size) ((hB3.cell (p := ⟨g, so, none⟩) hg).trans c0) ((hB3.cell (p := ⟨g, so + 1, none⟩) hg).trans c1) hlo hhi).mono ?_
        rintro e w3 ⟨rfl, hb⟩
        exact ⟨by rw [if_pos heq], hb⟩
      · have e1 : rdErr (b0 :: b1 :: t) = 0 := by simp only [rdErr]; rw [if_neg hor, if_pos heq, if_neg hle]
        have e3 : rdN (b0 :: b1 :: t) = b0 + 1 := by simp [rdN, e1]
        have eV : errV 0 = .nilIface := rfl
        rw [e1, e3, eV]
        have hcj : ∀ j, j ≤ b0.toNat → w.cell? ⟨g, so + j, none⟩ = some (.int .u8 ((b0 :: b1 :: t).getD j 0)) := fun j hj => hc j (by omega)
        by_cases h1 : b1 = 1
        · subst h1
          obtain rfl : b0 = 26 := heq
          have e2 : q = _ := hq.trans (rdQ_1 _ e1 rfl)
          subst e2
          exact rreq1 g so _ cap _ _ _ _ _ _ _ _ w (by omega) hcap hlen hg c0 c1 (hcj 2 (by decide)) (hcj 3 (by decide)) (hcj 4 (by decide)) (hcj 5 (by decide)) (hcj 6 (by decide)) (hcj 7 (by decide)) (hcj 8 (by decide)) (hcj 9 (by decide)) _ (hcj 10 (by decide)) _ _ (fun j hj => by rw [Nat.add_assoc]; exact hcj (11 + j) (by show _ ≤ 26; omega)) (fun j => hr (11 + j)) (fun j hj => by rw [Nat.add_assoc]; exact hcj (19 + j) (by show _ ≤ 26; omega)) (fun j => hr (19 + j))
        by_cases h2 : b1 = 2
        · subst h2
          obtain rfl : b0 = 17 := heq
          have e2 : q = _ := hq.trans (rdQ_2 _ e1 rfl)
          subst e2
          exact rreq2 g so _ cap _ _ _ _ _ _ _ _ w (by omega) hcap hlen hg c0 c1 (hcj 2 (by decide)) (hcj 3 (by decide)) (hcj 4 (by decide)) (hcj 5 (by decide)) (hcj 6 (by decide)) (hcj 7 (by decide)) (hcj 8 (by decide)) (hcj 9 (by decide)) _ (fun j hj => by rw [Nat.add_assoc]; exact hcj (10 + j) (by show _ ≤ 17; omega)) (fun j => hr (10 + j))
        by_cases h3 : b1 = 3
        · subst h3
          obtain rfl : b0 = 9 := heq
          have e2 : q = _ := hq.trans (rdQ_3 _ e1 (Or.inl rfl))
          subst e2
          exact rreq3 g so _ cap _ _ _ _ _ _ _ _ w (by omega) hcap hlen hg c0 c1 (hcj 2 (by decide)) (hcj 3 (by decide)) (hcj 4 (by decide)) (hcj 5 (by decide)) (hcj 6 (by decide)) (hcj 7 (by decide)) (hcj 8 (by decide)) (hcj 9 (by decide))
        by_cases h4 : b1 = 4
        · subst h4
          obtain rfl : b0 = 9 := heq
          have e2 : q = _ := hq.trans (rdQ_3 _ e1 (Or.inr rfl))
          subst e2
          exact rreq4 g so _ cap _ _ _ _ _ _ _ _ w (by omega) hcap hlen hg c0 c1 (hcj 2 (by decide)) (hcj 3 (by decide)) (hcj 4 (by decide)) (hcj 5 (by decide)) (hcj 6 (by decide)) (hcj 7 (by decide)) (hcj 8 (by decide)) (hcj 9 (by decide))
        by_cases h5 : b1 = 5
        · subst h5
          obtain rfl : b0 = 1 := heq
          have e2 : q = _ := hq.trans (rdQ_5 _ e1 (Or.inl rfl))
          subst e2
          exact rreq5 g so _ cap w (by omega) hcap hlen hg c0 c1
        by_cases h6 : b1 = 6
        · subst h6
          obtain rfl : b0 = 1 := heq
          have e2 : q = _ := hq.trans (rdQ_5 _ e1 (Or.inr rfl))
          subst e2
          exact rreq6 g so _ cap w (by omega) hcap hlen hg c0 c1
        exact absurd heq (by simp [reqLen, h1, h2, h3, h4, h5, h6]; omega)
    · have e1 : rdErr (b0 :: b1 :: t) = 2 := by simp only [rdErr]; rw [if_neg hor, if_neg heq]
      have e2 : rdQ (b0 :: b1 :: t) = Rq.zero := by simp [rdQ, e1]
      have e3 : rdN (b0 :: b1 :: t) = 0 := by simp [rdN, e1]
      subst hq
      rw [e1, e2, e3]
      refine read26_err _ 2 w ?_
      intro w1 hB
      refine body_frame 1 26 62 _ w1 ?_
      intro w2 hB2
      have hB3 := hB.trans (hB2.mono hB.size)
      refine (begin4 g so _ cap b0 b1 w2 (by simp) (Nat.lt_of_lt_of_le hg hB3.size) ((hB3.cell (p := ⟨g, so, none⟩) hg).trans c0) ((hB3.cell (p := ⟨g, so + 1, none⟩) hg).trans c1) hlo hhi).mono ?_
      rintro e w3 ⟨rfl, hb⟩
      exact ⟨by rw [if_neg heq], hb⟩
end Go.Proofs.YtlamgpeiolfffaaGreatDoor
