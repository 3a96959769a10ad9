import Derived.Test.YtlamgpeiolfffaaGreatDoorZz15
set_option linter.unusedSectionVars false
namespace Go.Proofs.YtlamgpeiolfffaaGreatDoor
open Go.RowKit
variable [dK] [iK]

/-- What is drawn over a key on which nobody has drawn: the reckoning (P9, P10). -/
theorem drawn_spaced (x y t m : Int) (hx : 1 ≤ x ∧ x ≤ 50) (hy : 0 ≤ y ∧ y ≤ 200) (ht : 1 ≤ t ∧ t ≤ 2000) (hm : m = y / x + 1) :
    admM ⟨1, x, y, 0, 0⟩ t (m + 1) = (⟨1, x, y, 0, 0⟩, ⟨3, 18446744073709551615, 0⟩) ∧
    admM ⟨1, x, y, 0, 0⟩ t m = (⟨1, x, y, t + m * x, 0⟩, ⟨2, t + m * x, 0⟩) ∧
    admM ⟨1, x, y, t + m * x, 0⟩ t 1 = (⟨1, x, y, t + m * x, 0⟩, ⟨3, t + m * x - y, 0⟩) ∧
    t < t + m * x - y ∧ t + m * x - y ≤ 3000 ∧
    admM ⟨1, x, y, t + m * x, 0⟩ (t + m * x - y - 1) 1 = (⟨1, x, y, t + m * x, 0⟩, ⟨3, t + m * x - y, 0⟩) ∧
    (admM ⟨1, x, y, t + m * x, 0⟩ (t + m * x - y) 1).2.c = 2 := by
  have hd := Int.emod_add_mul_ediv y x
  have h0 : 0 ≤ y % x := Int.emod_nonneg _ (by omega)
  have h1 : y % x < x := Int.emod_lt_of_pos _ (by omega)
  have hq : x * (y / x) = (m - 1) * x := by rw [hm, Int.mul_comm]; congr 1; omega
  have hm1 : (m - 1) * x = m * x - x := by rw [Int.sub_mul]; omega
  have hm2 : (m + 1) * x = m * x + x := by rw [Int.add_mul]; omega
  have hdv : 0 ≤ y / x := Int.ediv_nonneg (by omega) (by omega)
  generalize hM : m * x = M at *
  have e1 : (1 : Int) * x = x := by omega
  have hmn : ¬ m = 0 := by omega
  have hmn1 : ¬ m + 1 = 0 := by omega
  have e3 : (m + 1 - 1) * x = M := by rw [← hM]; congr 1; omega
  have o1 : orNever (t + y) = t + y := by unfold orNever; split <;> omega
  have o2 : orNever (t + M - y - 1 + y) = t + M - 1 := by unfold orNever; split <;> omega
  have o3 : orNever (t + M - y + y) = t + M := by unfold orNever; split <;> omega
  refine ⟨?_, ?_, ?_, by omega, by omega, ?_, ?_⟩
  · simp only [admM, admS, startM, if_true, hmn1, if_false, e3, hm2]
    rw [if_pos (by omega : (0 : Int) < t), if_neg (by omega), if_pos (by omega)]
  · simp only [admM, admS, startM, if_true, hmn, if_false, hM, hm1, o1]
    rw [if_pos (by omega : (0 : Int) < t), if_neg (by omega), if_neg (by omega), if_neg (by omega)]
  · simp only [admM, admS, startM, if_true, o1, e1]
    rw [if_neg (by omega : ¬ t + M < t), if_neg (by omega), if_neg (by omega), if_neg (by omega), if_pos (by omega)]
    simp
  · simp only [admM, admS, startM, if_true, o2, e1]
    rw [if_neg (by omega : ¬ t + M < t + M - y - 1), if_neg (by omega), if_neg (by omega), if_neg (by omega), if_pos (by omega)]
    simp
  · simp only [admM, admS, startM, if_true, o3, e1]
    rw [if_neg (by omega : ¬ t + M < t + M - y), if_neg (by omega), if_neg (by omega), if_neg (by omega), if_neg (by omega)]

theorem drawn_window (x y t : Int) (hx : 0 ≤ x ∧ x ≤ 20) (hy : 1 ≤ y ∧ y ≤ 100) (ht : 1 ≤ t ∧ t ≤ 2000) :
    admM ⟨2, x, y, 0, 0⟩ t (x + 1) = (⟨2, x, y, 0, t / y⟩, ⟨3, 18446744073709551615, 0⟩) ∧
    admM ⟨2, x, y, 0, t / y⟩ t x = (⟨2, x, y, x, t / y⟩, ⟨2, x, t / y⟩) ∧
    (x = 0 → (admM ⟨2, x, y, x, t / y⟩ t 1).2 = ⟨3, 18446744073709551615, 0⟩) ∧
    (x ≠ 0 → admM ⟨2, x, y, x, t / y⟩ t 1 = (⟨2, x, y, x, t / y⟩, ⟨3, t / y * y + y, 0⟩) ∧ t < t / y * y + y ∧ t / y * y + y ≤ 3000 ∧
      admM ⟨2, x, y, x, t / y⟩ (t / y * y + y - 1) 1 = (⟨2, x, y, x, t / y⟩, ⟨3, t / y * y + y, 0⟩) ∧
      (admM ⟨2, x, y, x, t / y⟩ (t / y * y + y) 1).2.c = 2) := by
  have hd := Int.emod_add_mul_ediv t y
  have h0 : 0 ≤ t % y := Int.emod_nonneg _ (by omega)
  have h1 : t % y < y := Int.emod_lt_of_pos _ (by omega)
  have hdv : 0 ≤ t / y := Int.ediv_nonneg (by omega) (by omega)
  have hc : y * (t / y) = t / y * y := Int.mul_comm _ _
  have d1 : (t / y * y + y - 1) / y = t / y := by
    have e : t / y * y + y - 1 = (y - 1) + y * (t / y) := by omega
    rw [e, Int.add_mul_ediv_left _ _ (by omega), Int.ediv_eq_zero_of_lt (by omega) (by omega)]
    omega
  have d2 : (t / y * y + y) / y = t / y + 1 := by
    have e : t / y * y + y = 0 + y * (t / y + 1) := by rw [Int.mul_add]; omega
    rw [e, Int.add_mul_ediv_left _ _ (by omega)]
    simp
  have o1 : orNever (t / y * y + y) = t / y * y + y := by unfold orNever; split <;> omega
  have n2 : ¬ (2 : Int) = 1 := by omega
  generalize hW : t / y = W at *
  have t0 : (if W = 0 then (⟨2, x, y, 0, 0⟩ : Qt) else ⟨2, x, y, 0, W⟩) = ⟨2, x, y, 0, W⟩ := by
    split
    · rename_i h; rw [h]
    · rfl
  refine ⟨?_, ?_, ?_, ?_⟩
  · simp only [admM, n2, if_false, turnM, hW, t0, admW]
    rw [if_neg (by omega), if_pos (by omega)]
  · simp only [admM, n2, if_false, turnM, hW, if_true, admW]
    rw [if_pos (by omega)]
    simp
  · intro h
    simp only [admM, n2, if_false, turnM, hW, if_true, admW]
    rw [if_neg (by omega), if_pos (by omega)]
  · intro h
    refine ⟨?_, by omega, by omega, ?_, ?_⟩
    · simp only [admM, n2, if_false, turnM, hW, if_true, admW, o1]
      rw [if_neg (by omega), if_neg (by omega)]
    · simp only [admM, n2, if_false, turnM, d1, if_true, admW, o1]
      rw [if_neg (by omega), if_neg (by omega)]
    · simp only [admM, n2, if_false, turnM, d2, admW]
      rw [if_neg (by omega : ¬ W + 1 = W)]
      rw [if_pos (by show (0 : Int) + 1 ≤ x; omega)]
end Go.Proofs.YtlamgpeiolfffaaGreatDoor
