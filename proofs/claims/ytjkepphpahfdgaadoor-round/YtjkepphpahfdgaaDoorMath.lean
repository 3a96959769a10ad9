import Derived.Test.YtjkepphpahfdgaaDoorRead
namespace Go.Proofs.YtjkepphpahfdgaaDoor
open Go.RowKit

theorem nb_range (v : Int) (j : Nat) : 0 ≤ nb v j ∧ nb v j ≤ 255 := by unfold nb; omega
theorem rd_be8 (v : Int) (h0 : 0 ≤ v) (h1 : v ≤ 18446744073709551615) : rdTo (fun j => (be8 v).getD j 0) 8 = v := by
  simp only [rdTo, be8, List.getD_cons_succ, List.getD_cons_zero, nb]
  omega

/-- The bytes of a request, of its numbers. -/
def Rq.enc (q : Rq) : List Int := encReq q.op q.k0 q.k1 q.k2 q.k3 q.k4 q.k5 q.k6 q.k7 q.kd q.x q.y q.n
structure Rq.ok (q : Rq) : Prop where
  op : 0 ≤ q.op ∧ q.op ≤ 255
  k0 : 0 ≤ q.k0 ∧ q.k0 ≤ 255
  k1 : 0 ≤ q.k1 ∧ q.k1 ≤ 255
  k2 : 0 ≤ q.k2 ∧ q.k2 ≤ 255
  k3 : 0 ≤ q.k3 ∧ q.k3 ≤ 255
  k4 : 0 ≤ q.k4 ∧ q.k4 ≤ 255
  k5 : 0 ≤ q.k5 ∧ q.k5 ≤ 255
  k6 : 0 ≤ q.k6 ∧ q.k6 ≤ 255
  k7 : 0 ≤ q.k7 ∧ q.k7 ≤ 255
  kd : 0 ≤ q.kd ∧ q.kd ≤ 255
  x : 0 ≤ q.x ∧ q.x ≤ 18446744073709551615
  y : 0 ≤ q.y ∧ q.y ≤ 18446744073709551615
  n : 0 ≤ q.n ∧ q.n ≤ 18446744073709551615

/-- What is read of a request's own bytes, whatever stands behind. -/
structure Back (q r : Rq) (bs t : List Int) : Prop where
  err : rdErr (bs ++ t) = 0
  n : rdN (bs ++ t) = bs.length
  op : r.op = q.op
  enc : r.enc = bs

theorem back1 (q : Rq) (h : q.ok) (t : List Int) (h1 : q.op = 1) : Back q (rdQ (q.enc ++ t)) q.enc t := by
  have e : q.enc = [26, 1, q.k0, q.k1, q.k2, q.k3, q.k4, q.k5, q.k6, q.k7, q.kd] ++ be8 q.x ++ be8 q.y := by unfold Rq.enc encReq; rw [if_pos h1]
  have eE : rdErr (q.enc ++ t) = 0 := by
    rw [e]; simp [rdErr, be8, reqLen]; omega
  have hx := rd_be8 q.x h.x.1 h.x.2
  have hy := rd_be8 q.y h.y.1 h.y.2
  have eQ := rdQ_1 (q.enc ++ t) eE (by rw [e]; rfl)
  have ex : num8 (q.enc ++ t) 11 = q.x := by rw [e]; exact hx
  have ey : num8 (q.enc ++ t) 19 = q.y := by rw [e]; exact hy
  rw [ex, ey] at eQ
  refine ⟨eE, ?_, ?_, ?_⟩
  · unfold rdN; rw [if_pos eE, e]; simp [be8]
  · rw [eQ, h1]
  · rw [eQ, e]; rfl

theorem back2 (q : Rq) (h : q.ok) (t : List Int) (h1 : q.op = 2) : Back q (rdQ (q.enc ++ t)) q.enc t := by
  have e : q.enc = [17, 2, q.k0, q.k1, q.k2, q.k3, q.k4, q.k5, q.k6, q.k7] ++ be8 q.n := by unfold Rq.enc encReq; rw [if_neg (by omega), if_pos h1]
  have eE : rdErr (q.enc ++ t) = 0 := by
    rw [e]; simp [rdErr, be8, reqLen]; omega
  have hx := rd_be8 q.n h.n.1 h.n.2
  have eQ := rdQ_2 (q.enc ++ t) eE (by rw [e]; rfl)
  have ex : num8 (q.enc ++ t) 10 = q.n := by rw [e]; exact hx
  rw [ex] at eQ
  refine ⟨eE, ?_, ?_, ?_⟩
  · unfold rdN; rw [if_pos eE, e]; simp [be8]
  · rw [eQ, h1]
  · rw [eQ, e]; rfl

theorem back3 (q : Rq) (t : List Int) (h1 : q.op = 3 ∨ q.op = 4) : Back q (rdQ (q.enc ++ t)) q.enc t := by
  have e : q.enc = [9, q.op, q.k0, q.k1, q.k2, q.k3, q.k4, q.k5, q.k6, q.k7] := by unfold Rq.enc encReq; rw [if_neg (by omega), if_neg (by omega), if_pos h1]
  have eE : rdErr (q.enc ++ t) = 0 := by
    rw [e]; rcases h1 with h1 | h1 <;> simp [rdErr, reqLen, h1] <;> omega
  have eQ := rdQ_3 (q.enc ++ t) eE (by rw [e]; exact h1)
  refine ⟨eE, ?_, ?_, ?_⟩
  · unfold rdN; rw [if_pos eE, e]; simp
  · rw [eQ, e]; rfl
  · rw [eQ, e]; unfold Rq.enc encReq; simp only [List.cons_append, List.getD_cons_succ, List.getD_cons_zero]; rw [if_neg (by omega), if_neg (by omega), if_pos h1]

theorem back5 (q : Rq) (t : List Int) (h1 : q.op = 5 ∨ q.op = 6) : Back q (rdQ (q.enc ++ t)) q.enc t := by
  have e : q.enc = [1, q.op] := by unfold Rq.enc encReq; rw [if_neg (by omega), if_neg (by omega), if_neg (by omega), if_pos h1]
  have eE : rdErr (q.enc ++ t) = 0 := by
    rw [e]; rcases h1 with h1 | h1 <;> simp [rdErr, reqLen, h1] <;> omega
  have eQ := rdQ_5 (q.enc ++ t) eE (by rw [e]; exact h1)
  refine ⟨eE, ?_, ?_, ?_⟩
  · unfold rdN; rw [if_pos eE, e]; simp
  · rw [eQ, e]; rfl
  · rw [eQ, e]; unfold Rq.enc encReq; simp only [List.cons_append, List.getD_cons_succ, List.getD_cons_zero]; rw [if_neg (by omega), if_neg (by omega), if_neg (by omega), if_pos h1]

theorem reqLen_cases (op : Int) (h : reqLen op ≠ 0) : op = 1 ∨ op = 2 ∨ (op = 3 ∨ op = 4) ∨ op = 5 ∨ op = 6 := by
  unfold reqLen at h
  repeat' split at h
  all_goals omega
theorem back (q : Rq) (h : q.ok) (t : List Int) (h1 : reqLen q.op ≠ 0) : Back q (rdQ (q.enc ++ t)) q.enc t := by
  rcases reqLen_cases q.op h1 with h1 | h1 | h1 | h1
  · exact back1 q h t h1
  · exact back2 q h t h1
  · exact back3 q t h1
  · exact back5 q t h1

theorem rdErr_short (b0 b1 : Int) (t : List Int) (hor : ¬ (b0 < 1 ∨ 26 < b0)) (heq : b0 = reqLen b1) (hle : (((b0 :: b1 :: t).length : Nat) : Int) ≤ b0) : rdErr (b0 :: b1 :: t) = 1 := by
  simp only [rdErr]; rw [if_neg hor, if_pos heq, if_pos hle]
/-- Of less than all of a frame nothing is read. -/
theorem short_of (q : Rq) (h1 : reqLen q.op ≠ 0) (j : Nat) (hj : j < q.enc.length) : rdErr (q.enc.take j) = 1 := by
  have hl := encReq_length q.op q.k0 q.k1 q.k2 q.k3 q.k4 q.k5 q.k6 q.k7 q.kd q.x q.y q.n
  rw [if_neg h1] at hl
  have hcons : ∃ t, q.enc = reqLen q.op :: q.op :: t := by
    unfold Rq.enc encReq reqLen
    rcases reqLen_cases q.op h1 with h | h | h | h
    · simp [h]
    · simp [h]
    · rcases h with h | h <;> simp [h]
    · rcases h with h | h <;> simp [h]
  obtain ⟨t, ht⟩ := hcons
  have hlen : ((q.enc.length : Nat) : Int) = reqLen q.op + 1 := hl
  have hb : 1 ≤ reqLen q.op ∧ reqLen q.op ≤ 26 := by
    rcases reqLen_cases q.op h1 with h | h | h | h
    · simp [h, reqLen]
    · simp [h, reqLen]
    · rcases h with h | h <;> simp [h, reqLen]
    · rcases h with h | h <;> simp [h, reqLen]
  have hor : ¬ (reqLen q.op < 1 ∨ 26 < reqLen q.op) := by omega
  match j, hj with
  | 0, _ => rfl
  | 1, _ => rw [ht]; simp only [List.take_succ_cons, List.take_zero, rdErr]; rw [if_neg hor]
  | j + 2, hj =>
    rw [ht] at hlen hj ⊢
    simp only [List.take_succ_cons]
    refine rdErr_short _ _ _ hor rfl ?_
    simp only [List.length_cons, List.length_take] at hlen hj ⊢
    omega
end Go.Proofs.YtjkepphpahfdgaaDoor
