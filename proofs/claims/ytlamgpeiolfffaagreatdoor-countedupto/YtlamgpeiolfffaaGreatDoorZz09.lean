import Derived.Test.YtlamgpeiolfffaaGreatDoorZz08
import Derived.Test.YtlamgpeiolfffaaGreatDoorZz06
import Derived.Test.YtlamgpeiolfffaaGreatDoorZz02
namespace Go.Proofs.YtlamgpeiolfffaaGreatDoor
open Go.RowKit

theorem nb_range (v : Int) (j : Nat) : 0 ≤ nb v j ∧ nb v j ≤ 255 := by unfold nb; omega
theorem rd_be8 (v : Int) (h0 : 0 ≤ v) (h1 : v ≤ 18446744073709551615) : rdTo (fun j => (be8 v).getD j 0) 8 = v := by
  simp only [rdTo, be8, List.getD_cons_succ, List.getD_cons_zero, nb]
  omega

/-- The bytes of a request, of its numbers. -/
def Rq.encm (q : Rq) : List Int := encReq q.op q.k0 q.k1 q.k2 q.k3 q.k4 q.k5 q.k6 q.k7 q.kd q.x q.y q.n
structure Rq.okm (q : Rq) : Prop where
  op : 0 ≤ q.op ∧ q.op ≤ 255
  k0 : 0 ≤ q.k0 ∧ q.k0 ≤ 255
  k1 : 0 ≤ q.k1 ∧ q.k1 ≤ 255
  k2 : 0 ≤ q.k2 ∧ q.k2 ≤ 255
  k3 : 0 ≤ q.k3 ∧ q.k3 ≤ 255
  k4 : 0 ≤ q.k4 ∧ q.k4 ≤ 255
  k5 : 0 ≤ q.k5 ∧ q.k5 ≤ 255
  k6 : 0 ≤ q.k6 ∧ q.k6 ≤ 255
  k7 : 0 ≤ q.k7 ∧ q.k7 ≤ 255
  kd : 0 ≤ q.kd ∧ q.kd ≤ 255
  x : 0 ≤ q.x ∧ q.x ≤ 18446744073709551615
  y : 0 ≤ q.y ∧ q.y ≤ 18446744073709551615
  n : 0 ≤ q.n ∧ q.n ≤ 18446744073709551615

/-- What is read of a request's own bytes, whatever stands behind. -/
structure Back (q r : Rq) (bs t : List Int) : Prop where
  err : rdErr (bs ++ t) = 0
  n : rdN (bs ++ t) = bs.length
  op : r.op = q.op
  enc : r.encm = bs

theorem back1 (q : Rq) (h : q.okm) (t : List Int) (h1 : q.op = 1) : Back q (rdQ (q.encm ++ t)) q.encm t := by
  have e : q.encm = [26, 1, q.k0, q.k1, q.k2, q.k3, q.k4, q.k5, q.k6, q.k7, q.kd] ++ be8 q.x ++ be8 q.y := by unfold Rq.encm encReq; rw [if_pos h1]
  have eE : rdErr (q.encm ++ t) = 0 := by
    rw [e]; simp [rdErr, be8, reqLen]; omega
  have hx := rd_be8 q.x h.x.1 h.x.2
  have hy := rd_be8 q.y h.y.1 h.y.2
  have eQ := rdQ_1 (q.encm ++ t) eE (by rw [e]; rfl)
  have ex : num8 (q.encm ++ t) 11 = q.x := by rw [e]; exact hx
  have ey : num8 (q.encm ++ t) 19 = q.y := by rw [e]; exact hy
  rw [ex, ey] at eQ
  refine ⟨eE, ?_, ?_, ?_⟩
  · unfold rdN; rw [if_pos eE, e]; simp [be8]
  · rw [eQ, h1]
  · rw [eQ, e]; rfl

theorem back2 (q : Rq) (h : q.okm) (t : List Int) (h1 : q.op = 2) : Back q (rdQ (q.encm ++ t)) q.encm t := by
  have e : q.encm = [17, 2, q.k0, q.k1, q.k2, q.k3, q.k4, q.k5, q.k6, q.k7] ++ be8 q.n := by unfold Rq.encm encReq; rw [if_neg (by omega), if_pos h1]
  have eE : rdErr (q.encm ++ t) = 0 := by
    rw [e]; simp [rdErr, be8, reqLen]; omega
  have hx := rd_be8 q.n h.n.1 h.n.2
  have eQ := rdQ_2 (q.encm ++ t) eE (by rw [e]; rfl)
  have ex : num8 (q.encm ++ t) 10 = q.n := by rw [e]; exact hx
  rw [ex] at eQ
  refine ⟨eE, ?_, ?_, ?_⟩
  · unfold rdN; rw [if_pos eE, e]; simp [be8]
  · rw [eQ, h1]
  · rw [eQ, e]; rfl

theorem back3 (q : Rq) (t : List Int) (h1 : q.op = 3 ∨ q.op = 4) : Back q (rdQ (q.encm ++ t)) q.encm t := by
  have e : q.encm = [9, q.op, q.k0, q.k1, q.k2, q.k3, q.k4, q.k5, q.k6, q.k7] := by unfold Rq.encm encReq; rw [if_neg (by omega), if_neg (by omega), if_pos h1]
  have eE : rdErr (q.encm ++ t) = 0 := by
    rw [e]; rcases h1 with h1 | h1 <;> simp [rdErr, reqLen, h1] <;> omega
  have eQ := rdQ_3 (q.encm ++ t) eE (by rw [e]; exact h1)
  refine ⟨eE, ?_, ?_, ?_⟩
  · unfold rdN; rw [if_pos eE, e]; simp
  · rw [eQ, e]; rfl
  · rw [eQ, e]; unfold Rq.encm encReq; simp only [List.cons_append, List.getD_cons_succ, List.getD_cons_zero]; rw [if_neg (by omega), if_neg (by omega), if_pos h1]

theorem back5 (q : Rq) (t : List Int) (h1 : q.op = 5 ∨ q.op = 6) : Back q (rdQ (q.encm ++ t)) q.encm t := by
  have e : q.encm = [1, q.op] := by unfold Rq.encm encReq; rw [if_neg (by omega), if_neg (by omega), if_neg (by omega), if_pos h1]
  have eE : rdErr (q.encm ++ t) = 0 := by
    rw [e]; rcases h1 with h1 | h1 <;> simp [rdErr, reqLen, h1] <;> omega
  have eQ := rdQ_5 (q.encm ++ t) eE (by rw [e]; exact h1)
  refine ⟨eE, ?_, ?_, ?_⟩
  · unfold rdN; rw [if_pos eE, e]; simp
  · rw [eQ, e]; rfl
  · rw [eQ, e]; unfold Rq.encm encReq; simp only [List.cons_append, List.getD_cons_succ, List.getD_cons_zero]; rw [if_neg (by omega), if_neg (by omega), if_neg (by omega), if_pos h1]

theorem reqLen_cases (op : Int) (h : reqLen op ≠ 0) : op = 1 ∨ op = 2 ∨ (op = 3 ∨ op = 4) ∨ op = 5 ∨ op = 6 := by
  unfold reqLen at h
  repeat' split at h
  all_goals omega
theorem back (q : Rq) (h : q.okm) (t : List Int) (h1 : reqLen q.op ≠ 0) : Back q (rdQ (q.encm ++ t)) q.encm t := by
  rcases reqLen_cases q.op h1 with h1 | h1 | h1 | h1
  · exact back1 q h t h1
  · exact back2 q h t h1
  · exact back3 q t h1
  · exact back5 q t h1

theorem rdErr_short (b0 b1 : Int) (t : List Int) (hor : ¬ (b0 < 1 ∨ 26 < b0)) (heq : b0 = reqLen b1) (hle : (((b0 :: b1 :: t).length : Nat) : Int) ≤ b0) : rdErr (b0 :: b1 :: t) = 1 := by
  simp only [rdErr]; rw [if_neg hor, if_pos heq, if_pos hle]
/-- Of less than all of a frame nothing is read. -/
theorem short_of (q : Rq) (h1 : reqLen q.op ≠ 0) (j : Nat) (hj : j < q.encm.length) : rdErr (q.encm.take j) = 1 := by
  have hl := encReq_length q.op q.k0 q.k1 q.k2 q.k3 q.k4 q.k5 q.k6 q.k7 q.kd q.x q.y q.n
  rw [if_neg h1] at hl
  have hcons : ∃ t, q.encm = reqLen q.op :: q.op :: t := by
    unfold Rq.encm encReq reqLen
    rcases reqLen_cases q.op h1 with h | h | h | h
    · simp [h]
    · simp [h]
    · rcases h with h | h <;> simp [h]
    · rcases h with h | h <;> simp [h]
  obtain ⟨t, ht⟩ := hcons
  have hlen : ((q.encm.length : Nat) : Int) = reqLen q.op + 1 := hl
  have hb : 1 ≤ reqLen q.op ∧ reqLen q.op ≤ 26 := by
    rcases reqLen_cases q.op h1 with h | h | h | h
    · simp [h, reqLen]
    · simp [h, reqLen]
    · rcases h with h | h <;> simp [h, reqLen]
    · rcases h with h | h <;> simp [h, reqLen]
  have hor : ¬ (reqLen q.op < 1 ∨ 26 < reqLen q.op) := by omega
  match j, hj with
  | 0, _ => rfl
  | 1, _ => rw [ht]; simp only [List.take_succ_cons, List.take_zero, rdErr]; rw [if_neg hor]
  | j + 2, hj =>
    rw [ht] at hlen hj ⊢
    simp only [List.take_succ_cons]
    refine rdErr_short _ _ _ hor rfl ?_
    simp only [List.length_cons, List.length_take] at hlen hj ⊢
    omega
end Go.Proofs.YtlamgpeiolfffaaGreatDoor

namespace Go.Proofs.YtlamgpeiolfffaaGreatDoor
open Go.RowKit

set_option maxRecDepth 100000 in
set_option maxHeartbeats 400000 in
theorem told_nil (w : World) : Calls Tryz.prog 31 #[.nilIface] w fun e w' => e = .returned (.int .i64 0) ∧ Below w.heap.size w w' := by
  go_enter Tryz.func31, Tryz.ntmps31
  go_wp2
  go_ret
  exact ⟨rfl, (Below.refl _ w).alloc (Nat.le_refl _) _⟩

set_option maxRecDepth 100000 in
set_option maxHeartbeats 1000000 in
theorem told_err (n : Int) (w : World) (hg : w.cell? ⟨0, 0, none⟩ = some (.iface 201 (.agg #[.pointer (some ⟨1, 88, none⟩)]))) :
    Calls Tryz.prog 31 #[.iface 46 (.int .i64 n)] w fun e w' => e = .returned (.int .i64 n) ∧ Below w.heap.size w w' := by
  have hlt : 0 < w.heap.size := by
    rcases Nat.eq_zero_or_pos w.heap.size with h0 | h
    · simp [World.cell?, h0] at hg
    · exact h
  have hgA : (w.alloc (.cells #[.int .i64 0] 46)).cell? ⟨0, 0, none⟩ = some (.iface 201 (.agg #[.pointer (some ⟨1, 88, none⟩)])) := by
    rw [World.cell?_alloc_lt _ _ ⟨0, 0, none⟩ hlt]; exact hg
  have htA : (w.alloc (.cells #[.int .i64 0] 46)).cell? ⟨w.heap.size, 0, none⟩ = some (.int .i64 0) := by simp
  have hfA : (w.alloc (.cells #[.int .i64 0] 46)).frozen? ⟨w.heap.size, 0, none⟩ = false := by simp
  go_enter Tryz.func31, Tryz.ntmps31
  go_wp2_with (first | (go_at_call 47; refine (as_hit _ _ (.int .i64 0) _ hgA htA hfA).mono ?_; rintro e w' ⟨rfl, rfl⟩) | (go_at_call 48; refine (is_same _ _).mono ?_; rintro e w' ⟨rfl, rfl⟩))
  go_ret
  exact ⟨rfl, (((((Below.refl _ w).alloc (Nat.le_refl _) _).alloc (by simp) _).alloc (by simp; omega) _).alloc (by simp; omega) _).alloc (by simp; omega) _⟩
end Go.Proofs.YtlamgpeiolfffaaGreatDoor

namespace Go.Proofs.YtlamgpeiolfffaaGreatDoor
open Go.RowKit

/-- How memory stands while the bytes are written into: they are owned; what was read; the result; the rest as it was. -/
structure Lp (w w2 wr : World) (g n c : Nat) (qc zc : Array Value) : Prop where
  own : ∃ ys, wr.ownsRow (w.heap.size + 1) 5 1 (.slice (some ⟨g, 0, none⟩) n c) n ys
  r : ∀ j, wr.cell? ⟨w2.heap.size, j, none⟩ = qc[j]?
  R : ∀ j, wr.cell? ⟨w.heap.size, j, none⟩ = zc[j]?
  Rf : ∀ j, wr.frozen? ⟨w.heap.size, j, none⟩ = false
  B : Below w.heap.size w wr
  sz : w2.heap.size < wr.heap.size
  g1 : w.heap.size < g
  g2 : g < w2.heap.size

theorem own_below {w w' : World} {base B g n c : Nat} {xs : List Value} (h : w.ownsRow base 5 1 (.slice (some ⟨g, 0, none⟩) n c) n xs) (hb : Below B w w') (hg : g < B) : w'.ownsRow base 5 1 (.slice (some ⟨g, 0, none⟩) n c) n xs := by
  obtain ⟨h1, h2⟩ := h
  refine ⟨h1, ?_⟩
  rcases h2 with ⟨h2, _⟩ | ⟨g', cap, cur, hv, hg', hh, r⟩
  · simp at h2
  · have e : g' = g := by injection hv with e1 _ _; injection e1 with e1; injection e1 with e1; exact e1.symm
    subst e
    exact Or.inr ⟨g', cap, cur, hv, hg', by rw [hb.block g' hg]; exact hh, r⟩

theorem Lp.step {w w2 wr : World} {g n c : Nat} {qc zc : Array Value} (L : Lp w w2 wr g n c qc zc) (j : Nat) (u : Value) : Lp w w2 (wr.setCell ⟨g, j, none⟩ u) g n c qc zc := by
  have h1 := L.g1
  have h2 := L.g2
  obtain ⟨ys, ho⟩ := L.own
  refine ⟨⟨_, (ho.stored j u).1⟩, fun i => ?_, fun i => ?_, fun i => ?_, L.B.setCell (by show _ ≤ g; omega) _, by simpa using L.sz, L.g1, L.g2⟩
  · rw [cell_off _ _ _ _ _ _ (by omega)]; exact L.r i
  · rw [cell_off _ _ _ _ _ _ (by omega)]; exact L.R i
  · rw [frozen_off _ _ _ _ _ _ (by omega)]; exact L.Rf i

theorem Lp.cell {w w2 wr : World} {g n c : Nat} {qc zc : Array Value} (L : Lp w w2 wr g n c qc zc) (j : Nat) (hj : j < n) : (∃ u, wr.cell? ⟨g, j, none⟩ = some u) ∧ wr.frozen? ⟨g, j, none⟩ = false := by
  obtain ⟨ys, ho⟩ := L.own
  have hl : ys.length = n := by simpa using ho.1
  refine ⟨⟨ys[j]'(by omega), ?_⟩, ho.frozenAt j⟩
  rw [ho.cellAt j (by omega), List.getElem?_eq_getElem (by omega)]

theorem Lp.start {w w1 w2 : World} {g n c : Nat} {xs : List Value} {qc zc : Array Value} (ty : TypeId) (ho : w1.ownsRow (w.heap.size + 1) 5 1 (.slice (some ⟨g, 0, none⟩) n c) n xs) (hb2 : Below w1.heap.size w1 w2) (hgb : w.heap.size + 1 ≤ g) (hgl1 : g < w1.heap.size)
    (hR1 : ∀ j, w1.cell? ⟨w.heap.size, j, none⟩ = zc[j]?) (hRf1 : ∀ j, w1.frozen? ⟨w.heap.size, j, none⟩ = false) (hB1 : Below w.heap.size w w1) (hs1 : w.heap.size + 1 ≤ w1.heap.size) : Lp w w2 (w2.alloc (.cells qc ty)) g n c qc zc := by
  have hs2 := hb2.size
  refine ⟨⟨xs, (own_below ho hb2 hgl1).alloc _⟩, fun j => cell_box w2 _ _ j, fun j => ?_, fun j => ?_, (hB1.trans (hb2.mono (by omega))).alloc (by omega) _, by simp, by omega, by omega⟩
  · rw [World.cell?_alloc_lt _ _ ⟨w.heap.size, j, none⟩ (by show w.heap.size < _; omega), hb2.cell (p := ⟨w.heap.size, j, none⟩) (by show w.heap.size < _; omega)]; exact hR1 j
  · rw [World.frozen?_alloc_past _ _ _ (by omega), hb2.frozen (p := ⟨w.heap.size, j, none⟩) (by show w.heap.size < _; omega)]; exact hRf1 j
end Go.Proofs.YtlamgpeiolfffaaGreatDoor
