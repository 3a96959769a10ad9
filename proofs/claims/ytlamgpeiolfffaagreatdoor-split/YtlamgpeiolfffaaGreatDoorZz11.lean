import Derived.Test.YtlamgpeiolfffaaGreatDoorZz08
import Derived.Test.YtlamgpeiolfffaaGreatDoorZz02
import Derived.Test.YtlamgpeiolfffaaGreatDoorZz10
import Derived.Test.YtlamgpeiolfffaaGreatDoorZz04
import Derived.Test.YtlamgpeiolfffaaGreatDoorZz01
import Derived.Test.YtlamgpeiolfffaaGreatDoorZz05
import Derived.Test.YtlamgpeiolfffaaGreatDoorZz09
import Derived.Deep.RegionWith
set_option linter.unusedSectionVars false
namespace Go.Proofs.YtlamgpeiolfffaaGreatDoor
open Go.RowKit
variable [dK] [iK]

theorem nb_range (v : Int) (j : Nat) : 0 ≤ nb v j ∧ nb v j ≤ 255 := by unfold nb; omega
theorem rd_be8 (v : Int) (h0 : 0 ≤ v) (h1 : v ≤ 18446744073709551615) : rdTo (fun j => (be8 v).getD j 0) 8 = v := by
  simp only [rdTo, be8, List.getD_cons_succ, List.getD_cons_zero, nb]
  omega

/-- The bytes of a request, of its numbers. -/
def Rq.encm (q : Rq) : List Int := encReq q.op q.k0 q.k1 q.k2 q.k3 q.k4 q.k5 q.k6 q.k7 q.kd q.x q.y q.n
structure Rq.okm (q : Rq) : Prop where
  op : 0 ≤ q.op ∧ q.op ≤ 255
  k0 : 0 ≤ q.k0 ∧ q.k0 ≤ 255
  k1 : 0 ≤ q.k1 ∧ q.k1 ≤ 255
  k2 : 0 ≤ q.k2 ∧ q.k2 ≤ 255
  k3 : 0 ≤ q.k3 ∧ q.k3 ≤ 255
  k4 : 0 ≤ q.k4 ∧ q.k4 ≤ 255
  k5 : 0 ≤ q.k5 ∧ q.k5 ≤ 255
  k6 : 0 ≤ q.k6 ∧ q.k6 ≤ 255
  k7 : 0 ≤ q.k7 ∧ q.k7 ≤ 255
  kd : 0 ≤ q.kd ∧ q.kd ≤ 255
  x : 0 ≤ q.x ∧ q.x ≤ 18446744073709551615
  y : 0 ≤ q.y ∧ q.y ≤ 18446744073709551615
  n : 0 ≤ q.n ∧ q.n ≤ 18446744073709551615

/-- What is read of a request's own bytes, whatever stands behind. -/
structure Back (q r : Rq) (bs t : List Int) : Prop where
  err : rdErr (bs ++ t) = 0
  n : rdN (bs ++ t) = bs.length
  op : r.op = q.op
  enc : r.encm = bs

theorem back1 (q : Rq) (h : q.okm) (t : List Int) (h1 : q.op = 1) : Back q (rdQ (q.encm ++ t)) q.encm t := by
  have e : q.encm = [26, 1, q.k0, q.k1, q.k2, q.k3, q.k4, q.k5, q.k6, q.k7, q.kd] ++ be8 q.x ++ be8 q.y := by unfold Rq.encm encReq; rw [if_pos h1]
  have eE : rdErr (q.encm ++ t) = 0 := by
    rw [e]; simp [rdErr, be8, reqLen]; omega
  have hx := rd_be8 q.x h.x.1 h.x.2
  have hy := rd_be8 q.y h.y.1 h.y.2
  have eQ := rdQ_1 (q.encm ++ t) eE (by rw [e]; rfl)
  have ex : num8 (q.encm ++ t) 11 = q.x := by rw [e]; exact hx
  have ey : num8 (q.encm ++ t) 19 = q.y := by rw [e]; exact hy
  rw [ex, ey] at eQ
  refine ⟨eE, ?_, ?_, ?_⟩
  · unfold rdN; rw [if_pos eE, e]; simp [be8]
  · rw [eQ, h1]
  · rw [eQ, e]; rfl

theorem back2 (q : Rq) (h : q.okm) (t : List Int) (h1 : q.op = 2) : Back q (rdQ (q.encm ++ t)) q.encm t := by
  have e : q.encm = [17, 2, q.k0, q.k1, q.k2, q.k3, q.k4, q.k5, q.k6, q.k7] ++ be8 q.n := by unfold Rq.encm encReq; rw [if_neg (by omega), if_pos h1]
  have eE : rdErr (q.encm ++ t) = 0 := by
    rw [e]; simp [rdErr, be8, reqLen]; omega
  have hx := rd_be8 q.n h.n.1 h.n.2
  have eQ := rdQ_2 (q.encm ++ t) eE (by rw [e]; rfl)
  have ex : num8 (q.encm ++ t) 10 = q.n := by rw [e]; exact hx
  rw [ex] at eQ
  refine ⟨eE, ?_, ?_, ?_⟩
  · unfold rdN; rw [if_pos eE, e]; simp [be8]
  · rw [eQ, h1]
  · rw [eQ, e]; rfl

theorem back3 (q : Rq) (t : List Int) (h1 : q.op = 3 ∨ q.op = 4) : Back q (rdQ (q.encm ++ t)) q.encm t := by
  have e : q.encm = [9, q.op, q.k0, q.k1, q.k2, q.k3, q.k4, q.k5, q.k6, q.k7] := by unfold Rq.encm encReq; rw [if_neg (by omega), if_neg (by omega), if_pos h1]
  have eE : rdErr (q.encm ++ t) = 0 := by
    rw [e]; rcases h1 with h1 | h1 <;> simp [rdErr, reqLen, h1] <;> omega
  have eQ := rdQ_3 (q.encm ++ t) eE (by rw [e]; exact h1)
  refine ⟨eE, ?_, ?_, ?_⟩
  · unfold rdN; rw [if_pos eE, e]; simp
  · rw [eQ, e]; rfl
  · rw [eQ, e]; unfold Rq.encm encReq; simp only [List.cons_append, List.getD_cons_succ, List.getD_cons_zero]; rw [if_neg (by omega), if_neg (by omega), if_pos h1]

theorem back5 (q : Rq) (t : List Int) (h1 : q.op = 5 ∨ q.op = 6) : Back q (rdQ (q.encm ++ t)) q.encm t := by
  have e : q.encm = [1, q.op] := by unfold Rq.encm encReq; rw [if_neg (by omega), if_neg (by omega), if_neg (by omega), if_pos h1]
  have eE : rdErr (q.encm ++ t) = 0 := by
    rw [e]; rcases h1 with h1 | h1 <;> simp [rdErr, reqLen, h1] <;> omega
  have eQ := rdQ_5 (q.encm ++ t) eE (by rw [e]; exact h1)
  refine ⟨eE, ?_, ?_, ?_⟩
  · unfold rdN; rw [if_pos eE, e]; simp
  · rw [eQ, e]; rfl
  · rw [eQ, e]; unfold Rq.encm encReq; simp only [List.cons_append, List.getD_cons_succ, List.getD_cons_zero]; rw [if_neg (by omega), if_neg (by omega), if_neg (by omega), if_pos h1]

theorem reqLen_cases (op : Int) (h : reqLen op ≠ 0) : op = 1 ∨ op = 2 ∨ (op = 3 ∨ op = 4) ∨ op = 5 ∨ op = 6 := by
  unfold reqLen at h
  repeat' split at h
  all_goals omega
theorem back (q : Rq) (h : q.okm) (t : List Int) (h1 : reqLen q.op ≠ 0) : Back q (rdQ (q.encm ++ t)) q.encm t := by
  rcases reqLen_cases q.op h1 with h1 | h1 | h1 | h1
  · exact back1 q h t h1
  · exact back2 q h t h1
  · exact back3 q t h1
  · exact back5 q t h1

theorem rdErr_short (b0 b1 : Int) (t : List Int) (hor : ¬ (b0 < 1 ∨ 26 < b0)) (heq : b0 = reqLen b1) (hle : (((b0 :: b1 :: t).length : Nat) : Int) ≤ b0) : rdErr (b0 :: b1 :: t) = 1 := by
  simp only [rdErr]; rw [if_neg hor, if_pos heq, if_pos hle]
/-- Of less than all of a frame nothing is read. -/
theorem short_of (q : Rq) (h1 : reqLen q.op ≠ 0) (j : Nat) (hj : j < q.encm.length) : rdErr (q.encm.take j) = 1 := by
  have hl := encReq_length q.op q.k0 q.k1 q.k2 q.k3 q.k4 q.k5 q.k6 q.k7 q.kd q.x q.y q.n
  rw [if_neg h1] at hl
  have hcons : ∃ t, q.encm = reqLen q.op :: q.op :: t := by
    unfold Rq.encm encReq reqLen
    rcases reqLen_cases q.op h1 with h | h | h | h
    · simp [h]
    · simp [h]
    · rcases h with h | h <;> simp [h]
    · rcases h with h | h <;> simp [h]
  obtain ⟨t, ht⟩ := hcons
  have hlen : ((q.encm.length : Nat) : Int) = reqLen q.op + 1 := hl
  have hb : 1 ≤ reqLen q.op ∧ reqLen q.op ≤ 26 := by
    rcases reqLen_cases q.op h1 with h | h | h | h
    · simp [h, reqLen]
    · simp [h, reqLen]
    · rcases h with h | h <;> simp [h, reqLen]
    · rcases h with h | h <;> simp [h, reqLen]
  have hor : ¬ (reqLen q.op < 1 ∨ 26 < reqLen q.op) := by omega
  match j, hj with
  | 0, _ => rfl
  | 1, _ => rw [ht]; simp only [List.take_succ_cons, List.take_zero, rdErr]; rw [if_neg hor]
  | j + 2, hj =>
    rw [ht] at hlen hj ⊢
    simp only [List.take_succ_cons]
    refine rdErr_short _ _ _ hor rfl ?_
    simp only [List.length_cons, List.length_take] at hlen hj ⊢
    omega
end Go.Proofs.YtlamgpeiolfffaaGreatDoor

namespace Go.Proofs.YtlamgpeiolfffaaGreatDoor
open Go.RowKit
variable [dK] [iK]

theorem cell_two_up' {w2 : World} {g : Nat} (o1 o2 : Obj) (j : Nat) (hg : g < w2.heap.size) : ((w2.alloc o1).alloc o2).cell? ⟨g, j, none⟩ = w2.cell? ⟨g, j, none⟩ := by
  rw [World.cell?_alloc_past _ _ _ (by simp; omega), World.cell?_alloc_past _ _ _ hg]

set_option maxRecDepth 100000 in
set_option maxHeartbeats 2000000 in
theorem rrep_ok (g n cap : Nat) (b : Nat → Int) (w : World) (hn : 18 ≤ n) (hnc : n ≤ cap) (hn1 : n ≤ 1048576) (hg : g < w.heap.size) (hb : ∀ j, j < n → w.cell? ⟨g, j, none⟩ = some (.int .u8 (b j))) (hr : ∀ j, 0 ≤ b j ∧ b j ≤ 255) (hb0 : b 0 = 17) (hb1 : repLen (b 1) = 17) :
    Calls Tryz.prog 88 #[.slice (some ⟨g, 0, none⟩) n cap] w fun e w' => e = .returned (.tuple #[.agg #[.int .u8 (b 1), .int .u64 (rdTo (fun j => b (2 + j)) 8), .int .u64 (rdTo (fun j => b (10 + j)) 8)], .int .i64 18, .nilIface]) ∧ Below w.heap.size w w' := by
  have HB := hide hb
  have HR := hide hr
  have H1 := hide hb1
  have c0 : w.cell? ⟨g, 0, none⟩ = some (.int .u8 17) := by rw [hb 0 (by omega), hb0]
  have c1 : w.cell? ⟨g, 1, none⟩ = some (.int .u8 (b 1)) := hb 1 (by omega)
  clear hb hr hb0 hb1
  go_enter Tryz.func88, Tryz.ntmps88
  go_wp2_with fail
  refine (replies_any _).mono ?_
  rintro e w1 ⟨rfl, hb1⟩
  have hB1 : Below w.heap.size w w1 := ((Below.refl _ w).alloc (Nat.le_refl _) _).trans (hb1.mono (by simp))
  have hs1 : w.heap.size < w1.heap.size := by have := hb1.size; simp at this; omega
  go_wp2_with fail
  refine (body_ok 17 17 129 g 0 n cap 17 w1 (by omega) hnc hn1 (by omega) (by omega) (by omega) ((hB1.cell (p := ⟨g, 0, none⟩) hg).trans c0) (fun w2 hB => by
    refine (rbegin4 g n cap 17 (b 1) w2 (by omega) (Nat.lt_of_lt_of_le (Nat.lt_trans hg hs1) hB.size) ((hB.cell (p := ⟨g, 0, none⟩) (Nat.lt_trans hg hs1)).trans ((hB1.cell (p := ⟨g, 0, none⟩) hg).trans c0)) ((hB.cell (p := ⟨g, 1, none⟩) (Nat.lt_trans hg hs1)).trans ((hB1.cell (p := ⟨g, 1, none⟩) hg).trans c1)) (by omega) (by omega)).mono ?_
    rintro e w3 ⟨rfl, hb⟩
    exact ⟨by rw [if_pos H1.out.symm], hb⟩)).mono ?_
  rintro e w2 ⟨rfl, hb2⟩
  have hB2 : Below w.heap.size w w2 := hB1.trans (hb2.mono (by omega))
  have hs2 : w.heap.size < w2.heap.size := by have := hb2.size; omega
  have hR : ∀ j, w2.cell? ⟨w.heap.size, j, none⟩ = (#[.int .u8 0, .int .u64 0, .int .u64 0] : Array Value)[j]? := fun j => (hb2.cell (p := ⟨w.heap.size, j, none⟩) hs1).trans ((hb1.cell (p := ⟨w.heap.size, j, none⟩) (by simp)).trans (cell_box w _ _ j))
  have hRf : ∀ j, w2.frozen? ⟨w.heap.size, j, none⟩ = false := fun j => (hb2.frozen (p := ⟨w.heap.size, j, none⟩) hs1).trans ((hb1.frozen (p := ⟨w.heap.size, j, none⟩) (by simp)).trans (by simp))
  clear hb1 hb2
  go_wp2_with fail
  have hg2 : g < w2.heap.size := by omega
  refine (small_more w2.heap.size g 1 17 (b 1) _ (by simp) (by simp) (by omega) (by omega) (by rw [World.cell?_alloc_lt _ _ ⟨g, 1, none⟩ hg2]; exact (hB2.cell (p := ⟨g, 1, none⟩) hg).trans c1)).mono ?_
  rintro e w3 ⟨rfl, rfl⟩
  go_wp2_with fail
  refine (number_any w2.heap.size g 2 16 (fun j => b (2 + j)) _ (by simp) (by simp) (by omega) (by omega) (fun j hj => by rw [cell_two_up' _ _ _ hg2]; exact (hB2.cell (p := ⟨g, 2 + j, none⟩) hg).trans (HB.out (2 + j) (by omega))) (fun j => HR.out (2 + j))).mono ?_
  rintro e w4 ⟨rfl, ao, rfl, hao⟩
  obtain rfl := hao (by omega)
  clear hao
  go_wp2_with fail
  refine (number_any w2.heap.size g 10 8 (fun j => b (10 + j)) _ (by simp) (by simp) (by omega) (by omega) (fun j hj => by rw [cell_two_up' _ _ _ hg2]; exact (hB2.cell (p := ⟨g, 10 + j, none⟩) hg).trans (HB.out (10 + j) (by omega))) (fun j => HR.out (10 + j))).mono ?_
  rintro e w5 ⟨rfl, ao, rfl, -⟩
  clear c0 c1
  have hne : ¬ w.heap.size = w2.heap.size := by omega
  have hne' : ¬ w2.heap.size = w.heap.size := by omega
  go_wp2
  have hs2' : w.heap.size < w2.heap.size + 1 := by omega
  refine bodyPost_ret (v := .tuple #[.agg #[.int .u8 (b 1), .int .u64 (rdTo (fun j => b (2 + j)) 8), .int .u64 (rdTo (fun j => b (10 + j)) 8)], .int .i64 18, .nilIface]) (by simp [results, Tryz.results88, go_sem, hR, hs2, hs2']) rfl ⟨rfl, ?_⟩
  refine Below.alloc ?_ (by simp; omega) _
  refine Below.alloc ?_ (by simp; omega) _
  repeat (refine Below.setCell ?_ (by first | exact Nat.le_refl _ | (show _ ≤ w2.heap.size; omega)) _)
  exact hB2

set_option maxRecDepth 100000 in
set_option maxHeartbeats 1000000 in
theorem rrep_err (v : Value) (k : Int) (w : World)
    (hbody : Hid (∀ w1, Below w.heap.size w w1 → Calls Tryz.prog 98 #[.agg #[.int .u8 17, .int .u8 17, .func (.func 129) #[] #[]], v] w1 fun e w' => e = .returned (.tuple #[.slice none 0 0, .iface 46 (.int .i64 k)]) ∧ Below w1.heap.size w1 w')) :
    Calls Tryz.prog 88 #[v] w fun e w' => e = .returned (.tuple #[.agg #[.int .u8 0, .int .u64 0, .int .u64 0], .int .i64 0, .iface 46 (.int .i64 k)]) ∧ Below w.heap.size w w' := by
  go_enter Tryz.func88, Tryz.ntmps88
  go_wp2_with fail
  refine (replies_any _).mono ?_
  rintro e w1 ⟨rfl, hb1⟩
  have hB1 : Below w.heap.size w w1 := ((Below.refl _ w).alloc (Nat.le_refl _) _).trans (hb1.mono (by simp))
  have hs1 : w.heap.size < w1.heap.size := by have := hb1.size; simp at this; omega
  go_wp2_with fail
  refine (hbody.out w1 hB1).mono ?_
  rintro e w2 ⟨rfl, hb2⟩
  have hB2 : Below w.heap.size w w2 := hB1.trans (hb2.mono (by omega))
  have hR : ∀ j, w2.cell? ⟨w.heap.size, j, none⟩ = (#[.int .u8 0, .int .u64 0, .int .u64 0] : Array Value)[j]? := fun j => (hb2.cell (p := ⟨w.heap.size, j, none⟩) hs1).trans ((hb1.cell (p := ⟨w.heap.size, j, none⟩) (by simp)).trans (cell_box w _ _ j))
  have hRf : ∀ j, w2.frozen? ⟨w.heap.size, j, none⟩ = false := fun j => (hb2.frozen (p := ⟨w.heap.size, j, none⟩) hs1).trans ((hb1.frozen (p := ⟨w.heap.size, j, none⟩) (by simp)).trans (by simp))
  clear hb1 hb2
  go_wp2
  refine bodyPost_ret (v := .tuple #[.agg #[.int .u8 0, .int .u64 0, .int .u64 0], .int .i64 0, .iface 46 (.int .i64 k)]) (by simp [results, Tryz.results88, go_sem, hR]) rfl ⟨rfl, ?_⟩
  repeat (refine Below.setCell ?_ (by first | exact Nat.le_refl _ | (show _ ≤ w2.heap.size; omega)) _)
  exact hB2

/-- What is wrong with bytes, read as a reply (P4). -/
def rpErr (bs : List Int) : Int :=
  match bs with
  | [] => 1
  | b0 :: t => if b0 < 17 ∨ 17 < b0 then 2 else
    match t with
    | [] => 1
    | b1 :: _ => if b0 = repLen b1 then (if (bs.length : Int) ≤ b0 then 1 else 0) else 2
def rpN (bs : List Int) : Int := if rpErr bs = 0 then 18 else 0
def rpQ (bs : List Int) : Rp := if rpErr bs = 0 then ⟨bs.getD 1 0, num8 bs 2, num8 bs 10⟩ else ⟨0, 0, 0⟩

theorem read29_nil (ao : Option Addr) (cap : Nat) (w : World) :
    Calls Tryz.prog 88 #[.slice ao 0 cap] w fun e w' => e = .returned (.tuple #[.agg #[.int .u8 0, .int .u64 0, .int .u64 0], .int .i64 0, .iface 46 (.int .i64 1)]) ∧ Below w.heap.size w w' := by
  refine rrep_err _ 1 w ?_
  intro w1 _
  refine body_short 17 17 129 _ w1 ?_
  intro w2 _
  exact rbegin0 ao cap w2

theorem read29_bs (g cap n : Nat) (bs : List Int) (w : World) (hnl : bs.length = n) (hnp : 0 < n) (hcap : n ≤ cap) (hlen : n ≤ 1048576) (hg : g < w.heap.size)
    (hc : ∀ j, j < n → w.cell? ⟨g, j, none⟩ = some (.int .u8 (bs.getD j 0))) (hr : ∀ j, 0 ≤ bs.getD j 0 ∧ bs.getD j 0 ≤ 255) (r : Rp) (hq : r = rpQ bs) (m er : Int) (hm : m = rpN bs) (her : er = rpErr bs) :
    Calls Tryz.prog 88 #[.slice (some ⟨g, 0, none⟩) n cap] w fun e w' => e = .returned (.tuple #[.agg #[.int .u8 r.c, .int .u64 r.a, .int .u64 r.b], .int .i64 m, errV er]) ∧ Below w.heap.size w w' := by
  subst hq hm her
  have bad : ∀ k, rpErr bs = k → k ≠ 0 → (Hid (∀ w1, Below w.heap.size w w1 → Calls Tryz.prog 98 #[.agg #[.int .u8 17, .int .u8 17, .func (.func 129) #[] #[]], .slice (some ⟨g, 0, none⟩) n cap] w1 fun e w' => e = .returned (.tuple #[.slice none 0 0, .iface 46 (.int .i64 k)]) ∧ Below w1.heap.size w1 w')) →
      Calls Tryz.prog 88 #[.slice (some ⟨g, 0, none⟩) n cap] w fun e w' => e = .returned (.tuple #[.agg #[.int .u8 (rpQ bs).c, .int .u64 (rpQ bs).a, .int .u64 (rpQ bs).b], .int .i64 (rpN bs), errV (rpErr bs)]) ∧ Below w.heap.size w w' := by
    intro k hk hk0 hbody
    have e0 : ¬ rpErr bs = 0 := by omega
    have e2 : rpQ bs = ⟨0, 0, 0⟩ := by unfold rpQ; rw [if_neg e0]
    have e3 : rpN bs = 0 := by unfold rpN; rw [if_neg e0]
    have e4 : errV (rpErr bs) = .iface 46 (.int .i64 k) := by rw [hk]; unfold errV; rw [if_neg hk0]
    rw [e2, e3, e4]
    exact rrep_err _ k w hbody
  cases bs with
  | nil => simp at hnl; omega
  | cons b0 t =>
    have c0 : w.cell? ⟨g, 0, none⟩ = some (.int .u8 b0) := hc 0 hnp
    have r0 : 0 ≤ b0 ∧ b0 ≤ 255 := hr 0
    by_cases hlo : b0 < 17
    · refine bad 2 (by simp [rpErr, hlo]) (by omega) ?_
      intro w1 hB
      refine body_frame 17 17 129 _ w1 ?_
      intro w2 hB2
      have hB3 := hB.trans (hB2.mono hB.size)
      exact rbegin1 g _ cap b0 w2 hnp (Nat.lt_of_lt_of_le hg hB3.size) ((hB3.cell (p := ⟨g, 0, none⟩) hg).trans c0) hlo
    by_cases hhi : 17 < b0
    · refine bad 2 (by simp [rpErr, hhi]) (by omega) ?_
      intro w1 hB
      refine body_frame 17 17 129 _ w1 ?_
      intro w2 hB2
      have hB3 := hB.trans (hB2.mono hB.size)
      exact rbegin2 g _ cap b0 w2 hnp (Nat.lt_of_lt_of_le hg hB3.size) ((hB3.cell (p := ⟨g, 0, none⟩) hg).trans c0) hlo hhi
    have hor : ¬ (b0 < 17 ∨ 17 < b0) := by omega
    cases t with
    | nil =>
      have h1 : n = 1 := by simpa using hnl.symm
      refine bad 1 (by simp [rpErr, hor]) (by omega) ?_
      intro w1 hB
      refine body_short 17 17 129 _ w1 ?_
      intro w2 hB2
      have hB3 := hB.trans (hB2.mono hB.size)
      exact rbegin3 g _ cap b0 w2 hnp (Nat.lt_of_lt_of_le hg hB3.size) ((hB3.cell (p := ⟨g, 0, none⟩) hg).trans c0) hlo hhi (by simp [h1])
    | cons b1 t =>
      have hn2 : 1 < n := by rw [← hnl]; simp
      have c1 : w.cell? ⟨g, 1, none⟩ = some (.int .u8 b1) := hc 1 hn2
      by_cases heq : b0 = repLen b1
      · by_cases hle : (n : Int) ≤ b0
        · refine bad 1 (by simp only [rpErr]; rw [if_neg hor, if_pos heq, if_pos (by rw [hnl]; exact hle)]) (by omega) ?_
          intro w1 hB
          refine body_short2 17 17 129 g 0 _ cap b0 w1 hnp r0.1 r0.2 (Nat.lt_of_lt_of_le hg hB.size) ((hB.cell (p := ⟨g, 0, none⟩) hg).trans c0) hle ?_
          intro w2 hB2
          have hB3 := hB.trans (hB2.mono hB.size)
          refine (rbegin4 g _ cap b0 b1 w2 hn2 (Nat.lt_of_lt_of_le hg hB3.size) ((hB3.cell (p := ⟨g, 0, none⟩) hg).trans c0) ((hB3.cell (p := ⟨g, 1, none⟩) hg).trans c1) hlo hhi).mono ?_
          rintro e w3 ⟨rfl, hb⟩
          exact ⟨by rw [if_pos heq], hb⟩
        · have e1 : rpErr (b0 :: b1 :: t) = 0 := by simp only [rpErr]; rw [if_neg hor, if_pos heq, if_neg (by rw [hnl]; exact hle)]
          have e2 : rpQ (b0 :: b1 :: t) = ⟨b1, num8 (b0 :: b1 :: t) 2, num8 (b0 :: b1 :: t) 10⟩ := by unfold rpQ; rw [if_pos e1]; rfl
          have e3 : rpN (b0 :: b1 :: t) = 18 := by unfold rpN; rw [if_pos e1]
          have h17 : b0 = 17 := by omega
          rw [e1, e2, e3]
          exact rrep_ok g n cap (fun j => (b0 :: b1 :: t).getD j 0) w (by omega) hcap hlen hg hc hr h17 (by show repLen b1 = 17; omega)
      · refine bad 2 (by simp only [rpErr]; rw [if_neg hor, if_neg heq]) (by omega) ?_
        intro w1 hB
        refine body_frame 17 17 129 _ w1 ?_
        intro w2 hB2
        have hB3 := hB.trans (hB2.mono hB.size)
        refine (rbegin4 g _ cap b0 b1 w2 hn2 (Nat.lt_of_lt_of_le hg hB3.size) ((hB3.cell (p := ⟨g, 0, none⟩) hg).trans c0) ((hB3.cell (p := ⟨g, 1, none⟩) hg).trans c1) hlo hhi).mono ?_
        rintro e w3 ⟨rfl, hb⟩
        exact ⟨by rw [if_neg heq], hb⟩
end Go.Proofs.YtlamgpeiolfffaaGreatDoor
