import Derived.Test.YtlamgpeiolfffaaGreatDoorZy00
import Derived.Test.YtlamgpeiolfffaaGreatDoorZy23
import Derived.Test.YtlamgpeiolfffaaGreatDoorZy24
import Derived.Test.YtlamgpeiolfffaaGreatDoorZy25
import Derived.Test.YtlamgpeiolfffaaGreatDoorZy04
import Derived.Test.YtlamgpeiolfffaaGreatDoorZy16
import Derived.Test.YtlamgpeiolfffaaGreatDoorZy15
import Derived.Deep.RegionWith
import Derived.Laws.AppendOwnNone
import Derived.Lib.AppendZerosOnto
import Derived.Lib.AppendZeros
import Derived.LoopN
import Derived.Test.YtlamgpeiolfffaaGreatDoorZy19
import Derived.Test.YtlamgpeiolfffaaGreatDoorZy20
import Derived.Test.YtlamgpeiolfffaaGreatDoorZy21
import Derived.Test.YtlamgpeiolfffaaGreatDoorZy22
import Derived.Deep.RegionHeld3
import Derived.Maps.AppendAt
import Derived.Test.YtlamgpeiolfffaaGreatDoorZy03
import Derived.Laws.IdiomStrings
import Derived.Laws.BytesArg
set_option linter.unusedSectionVars false
namespace Go.Proofs.YtlamgpeiolfffaaGreatDoor
open Go.RowKit
variable [dK] [iK]

theorem rdQ_1 (bs : List Int) (h0 : rdErr bs = 0) (h1 : bs.getD 1 0 = 1) : rdQ bs = ⟨1, bs.getD 2 0, bs.getD 3 0, bs.getD 4 0, bs.getD 5 0, bs.getD 6 0, bs.getD 7 0, bs.getD 8 0, bs.getD 9 0, bs.getD 10 0, num8 bs 11, num8 bs 19, 0⟩ := by
  unfold rdQ; rw [if_pos h0, if_pos h1]
theorem rdQ_2 (bs : List Int) (h0 : rdErr bs = 0) (h1 : bs.getD 1 0 = 2) : rdQ bs = ⟨2, bs.getD 2 0, bs.getD 3 0, bs.getD 4 0, bs.getD 5 0, bs.getD 6 0, bs.getD 7 0, bs.getD 8 0, bs.getD 9 0, 0, 0, 0, num8 bs 10⟩ := by
  unfold rdQ; rw [if_pos h0, if_neg (by omega), if_pos h1]
theorem rdQ_3 (bs : List Int) (h0 : rdErr bs = 0) (h1 : bs.getD 1 0 = 3 ∨ bs.getD 1 0 = 4) : rdQ bs = ⟨bs.getD 1 0, bs.getD 2 0, bs.getD 3 0, bs.getD 4 0, bs.getD 5 0, bs.getD 6 0, bs.getD 7 0, bs.getD 8 0, bs.getD 9 0, 0, 0, 0, 0⟩ := by
  unfold rdQ; rw [if_pos h0, if_neg (by omega), if_neg (by omega), if_pos h1]
theorem rdQ_5 (bs : List Int) (h0 : rdErr bs = 0) (h1 : bs.getD 1 0 = 5 ∨ bs.getD 1 0 = 6) : rdQ bs = ⟨bs.getD 1 0, 0, 0, 0, 0, 0, 0, 0, 0, 0, 0, 0, 0⟩ := by
  unfold rdQ; rw [if_pos h0, if_neg (by omega), if_neg (by omega), if_neg (by omega)]
def errV (k : Int) : Value := if k = 0 then .nilIface else .iface 46 (.int .i64 k)

set_option maxRecDepth 100000 in
set_option maxHeartbeats 1000000 in
theorem read26_err (v : Value) (k : Int) (w : World)
    (hbody : Hid (∀ w1, Below w.heap.size w w1 → Calls Tryz.prog 98 #[.agg #[.int .u8 1, .int .u8 26, .func (.func 62) #[] #[]], v] w1 fun e w' => e = .returned (.tuple #[.slice none 0 0, .iface 46 (.int .i64 k)]) ∧ Below w1.heap.size w1 w')) :
    Calls Tryz.prog 67 #[v] w fun e w' => e = .returned (.tuple #[.agg #[.int .u8 0, .int .u8 0, .int .u8 0, .int .u8 0, .int .u8 0, .int .u8 0, .int .u8 0, .int .u8 0, .int .u8 0, .int .u8 0, .int .u64 0, .int .u64 0, .int .u64 0], .int .i64 0, .iface 46 (.int .i64 k)]) ∧ Below w.heap.size w w' := by
  go_enter Tryz.func67, Tryz.ntmps67
  go_wp2_with fail
  refine (requests_any _).mono ?_
  rintro e w1 ⟨rfl, hb1⟩
  have hB1 : Below w.heap.size w w1 := ((Below.refl _ w).alloc (Nat.le_refl _) _).trans (hb1.mono (by simp))
  have hs1 : w.heap.size < w1.heap.size := by have := hb1.size; simp at this; omega
  go_wp2_with fail
  refine (hbody.out w1 hB1).mono ?_
  rintro e w2 ⟨rfl, hb2⟩
  have hB2 : Below w.heap.size w w2 := hB1.trans (hb2.mono (by omega))
  have hR : ∀ j, w2.cell? ⟨w.heap.size, j, none⟩ = (#[.int .u8 0, .int .u8 0, .int .u8 0, .int .u8 0, .int .u8 0, .int .u8 0, .int .u8 0, .int .u8 0, .int .u8 0, .int .u8 0, .int .u64 0, .int .u64 0, .int .u64 0] : Array Value)[j]? := fun j => (hb2.cell (p := ⟨w.heap.size, j, none⟩) hs1).trans ((hb1.cell (p := ⟨w.heap.size, j, none⟩) (by simp)).trans (cell_box w _ _ j))
  have hRf : ∀ j, w2.frozen? ⟨w.heap.size, j, none⟩ = false := fun j => (hb2.frozen (p := ⟨w.heap.size, j, none⟩) hs1).trans ((hb1.frozen (p := ⟨w.heap.size, j, none⟩) (by simp)).trans (by simp))
  clear hb1 hb2
  go_wp2
  refine bodyPost_ret (v := .tuple #[.agg #[.int .u8 0, .int .u8 0, .int .u8 0, .int .u8 0, .int .u8 0, .int .u8 0, .int .u8 0, .int .u8 0, .int .u8 0, .int .u8 0, .int .u64 0, .int .u64 0, .int .u64 0], .int .i64 0, .iface 46 (.int .i64 k)]) (by simp [results, Tryz.results67, go_sem, hR]) rfl ⟨rfl, ?_⟩
  repeat (refine Below.setCell ?_ (by first | exact Nat.le_refl _ | (show _ ≤ w2.heap.size; omega)) _)
  exact hB2

theorem read26_nil (ao : Option Addr) (cap : Nat) (w : World) :
    Calls Tryz.prog 67 #[.slice ao 0 cap] w fun e w' => e = .returned (.tuple #[.agg #[.int .u8 0, .int .u8 0, .int .u8 0, .int .u8 0, .int .u8 0, .int .u8 0, .int .u8 0, .int .u8 0, .int .u8 0, .int .u8 0, .int .u64 0, .int .u64 0, .int .u64 0], .int .i64 0, .iface 46 (.int .i64 1)]) ∧ Below w.heap.size w w' := by
  refine read26_err _ 1 w ?_
  intro w1 _
  refine body_short 1 26 62 _ w1 ?_
  intro w2 _
  exact begin0 ao cap w2

/-- frame.ReadRequest, over bytes that are not none. -/
theorem read26_cons (g so cap : Nat) (b0 : Int) (t : List Int) (w : World) (hcap : (b0 :: t).length ≤ cap) (hlen : (b0 :: t).length ≤ 1048576) (hg : g < w.heap.size)
    (hc : ∀ j, j < (b0 :: t).length → w.cell? ⟨g, so + j, none⟩ = some (.int .u8 ((b0 :: t).getD j 0))) (hr : ∀ j, 0 ≤ (b0 :: t).getD j 0 ∧ (b0 :: t).getD j 0 ≤ 255) (q : Rq) (hq : q = rdQ (b0 :: t)) :
    Calls Tryz.prog 67 #[.slice (some ⟨g, so, none⟩) (b0 :: t).length cap] w fun e w' => e = .returned (.tuple #[.agg #[.int .u8 q.op, .int .u8 q.k0, .int .u8 q.k1, .int .u8 q.k2, .int .u8 q.k3, .int .u8 q.k4, .int .u8 q.k5, .int .u8 q.k6, .int .u8 q.k7, .int .u8 q.kd, .int .u64 q.x, .int .u64 q.y, .int .u64 q.n], .int .i64 (rdN (b0 :: t)), errV (rdErr (b0 :: t))]) ∧ Below w.heap.size w w' := by
  have c0 : w.cell? ⟨g, so, none⟩ = some (.int .u8 b0) := hc 0 (by simp)
  have r0 : 0 ≤ b0 ∧ b0 ≤ 255 := hr 0
  by_cases hlo : b0 < 1
  · have e1 : rdErr (b0 :: t) = 2 := by simp [rdErr, hlo]
    have e2 : rdQ (b0 :: t) = Rq.zero := by simp [rdQ, e1]
    have e3 : rdN (b0 :: t) = 0 := by simp [rdN, e1]
    subst hq
    rw [e1, e2, e3]
    refine read26_err _ 2 w ?_
    intro w1 hB
    refine body_frame 1 26 62 _ w1 ?_
    intro w2 hB2
    have hB3 := hB.trans (hB2.mono hB.size)
    exact begin1 g so _ cap b0 w2 (by simp) (Nat.lt_of_lt_of_le hg hB3.size) ((hB3.cell (p := ⟨g, so, none⟩) hg).trans c0) hlo
  by_cases hhi : 26 < b0
  · have e1 : rdErr (b0 :: t) = 2 := by simp [rdErr, hhi]
    have e2 : rdQ (b0 :: t) = Rq.zero := by simp [rdQ, e1]
    have e3 : rdN (b0 :: t) = 0 := by simp [rdN, e1]
    subst hq
    rw [e1, e2, e3]
    refine read26_err _ 2 w ?_
    intro w1 hB
    refine body_frame 1 26 62 _ w1 ?_
    intro w2 hB2
    have hB3 := hB.trans (hB2.mono hB.size)
    exact begin2 g so _ cap b0 w2 (by simp) (Nat.lt_of_lt_of_le hg hB3.size) ((hB3.cell (p := ⟨g, so, none⟩) hg).trans c0) hlo hhi
  have hor : ¬ (b0 < 1 ∨ 26 < b0) := by omega
  cases t with
  | nil =>
    have e1 : rdErr [b0] = 1 := by simp [rdErr, hor]
    have e2 : rdQ [b0] = Rq.zero := by simp [rdQ, e1]
    have e3 : rdN [b0] = 0 := by simp [rdN, e1]
    subst hq
    rw [e1, e2, e3]
    refine read26_err _ 1 w ?_
    intro w1 hB
    refine body_short 1 26 62 _ w1 ?_
    intro w2 hB2
    have hB3 := hB.trans (hB2.mono hB.size)
    exact begin3 g so _ cap b0 w2 (by simp) (Nat.lt_of_lt_of_le hg hB3.size) ((hB3.cell (p := ⟨g, so, none⟩) hg).trans c0) hlo hhi (by simp)
  | cons b1 t =>
    have c1 : w.cell? ⟨g, so + 1, none⟩ = some (.int .u8 b1) := hc 1 (by simp)
    by_cases heq : b0 = reqLen b1
    · by_cases hle : (((b0 :: b1 :: t).length : Nat) : Int) ≤ b0
      · have e1 : rdErr (b0 :: b1 :: t) = 1 := by simp only [rdErr]; rw [if_neg hor, if_pos heq, if_pos hle]
        have e2 : rdQ (b0 :: b1 :: t) = Rq.zero := by simp [rdQ, e1]
        have e3 : rdN (b0 :: b1 :: t) = 0 := by simp [rdN, e1]
        subst hq
        rw [e1, e2, e3]
        refine read26_err _ 1 w ?_
        intro w1 hB
        refine body_short2 1 26 62 g so _ cap b0 w1 (by simp) r0.1 r0.2 (Nat.lt_of_lt_of_le hg hB.size) ((hB.cell (p := ⟨g, so, none⟩) hg).trans c0) hle ?_
        intro w2 hB2
        have hB3 := hB.trans (hB2.mono hB.size)
        refine (begin4 g so _ cap b0 b1 w2 (by simp) (Nat.lt_of_lt_of_le hg hB3.size) ((hB3.cell (p := ⟨g, so, none⟩) hg).trans c0) ((hB3.cell (p := ⟨g, so + 1, none⟩) hg).trans c1) hlo hhi).mono ?_
        rintro e w3 ⟨rfl, hb⟩
        exact ⟨by rw [if_pos heq], hb⟩
      · have e1 : rdErr (b0 :: b1 :: t) = 0 := by simp only [rdErr]; rw [if_neg hor, if_pos heq, if_neg hle]
        have e3 : rdN (b0 :: b1 :: t) = b0 + 1 := by simp [rdN, e1]
        have eV : errV 0 = .nilIface := rfl
        rw [e1, e3, eV]
        have hcj : ∀ j, j ≤ b0.toNat → w.cell? ⟨g, so + j, none⟩ = some (.int .u8 ((b0 :: b1 :: t).getD j 0)) := fun j hj => hc j (by omega)
        by_cases h1 : b1 = 1
        · subst h1
          obtain rfl : b0 = 26 := heq
          have e2 : q = _ := hq.trans (rdQ_1 _ e1 rfl)
          subst e2
          exact rreq1 g so _ cap _ _ _ _ _ _ _ _ w (by omega) hcap hlen hg c0 c1 (hcj 2 (by decide)) (hcj 3 (by decide)) (hcj 4 (by decide)) (hcj 5 (by decide)) (hcj 6 (by decide)) (hcj 7 (by decide)) (hcj 8 (by decide)) (hcj 9 (by decide)) _ (hcj 10 (by decide)) _ _ (fun j hj => by rw [Nat.add_assoc]; exact hcj (11 + j) (by show _ ≤ 26; omega)) (fun j => hr (11 + j)) (fun j hj => by rw [Nat.add_assoc]; exact hcj (19 + j) (by show _ ≤ 26; omega)) (fun j => hr (19 + j))
        by_cases h2 : b1 = 2
        · subst h2
          obtain rfl : b0 = 17 := heq
          have e2 : q = _ := hq.trans (rdQ_2 _ e1 rfl)
          subst e2
          exact rreq2 g so _ cap _ _ _ _ _ _ _ _ w (by omega) hcap hlen hg c0 c1 (hcj 2 (by decide)) (hcj 3 (by decide)) (hcj 4 (by decide)) (hcj 5 (by decide)) (hcj 6 (by decide)) (hcj 7 (by decide)) (hcj 8 (by decide)) (hcj 9 (by decide)) _ (fun j hj => by rw [Nat.add_assoc]; exact hcj (10 + j) (by show _ ≤ 17; omega)) (fun j => hr (10 + j))
        by_cases h3 : b1 = 3
        · subst h3
          obtain rfl : b0 = 9 := heq
          have e2 : q = _ := hq.trans (rdQ_3 _ e1 (Or.inl rfl))
          subst e2
          exact rreq3 g so _ cap _ _ _ _ _ _ _ _ w (by omega) hcap hlen hg c0 c1 (hcj 2 (by decide)) (hcj 3 (by decide)) (hcj 4 (by decide)) (hcj 5 (by decide)) (hcj 6 (by decide)) (hcj 7 (by decide)) (hcj 8 (by decide)) (hcj 9 (by decide))
        by_cases h4 : b1 = 4
        · subst h4
          obtain rfl : b0 = 9 := heq
          have e2 : q = _ := hq.trans (rdQ_3 _ e1 (Or.inr rfl))
          subst e2
          exact rreq4 g so _ cap _ _ _ _ _ _ _ _ w (by omega) hcap hlen hg c0 c1 (hcj 2 (by decide)) (hcj 3 (by decide)) (hcj 4 (by decide)) (hcj 5 (by decide)) (hcj 6 (by decide)) (hcj 7 (by decide)) (hcj 8 (by decide)) (hcj 9 (by decide))
        by_cases h5 : b1 = 5
        · subst h5
          obtain rfl : b0 = 1 := heq
          have e2 : q = _ := hq.trans (rdQ_5 _ e1 (Or.inl rfl))
          subst e2
          exact rreq5 g so _ cap w (by omega) hcap hlen hg c0 c1
        by_cases h6 : b1 = 6
        · subst h6
          obtain rfl : b0 = 1 := heq
          have e2 : q = _ := hq.trans (rdQ_5 _ e1 (Or.inr rfl))
          subst e2
          exact rreq6 g so _ cap w (by omega) hcap hlen hg c0 c1
        exact absurd heq (by simp [reqLen, h1, h2, h3, h4, h5, h6]; omega)
    · have e1 : rdErr (b0 :: b1 :: t) = 2 := by simp only [rdErr]; rw [if_neg hor, if_neg heq]
      have e2 : rdQ (b0 :: b1 :: t) = Rq.zero := by simp [rdQ, e1]
      have e3 : rdN (b0 :: b1 :: t) = 0 := by simp [rdN, e1]
      subst hq
      rw [e1, e2, e3]
      refine read26_err _ 2 w ?_
      intro w1 hB
      refine body_frame 1 26 62 _ w1 ?_
      intro w2 hB2
      have hB3 := hB.trans (hB2.mono hB.size)
      refine (begin4 g so _ cap b0 b1 w2 (by simp) (Nat.lt_of_lt_of_le hg hB3.size) ((hB3.cell (p := ⟨g, so, none⟩) hg).trans c0) ((hB3.cell (p := ⟨g, so + 1, none⟩) hg).trans c1) hlo hhi).mono ?_
      rintro e w3 ⟨rfl, hb⟩
      exact ⟨by rw [if_neg heq], hb⟩
end Go.Proofs.YtlamgpeiolfffaaGreatDoor

namespace Go.Proofs.YtlamgpeiolfffaaGreatDoor
open Go.RowKit
variable [dK] [iK]

theorem nb_range (v : Int) (j : Nat) : 0 ≤ nb v j ∧ nb v j ≤ 255 := by unfold nb; omega
theorem rd_be8 (v : Int) (h0 : 0 ≤ v) (h1 : v ≤ 18446744073709551615) : rdTo (fun j => (be8 v).getD j 0) 8 = v := by
  simp only [rdTo, be8, List.getD_cons_succ, List.getD_cons_zero, nb]
  omega

/-- The bytes of a request, of its numbers. -/
def Rq.encm (q : Rq) : List Int := encReq q.op q.k0 q.k1 q.k2 q.k3 q.k4 q.k5 q.k6 q.k7 q.kd q.x q.y q.n
structure Rq.okm (q : Rq) : Prop where
  op : 0 ≤ q.op ∧ q.op ≤ 255
  k0 : 0 ≤ q.k0 ∧ q.k0 ≤ 255
  k1 : 0 ≤ q.k1 ∧ q.k1 ≤ 255
  k2 : 0 ≤ q.k2 ∧ q.k2 ≤ 255
  k3 : 0 ≤ q.k3 ∧ q.k3 ≤ 255
  k4 : 0 ≤ q.k4 ∧ q.k4 ≤ 255
  k5 : 0 ≤ q.k5 ∧ q.k5 ≤ 255
  k6 : 0 ≤ q.k6 ∧ q.k6 ≤ 255
  k7 : 0 ≤ q.k7 ∧ q.k7 ≤ 255
  kd : 0 ≤ q.kd ∧ q.kd ≤ 255
  x : 0 ≤ q.x ∧ q.x ≤ 18446744073709551615
  y : 0 ≤ q.y ∧ q.y ≤ 18446744073709551615
  n : 0 ≤ q.n ∧ q.n ≤ 18446744073709551615

/-- What is read of a request's own bytes, whatever stands behind. -/
structure Back (q r : Rq) (bs t : List Int) : Prop where
  err : rdErr (bs ++ t) = 0
  n : rdN (bs ++ t) = bs.length
  op : r.op = q.op
  enc : r.encm = bs

theorem back1 (q : Rq) (h : q.okm) (t : List Int) (h1 : q.op = 1) : Back q (rdQ (q.encm ++ t)) q.encm t := by
  have e : q.encm = [26, 1, q.k0, q.k1, q.k2, q.k3, q.k4, q.k5, q.k6, q.k7, q.kd] ++ be8 q.x ++ be8 q.y := by unfold Rq.encm encReq; rw [if_pos h1]
  have eE : rdErr (q.encm ++ t) = 0 := by
    rw [e]; simp [rdErr, be8, reqLen]; omega
  have hx := rd_be8 q.x h.x.1 h.x.2
  have hy := rd_be8 q.y h.y.1 h.y.2
  have eQ := rdQ_1 (q.encm ++ t) eE (by rw [e]; rfl)
  have ex : num8 (q.encm ++ t) 11 = q.x := by rw [e]; exact hx
  have ey : num8 (q.encm ++ t) 19 = q.y := by rw [e]; exact hy
  rw [ex, ey] at eQ
  refine ⟨eE, ?_, ?_, ?_⟩
  · unfold rdN; rw [if_pos eE, e]; simp [be8]
  · rw [eQ, h1]
  · rw [eQ, e]; rfl

theorem back2 (q : Rq) (h : q.okm) (t : List Int) (h1 : q.op = 2) : Back q (rdQ (q.encm ++ t)) q.encm t := by
  have e : q.encm = [17, 2, q.k0, q.k1, q.k2, q.k3, q.k4, q.k5, q.k6, q.k7] ++ be8 q.n := by unfold Rq.encm encReq; rw [if_neg (by omega), if_pos h1]
  have eE : rdErr (q.encm ++ t) = 0 := by
    rw [e]; simp [rdErr, be8, reqLen]; omega
  have hx := rd_be8 q.n h.n.1 h.n.2
  have eQ := rdQ_2 (q.encm ++ t) eE (by rw [e]; rfl)
  have ex : num8 (q.encm ++ t) 10 = q.n := by rw [e]; exact hx
  rw [ex] at eQ
  refine ⟨eE, ?_, ?_, ?_⟩
  · unfold rdN; rw [if_pos eE, e]; simp [be8]
  · rw [eQ, h1]
  · rw [eQ, e]; rfl

theorem back3 (q : Rq) (t : List Int) (h1 : q.op = 3 ∨ q.op = 4) : Back q (rdQ (q.encm ++ t)) q.encm t := by
  have e : q.encm = [9, q.op, q.k0, q.k1, q.k2, q.k3, q.k4, q.k5, q.k6, q.k7] := by unfold Rq.encm encReq; rw [if_neg (by omega), if_neg (by omega), if_pos h1]
  have eE : rdErr (q.encm ++ t) = 0 := by
    rw [e]; rcases h1 with h1 | h1 <;> simp [rdErr, reqLen, h1] <;> omega
  have eQ := rdQ_3 (q.encm ++ t) eE (by rw [e]; exact h1)
  refine ⟨eE, ?_, ?_, ?_⟩
  · unfold rdN; rw [if_pos eE, e]; simp
  · rw [eQ, e]; rfl
  · rw [eQ, e]; unfold Rq.encm encReq; simp only [List.cons_append, List.getD_cons_succ, List.getD_cons_zero]; rw [if_neg (by omega), if_neg (by omega), if_pos h1]

theorem back5 (q : Rq) (t : List Int) (h1 : q.op = 5 ∨ q.op = 6) : Back q (rdQ (q.encm ++ t)) q.encm t := by
  have e : q.encm = [1, q.op] := by unfold Rq.encm encReq; rw [if_neg (by omega), if_neg (by omega), if_neg (by omega), if_pos h1]
  have eE : rdErr (q.encm ++ t) = 0 := by
    rw [e]; rcases h1 with h1 | h1 <;> simp [rdErr, reqLen, h1] <;> omega
  have eQ := rdQ_5 (q.encm ++ t) eE (by rw [e]; exact h1)
  refine ⟨eE, ?_, ?_, ?_⟩
  · unfold rdN; rw [if_pos eE, e]; simp
  · rw [eQ, e]; rfl
  · rw [eQ, e]; unfold Rq.encm encReq; simp only [List.cons_append, List.getD_cons_succ, List.getD_cons_zero]; rw [if_neg (by omega), if_neg (by omega), if_neg (by omega), if_pos h1]

theorem reqLen_cases (op : Int) (h : reqLen op ≠ 0) : op = 1 ∨ op = 2 ∨ (op = 3 ∨ op = 4) ∨ op = 5 ∨ op = 6 := by
  unfold reqLen at h
  repeat' split at h
  all_goals omega
theorem back (q : Rq) (h : q.okm) (t : List Int) (h1 : reqLen q.op ≠ 0) : Back q (rdQ (q.encm ++ t)) q.encm t := by
  rcases reqLen_cases q.op h1 with h1 | h1 | h1 | h1
  · exact back1 q h t h1
  · exact back2 q h t h1
  · exact back3 q t h1
  · exact back5 q t h1

theorem rdErr_short (b0 b1 : Int) (t : List Int) (hor : ¬ (b0 < 1 ∨ 26 < b0)) (heq : b0 = reqLen b1) (hle : (((b0 :: b1 :: t).length : Nat) : Int) ≤ b0) : rdErr (b0 :: b1 :: t) = 1 := by
  simp only [rdErr]; rw [if_neg hor, if_pos heq, if_pos hle]
/-- Of less than all of a frame nothing is read. -/
theorem short_of (q : Rq) (h1 : reqLen q.op ≠ 0) (j : Nat) (hj : j < q.encm.length) : rdErr (q.encm.take j) = 1 := by
  have hl := encReq_length q.op q.k0 q.k1 q.k2 q.k3 q.k4 q.k5 q.k6 q.k7 q.kd q.x q.y q.n
  rw [if_neg h1] at hl
  have hcons : ∃ t, q.encm = reqLen q.op :: q.op :: t := by
    unfold Rq.encm encReq reqLen
    rcases reqLen_cases q.op h1 with h | h | h | h
    · simp [h]
    · simp [h]
    · rcases h with h | h <;> simp [h]
    · rcases h with h | h <;> simp [h]
  obtain ⟨t, ht⟩ := hcons
  have hlen : ((q.encm.length : Nat) : Int) = reqLen q.op + 1 := hl
  have hb : 1 ≤ reqLen q.op ∧ reqLen q.op ≤ 26 := by
    rcases reqLen_cases q.op h1 with h | h | h | h
    · simp [h, reqLen]
    · simp [h, reqLen]
    · rcases h with h | h <;> simp [h, reqLen]
    · rcases h with h | h <;> simp [h, reqLen]
  have hor : ¬ (reqLen q.op < 1 ∨ 26 < reqLen q.op) := by omega
  match j, hj with
  | 0, _ => rfl
  | 1, _ => rw [ht]; simp only [List.take_succ_cons, List.take_zero, rdErr]; rw [if_neg hor]
  | j + 2, hj =>
    rw [ht] at hlen hj ⊢
    simp only [List.take_succ_cons]
    refine rdErr_short _ _ _ hor rfl ?_
    simp only [List.length_cons, List.length_take] at hlen hj ⊢
    omega
end Go.Proofs.YtlamgpeiolfffaaGreatDoor

namespace Go.Proofs.YtlamgpeiolfffaaGreatDoor
open Go.RowKit
variable [dK] [iK]

theorem cell_two_up' {w2 : World} {g : Nat} (o1 o2 : Obj) (j : Nat) (hg : g < w2.heap.size) : ((w2.alloc o1).alloc o2).cell? ⟨g, j, none⟩ = w2.cell? ⟨g, j, none⟩ := by
  rw [World.cell?_alloc_past _ _ _ (by simp; omega), World.cell?_alloc_past _ _ _ hg]

set_option maxRecDepth 100000 in
set_option maxHeartbeats 2000000 in
theorem rrep_ok (g n cap : Nat) (b : Nat → Int) (w : World) (hn : 18 ≤ n) (hnc : n ≤ cap) (hn1 : n ≤ 1048576) (hg : g < w.heap.size) (hb : ∀ j, j < n → w.cell? ⟨g, j, none⟩ = some (.int .u8 (b j))) (hr : ∀ j, 0 ≤ b j ∧ b j ≤ 255) (hb0 : b 0 = 17) (hb1 : repLen (b 1) = 17) :
    Calls Tryz.prog 88 #[.slice (some ⟨g, 0, none⟩) n cap] w fun e w' => e = .returned (.tuple #[.agg #[.int .u8 (b 1), .int .u64 (rdTo (fun j => b (2 + j)) 8), .int .u64 (rdTo (fun j => b (10 + j)) 8)], .int .i64 18, .nilIface]) ∧ Below w.heap.size w w' := by
  have HB := hide hb
  have HR := hide hr
  have H1 := hide hb1
  have c0 : w.cell? ⟨g, 0, none⟩ = some (.int .u8 17) := by rw [hb 0 (by omega), hb0]
  have c1 : w.cell? ⟨g, 1, none⟩ = some (.int .u8 (b 1)) := hb 1 (by omega)
  clear hb hr hb0 hb1
  go_enter Tryz.func88, Tryz.ntmps88
  go_wp2_with fail
  refine (replies_any _).mono ?_
  rintro e w1 ⟨rfl, hb1⟩
  have hB1 : Below w.heap.size w w1 := ((Below.refl _ w).alloc (Nat.le_refl _) _).trans (hb1.mono (by simp))
  have hs1 : w.heap.size < w1.heap.size := by have := hb1.size; simp at this; omega
  go_wp2_with fail
  refine (body_ok 17 17 129 g 0 n cap 17 w1 (by omega) hnc hn1 (by omega) (by omega) (by omega) ((hB1.cell (p := ⟨g, 0, none⟩) hg).trans c0) (fun w2 hB => by
    refine (rbegin4 g n cap 17 (b 1) w2 (by omega) (Nat.lt_of_lt_of_le (Nat.lt_trans hg hs1) hB.size) ((hB.cell (p := ⟨g, 0, none⟩) (Nat.lt_trans hg hs1)).trans ((hB1.cell (p := ⟨g, 0, none⟩) hg).trans c0)) ((hB.cell (p := ⟨g, 1, none⟩) (Nat.lt_trans hg hs1)).trans ((hB1.cell (p := ⟨g, 1, none⟩) hg).trans c1)) (by omega) (by omega)).mono ?_
    rintro e w3 ⟨rfl, hb⟩
    exact ⟨by rw [if_pos H1.out.symm], hb⟩)).mono ?_
  rintro e w2 ⟨rfl, hb2⟩
  have hB2 : Below w.heap.size w w2 := hB1.trans (hb2.mono (by omega))
  have hs2 : w.heap.size < w2.heap.size := by have := hb2.size; omega
  have hR : ∀ j, w2.cell? ⟨w.heap.size, j, none⟩ = (#[.int .u8 0, .int .u64 0, .int .u64 0] : Array Value)[j]? := fun j => (hb2.cell (p := ⟨w.heap.size, j, none⟩) hs1).trans ((hb1.cell (p := ⟨w.heap.size, j, none⟩) (by simp)).trans (cell_box w _ _ j))
  have hRf : ∀ j, w2.frozen? ⟨w.heap.size, j, none⟩ = false := fun j => (hb2.frozen (p := ⟨w.heap.size, j, none⟩) hs1).trans ((hb1.frozen (p := ⟨w.heap.size, j, none⟩) (by simp)).trans (by simp))
  clear hb1 hb2
  go_wp2_with fail
  have hg2 : g < w2.heap.size := by omega
  refine (small_more w2.heap.size g 1 17 (b 1) _ (by simp) (by simp) (by omega) (by omega) (by rw [World.cell?_alloc_lt _ _ ⟨g, 1, none⟩ hg2]; exact (hB2.cell (p := ⟨g, 1, none⟩) hg).trans c1)).mono ?_
  rintro e w3 ⟨rfl, rfl⟩
  go_wp2_with fail
  refine (number_any w2.heap.size g 2 16 (fun j => b (2 + j)) _ (by simp) (by simp) (by omega) (by omega) (fun j hj => by rw [cell_two_up' _ _ _ hg2]; exact (hB2.cell (p := ⟨g, 2 + j, none⟩) hg).trans (HB.out (2 + j) (by omega))) (fun j => HR.out (2 + j))).mono ?_
  rintro e w4 ⟨rfl, ao, rfl, hao⟩
  obtain rfl := hao (by omega)
  clear hao
  go_wp2_with fail
  refine (number_any w2.heap.size g 10 8 (fun j => b (10 + j)) _ (by simp) (by simp) (by omega) (by omega) (fun j hj => by rw [cell_two_up' _ _ _ hg2]; exact (hB2.cell (p := ⟨g, 10 + j, none⟩) hg).trans (HB.out (10 + j) (by omega))) (fun j => HR.out (10 + j))).mono ?_
  rintro e w5 ⟨rfl, ao, rfl, -⟩
  clear c0 c1
  have hne : ¬ w.heap.size = w2.heap.size := by omega
  have hne' : ¬ w2.heap.size = w.heap.size := by omega
  go_wp2
  have hs2' : w.heap.size < w2.heap.size + 1 := by omega
  refine bodyPost_ret (v := .tuple #[.agg #[.int .u8 (b 1), .int .u64 (rdTo (fun j => b (2 + j)) 8), .int .u64 (rdTo (fun j => b (10 + j)) 8)], .int .i64 18, .nilIface]) (by simp [results, Tryz.results88, go_sem, hR, hs2, hs2']) rfl ⟨rfl, ?_⟩
  refine Below.alloc ?_ (by simp; omega) _
  refine Below.alloc ?_ (by simp; omega) _
  repeat (refine Below.setCell ?_ (by first | exact Nat.le_refl _ | (show _ ≤ w2.heap.size; omega)) _)
  exact hB2

set_option maxRecDepth 100000 in
set_option maxHeartbeats 1000000 in
theorem rrep_err (v : Value) (k : Int) (w : World)
    (hbody : Hid (∀ w1, Below w.heap.size w w1 → Calls Tryz.prog 98 #[.agg #[.int .u8 17, .int .u8 17, .func (.func 129) #[] #[]], v] w1 fun e w' => e = .returned (.tuple #[.slice none 0 0, .iface 46 (.int .i64 k)]) ∧ Below w1.heap.size w1 w')) :
    Calls Tryz.prog 88 #[v] w fun e w' => e = .returned (.tuple #[.agg #[.int .u8 0, .int .u64 0, .int .u64 0], .int .i64 0, .iface 46 (.int .i64 k)]) ∧ Below w.heap.size w w' := by
  go_enter Tryz.func88, Tryz.ntmps88
  go_wp2_with fail
  refine (replies_any _).mono ?_
  rintro e w1 ⟨rfl, hb1⟩
  have hB1 : Below w.heap.size w w1 := ((Below.refl _ w).alloc (Nat.le_refl _) _).trans (hb1.mono (by simp))
  have hs1 : w.heap.size < w1.heap.size := by have := hb1.size; simp at this; omega
  go_wp2_with fail
  refine (hbody.out w1 hB1).mono ?_
  rintro e w2 ⟨rfl, hb2⟩
  have hB2 : Below w.heap.size w w2 := hB1.trans (hb2.mono (by omega))
  have hR : ∀ j, w2.cell? ⟨w.heap.size, j, none⟩ = (#[.int .u8 0, .int .u64 0, .int .u64 0] : Array Value)[j]? := fun j => (hb2.cell (p := ⟨w.heap.size, j, none⟩) hs1).trans ((hb1.cell (p := ⟨w.heap.size, j, none⟩) (by simp)).trans (cell_box w _ _ j))
  have hRf : ∀ j, w2.frozen? ⟨w.heap.size, j, none⟩ = false := fun j => (hb2.frozen (p := ⟨w.heap.size, j, none⟩) hs1).trans ((hb1.frozen (p := ⟨w.heap.size, j, none⟩) (by simp)).trans (by simp))
  clear hb1 hb2
  go_wp2
  refine bodyPost_ret (v := .tuple #[.agg #[.int .u8 0, .int .u64 0, .int .u64 0], .int .i64 0, .iface 46 (.int .i64 k)]) (by simp [results, Tryz.results88, go_sem, hR]) rfl ⟨rfl, ?_⟩
  repeat (refine Below.setCell ?_ (by first | exact Nat.le_refl _ | (show _ ≤ w2.heap.size; omega)) _)
  exact hB2

/-- What is wrong with bytes, read as a reply (P4). -/
def rpErr (bs : List Int) : Int :=
  match bs with
  | [] => 1
  | b0 :: t => if b0 < 17 ∨ 17 < b0 then 2 else
    match t with
    | [] => 1
    | b1 :: _ => if b0 = repLen b1 then (if (bs.length : Int) ≤ b0 then 1 else 0) else 2
def rpN (bs : List Int) : Int := if rpErr bs = 0 then 18 else 0
def rpQ (bs : List Int) : Rp := if rpErr bs = 0 then ⟨bs.getD 1 0, num8 bs 2, num8 bs 10⟩ else ⟨0, 0, 0⟩

theorem read29_nil (ao : Option Addr) (cap : Nat) (w : World) :
    Calls Tryz.prog 88 #[.slice ao 0 cap] w fun e w' => e = .returned (.tuple #[.agg #[.int .u8 0, .int .u64 0, .int .u64 0], .int .i64 0, .iface 46 (.int .i64 1)]) ∧ Below w.heap.size w w' := by
  refine rrep_err _ 1 w ?_
  intro w1 _
  refine body_short 17 17 129 _ w1 ?_
  intro w2 _
  exact rbegin0 ao cap w2

theorem read29_bs (g cap n : Nat) (bs : List Int) (w : World) (hnl : bs.length = n) (hnp : 0 < n) (hcap : n ≤ cap) (hlen : n ≤ 1048576) (hg : g < w.heap.size)
    (hc : ∀ j, j < n → w.cell? ⟨g, j, none⟩ = some (.int .u8 (bs.getD j 0))) (hr : ∀ j, 0 ≤ bs.getD j 0 ∧ bs.getD j 0 ≤ 255) (r : Rp) (hq : r = rpQ bs) (m er : Int) (hm : m = rpN bs) (her : er = rpErr bs) :
    Calls Tryz.prog 88 #[.slice (some ⟨g, 0, none⟩) n cap] w fun e w' => e = .returned (.tuple #[.agg #[.int .u8 r.c, .int .u64 r.a, .int .u64 r.b], .int .i64 m, errV er]) ∧ Below w.heap.size w w' := by
  subst hq hm her
  have bad : ∀ k, rpErr bs = k → k ≠ 0 → (Hid (∀ w1, Below w.heap.size w w1 → Calls Tryz.prog 98 #[.agg #[.int .u8 17, .int .u8 17, .func (.func 129) #[] #[]], .slice (some ⟨g, 0, none⟩) n cap] w1 fun e w' => e = .returned (.tuple #[.slice none 0 0, .iface 46 (.int .i64 k)]) ∧ Below w1.heap.size w1 w')) →
      Calls Tryz.prog 88 #[.slice (some ⟨g, 0, none⟩) n cap] w fun e w' => e = .returned (.tuple #[.agg #[.int .u8 (rpQ bs).c, .int .u64 (rpQ bs).a, .int .u64 (rpQ bs).b], .int .i64 (rpN bs), errV (rpErr bs)]) ∧ Below w.heap.size w w' := by
    intro k hk hk0 hbody
    have e0 : ¬ rpErr bs = 0 := by omega
    have e2 : rpQ bs = ⟨0, 0, 0⟩ := by unfold rpQ; rw [if_neg e0]
    have e3 : rpN bs = 0 := by unfold rpN; rw [if_neg e0]
    have e4 : errV (rpErr bs) = .iface 46 (.int .i64 k) := by rw [hk]; unfold errV; rw [if_neg hk0]
    rw [e2, e3, e4]
    exact rrep_err _ k w hbody
  cases bs with
  | nil => simp at hnl; omega
  | cons b0 t =>
    have c0 : w.cell? ⟨g, 0, none⟩ = some (.int .u8 b0) := hc 0 hnp
    have r0 : 0 ≤ b0 ∧ b0 ≤ 255 := hr 0
    by_cases hlo : b0 < 17
    · refine bad 2 (by simp [rpErr, hlo]) (by omega) ?_
      intro w1 hB
      refine body_frame 17 17 129 _ w1 ?_
      intro w2 hB2
      have hB3 := hB.trans (hB2.mono hB.size)
      exact rbegin1 g _ cap b0 w2 hnp (Nat.lt_of_lt_of_le hg hB3.size) ((hB3.cell (p := ⟨g, 0, none⟩) hg).trans c0) hlo
    by_cases hhi : 17 < b0
    · refine bad 2 (by simp [rpErr, hhi]) (by omega) ?_
      intro w1 hB
      refine body_frame 17 17 129 _ w1 ?_
      intro w2 hB2
      have hB3 := hB.trans (hB2.mono hB.size)
      exact rbegin2 g _ cap b0 w2 hnp (Nat.lt_of_lt_of_le hg hB3.size) ((hB3.cell (p := ⟨g, 0, none⟩) hg).trans c0) hlo hhi
    have hor : ¬ (b0 < 17 ∨ 17 < b0) := by omega
    cases t with
    | nil =>
      have h1 : n = 1 := by simpa using hnl.symm
      refine bad 1 (by simp [rpErr, hor]) (by omega) ?_
      intro w1 hB
      refine body_short 17 17 129 _ w1 ?_
      intro w2 hB2
      have hB3 := hB.trans (hB2.mono hB.size)
      exact rbegin3 g _ cap b0 w2 hnp (Nat.lt_of_lt_of_le hg hB3.size) ((hB3.cell (p := ⟨g, 0, none⟩) hg).trans c0) hlo hhi (by simp [h1])
    | cons b1 t =>
      have hn2 : 1 < n := by rw [← hnl]; simp
      have c1 : w.cell? ⟨g, 1, none⟩ = some (.int .u8 b1) := hc 1 hn2
      by_cases heq : b0 = repLen b1
      · by_cases hle : (n : Int) ≤ b0
        · refine bad 1 (by simp only [rpErr]; rw [if_neg hor, if_pos heq, if_pos (by rw [hnl]; exact hle)]) (by omega) ?_
          intro w1 hB
          refine body_short2 17 17 129 g 0 _ cap b0 w1 hnp r0.1 r0.2 (Nat.lt_of_lt_of_le hg hB.size) ((hB.cell (p := ⟨g, 0, none⟩) hg).trans c0) hle ?_
          intro w2 hB2
          have hB3 := hB.trans (hB2.mono hB.size)
          refine (rbegin4 g _ cap b0 b1 w2 hn2 (Nat.lt_of_lt_of_le hg hB3.size) ((hB3.cell (p := ⟨g, 0, none⟩) hg).trans c0) ((hB3.cell (p := ⟨g, 1, none⟩) hg).trans c1) hlo hhi).mono ?_
          rintro e w3 ⟨rfl, hb⟩
          exact ⟨by rw [if_pos heq], hb⟩
        · have e1 : rpErr (b0 :: b1 :: t) = 0 := by simp only [rpErr]; rw [if_neg hor, if_pos heq, if_neg (by rw [hnl]; exact hle)]
          have e2 : rpQ (b0 :: b1 :: t) = ⟨b1, num8 (b0 :: b1 :: t) 2, num8 (b0 :: b1 :: t) 10⟩ := by unfold rpQ; rw [if_pos e1]; rfl
          have e3 : rpN (b0 :: b1 :: t) = 18 := by unfold rpN; rw [if_pos e1]
          have h17 : b0 = 17 := by omega
          rw [e1, e2, e3]
          exact rrep_ok g n cap (fun j => (b0 :: b1 :: t).getD j 0) w (by omega) hcap hlen hg hc hr h17 (by show repLen b1 = 17; omega)
      · refine bad 2 (by simp only [rpErr]; rw [if_neg hor, if_neg heq]) (by omega) ?_
        intro w1 hB
        refine body_frame 17 17 129 _ w1 ?_
        intro w2 hB2
        have hB3 := hB.trans (hB2.mono hB.size)
        refine (rbegin4 g _ cap b0 b1 w2 hn2 (Nat.lt_of_lt_of_le hg hB3.size) ((hB3.cell (p := ⟨g, 0, none⟩) hg).trans c0) ((hB3.cell (p := ⟨g, 1, none⟩) hg).trans c1) hlo hhi).mono ?_
        rintro e w3 ⟨rfl, hb⟩
        exact ⟨by rw [if_neg heq], hb⟩
end Go.Proofs.YtlamgpeiolfffaaGreatDoor

namespace Go.Proofs.YtlamgpeiolfffaaGreatDoor
open Go.RowKit
variable [dK] [iK]

set_option maxRecDepth 100000 in
set_option maxHeartbeats 1000000 in
theorem rr18_nil (ao : Option Addr) (cap : Nat) (w : World)  :
    Calls Tryz.prog 52 #[.slice ao 0 cap] w fun e w' => e = .returned (.tuple #[.agg #[.int .u8 0, .int .u64 0, .int .u64 0], .int .i64 0, .int .i64 1]) ∧ Below w.heap.size w w' := by
  go_enter Tryz.func52, Tryz.ntmps52
  go_wp2
  refine bodyPost_ret (v := .tuple #[.agg #[.int .u8 0, .int .u64 0, .int .u64 0], .int .i64 0, .int .i64 1]) (by simp [results, Tryz.results52, go_sem]) rfl ⟨rfl, ?_⟩
  exact (Below.refl _ w).alloc (Nat.le_refl _) _

set_option maxRecDepth 100000 in
set_option maxHeartbeats 1000000 in
theorem rr18_head (g so n cap : Nat) (b0 : Int) (w : World) (hn : 0 < n) (hg : g < w.heap.size) (hc0 : w.cell? ⟨g, so, none⟩ = some (.int .u8 b0)) (h0 : ¬ b0 = 17) :
    Calls Tryz.prog 52 #[.slice (some ⟨g, so, none⟩) n cap] w fun e w' => e = .returned (.tuple #[.agg #[.int .u8 0, .int .u64 0, .int .u64 0], .int .i64 0, .int .i64 2]) ∧ Below w.heap.size w w' := by
  have hn0 : (0 : Int) < n := by omega
  have hnd : decide ((0 : Int) < n) = true := by simpa using hn0
  have hc0' : ∀ o1, (w.alloc o1).cell? ⟨g, so, none⟩ = some (.int .u8 b0) := fun o1 => by rw [World.cell?_alloc_past _ _ _ hg]; exact hc0
  have hz : (b0 != 17) = true := by simpa using h0
  go_enter Tryz.func52, Tryz.ntmps52
  go_wp2
  refine bodyPost_ret (v := .tuple #[.agg #[.int .u8 0, .int .u64 0, .int .u64 0], .int .i64 0, .int .i64 2]) (by simp [results, Tryz.results52, go_sem]) rfl ⟨rfl, ?_⟩
  exact (Below.refl _ w).alloc (Nat.le_refl _) _

set_option maxRecDepth 100000 in
set_option maxHeartbeats 1000000 in
theorem rr18_one (g so n cap : Nat) (b0 : Int) (w : World) (hn : 0 < n) (hg : g < w.heap.size) (hc0 : w.cell? ⟨g, so, none⟩ = some (.int .u8 b0)) (h0 : b0 = 17) (hn1 : n = 1) :
    Calls Tryz.prog 52 #[.slice (some ⟨g, so, none⟩) n cap] w fun e w' => e = .returned (.tuple #[.agg #[.int .u8 0, .int .u64 0, .int .u64 0], .int .i64 0, .int .i64 1]) ∧ Below w.heap.size w w' := by
  have hn0 : (0 : Int) < n := by omega
  have hnd : decide ((0 : Int) < n) = true := by simpa using hn0
  have hc0' : ∀ o1, (w.alloc o1).cell? ⟨g, so, none⟩ = some (.int .u8 b0) := fun o1 => by rw [World.cell?_alloc_past _ _ _ hg]; exact hc0
  subst h0
  have _ := hn
  have hn2 : decide ((1 : Int) < n) = false := by simp; omega
  have hlt : decide ((n : Int) < 18) = true := by simp; omega
  go_enter Tryz.func52, Tryz.ntmps52
  go_wp2
  refine bodyPost_ret (v := .tuple #[.agg #[.int .u8 0, .int .u64 0, .int .u64 0], .int .i64 0, .int .i64 1]) (by simp [results, Tryz.results52, go_sem]) rfl ⟨rfl, ?_⟩
  exact (Below.refl _ w).alloc (Nat.le_refl _) _

set_option maxRecDepth 100000 in
set_option maxHeartbeats 1000000 in
theorem rr18_low (g so n cap : Nat) (b0 : Int) (w : World) (hn : 0 < n) (hg : g < w.heap.size) (hc0 : w.cell? ⟨g, so, none⟩ = some (.int .u8 b0)) (h0 : b0 = 17) (hn1 : 1 < n) (b1 : Int) (hc1 : w.cell? ⟨g, so + 1, none⟩ = some (.int .u8 b1)) (hlo : b1 < 1) :
    Calls Tryz.prog 52 #[.slice (some ⟨g, so, none⟩) n cap] w fun e w' => e = .returned (.tuple #[.agg #[.int .u8 0, .int .u64 0, .int .u64 0], .int .i64 0, .int .i64 2]) ∧ Below w.heap.size w w' := by
  have hn0 : (0 : Int) < n := by omega
  have hnd : decide ((0 : Int) < n) = true := by simpa using hn0
  have hc0' : ∀ o1, (w.alloc o1).cell? ⟨g, so, none⟩ = some (.int .u8 b0) := fun o1 => by rw [World.cell?_alloc_past _ _ _ hg]; exact hc0
  subst h0
  have hn2 : decide ((1 : Int) < n) = true := by simp; omega
  have hnI : (1 : Int) < n := by omega
  have hc1' : ∀ o1, (w.alloc o1).cell? ⟨g, so + 1, none⟩ = some (.int .u8 b1) := fun o1 => by rw [World.cell?_alloc_past _ _ _ hg]; exact hc1
  have hd1 : decide (b1 < 1) = true := by simpa using hlo
  go_enter Tryz.func52, Tryz.ntmps52
  go_wp2
  refine bodyPost_ret (v := .tuple #[.agg #[.int .u8 0, .int .u64 0, .int .u64 0], .int .i64 0, .int .i64 2]) (by simp [results, Tryz.results52, go_sem]) rfl ⟨rfl, ?_⟩
  exact (Below.refl _ w).alloc (Nat.le_refl _) _

set_option maxRecDepth 100000 in
set_option maxHeartbeats 1000000 in
theorem rr18_high (g so n cap : Nat) (b0 : Int) (w : World) (hn : 0 < n) (hg : g < w.heap.size) (hc0 : w.cell? ⟨g, so, none⟩ = some (.int .u8 b0)) (h0 : b0 = 17) (hn1 : 1 < n) (b1 : Int) (hc1 : w.cell? ⟨g, so + 1, none⟩ = some (.int .u8 b1)) (hlo : ¬ b1 < 1) (hhi : 9 < b1) :
    Calls Tryz.prog 52 #[.slice (some ⟨g, so, none⟩) n cap] w fun e w' => e = .returned (.tuple #[.agg #[.int .u8 0, .int .u64 0, .int .u64 0], .int .i64 0, .int .i64 2]) ∧ Below w.heap.size w w' := by
  have hn0 : (0 : Int) < n := by omega
  have hnd : decide ((0 : Int) < n) = true := by simpa using hn0
  have hc0' : ∀ o1, (w.alloc o1).cell? ⟨g, so, none⟩ = some (.int .u8 b0) := fun o1 => by rw [World.cell?_alloc_past _ _ _ hg]; exact hc0
  subst h0
  have hn2 : decide ((1 : Int) < n) = true := by simp; omega
  have hnI : (1 : Int) < n := by omega
  have hc1' : ∀ o1, (w.alloc o1).cell? ⟨g, so + 1, none⟩ = some (.int .u8 b1) := fun o1 => by rw [World.cell?_alloc_past _ _ _ hg]; exact hc1
  have hd1 : decide (b1 < 1) = false := by simpa using hlo
  have hd2 : decide (9 < b1) = true := by simpa using hhi
  go_enter Tryz.func52, Tryz.ntmps52
  go_wp2
  refine bodyPost_ret (v := .tuple #[.agg #[.int .u8 0, .int .u64 0, .int .u64 0], .int .i64 0, .int .i64 2]) (by simp [results, Tryz.results52, go_sem]) rfl ⟨rfl, ?_⟩
  exact (Below.refl _ w).alloc (Nat.le_refl _) _

set_option maxRecDepth 100000 in
set_option maxHeartbeats 1000000 in
theorem rr18_short (g so n cap : Nat) (b0 : Int) (w : World) (hn : 0 < n) (hg : g < w.heap.size) (hc0 : w.cell? ⟨g, so, none⟩ = some (.int .u8 b0)) (h0 : b0 = 17) (hn1 : 1 < n) (b1 : Int) (hc1 : w.cell? ⟨g, so + 1, none⟩ = some (.int .u8 b1)) (hlo : ¬ b1 < 1) (hhi : ¬ 9 < b1) (hs : n < 18) :
    Calls Tryz.prog 52 #[.slice (some ⟨g, so, none⟩) n cap] w fun e w' => e = .returned (.tuple #[.agg #[.int .u8 0, .int .u64 0, .int .u64 0], .int .i64 0, .int .i64 1]) ∧ Below w.heap.size w w' := by
  have hn0 : (0 : Int) < n := by omega
  have hnd : decide ((0 : Int) < n) = true := by simpa using hn0
  have hc0' : ∀ o1, (w.alloc o1).cell? ⟨g, so, none⟩ = some (.int .u8 b0) := fun o1 => by rw [World.cell?_alloc_past _ _ _ hg]; exact hc0
  subst h0
  have hn2 : decide ((1 : Int) < n) = true := by simp; omega
  have hnI : (1 : Int) < n := by omega
  have hc1' : ∀ o1, (w.alloc o1).cell? ⟨g, so + 1, none⟩ = some (.int .u8 b1) := fun o1 => by rw [World.cell?_alloc_past _ _ _ hg]; exact hc1
  have hd1 : decide (b1 < 1) = false := by simpa using hlo
  have hd2 : decide (9 < b1) = false := by simpa using hhi
  have hlt : decide ((n : Int) < 18) = true := by simp; omega
  go_enter Tryz.func52, Tryz.ntmps52
  go_wp2
  refine bodyPost_ret (v := .tuple #[.agg #[.int .u8 0, .int .u64 0, .int .u64 0], .int .i64 0, .int .i64 1]) (by simp [results, Tryz.results52, go_sem]) rfl ⟨rfl, ?_⟩
  exact (Below.refl _ w).alloc (Nat.le_refl _) _

set_option maxRecDepth 100000 in
set_option maxHeartbeats 1000000 in
theorem rr18_ok (g so n cap : Nat) (b : Nat → Int) (w : World) (hn : 18 ≤ n) (hnc : n ≤ cap) (hn1 : n ≤ 1048576) (hg : g < w.heap.size) (hb : ∀ j, j < n → w.cell? ⟨g, so + j, none⟩ = some (.int .u8 (b j))) (hr : ∀ j, 0 ≤ b j ∧ b j ≤ 255) (hb0 : b 0 = 17) (hlo : ¬ b 1 < 1) (hhi : ¬ 9 < b 1) :
    Calls Tryz.prog 52 #[.slice (some ⟨g, so, none⟩) n cap] w fun e w' => e = .returned (.tuple #[.agg #[.int .u8 (b 1), .int .u64 (rdTo (fun j => b (2 + j)) 8), .int .u64 (rdTo (fun j => b (10 + j)) 8)], .int .i64 18, .int .i64 0]) ∧ Below w.heap.size w w' := by
  have hn0 : (0 : Int) < n := by omega
  have hnd : decide ((0 : Int) < n) = true := by simpa using hn0
  have hn2 : decide ((1 : Int) < n) = true := by simp; omega
  have hnI : (1 : Int) < n := by omega
  have hnI2 : (2 : Int) ≤ n := by omega
  have hnI10 : (10 : Int) ≤ n := by omega
  have hncI : (n : Int) ≤ cap := by omega
  have hcap : ¬ cap = 2 := by omega
  have hcap2 : ¬ cap = 10 := by omega
  have hlt : decide ((n : Int) < 18) = false := by simp; omega
  have hd1 : decide (b 1 < 1) = false := by simpa using hlo
  have hd2 : decide (9 < b 1) = false := by simpa using hhi
  have hcj : ∀ o1 j, j < n → (w.alloc o1).cell? ⟨g, so + j, none⟩ = some (.int .u8 (b j)) := fun o1 j hj => by rw [World.cell?_alloc_past _ _ _ hg]; exact hb j hj
  have HC := hide hcj
  have HR := hide hr
  have hc0' : ∀ o1, (w.alloc o1).cell? ⟨g, so, none⟩ = some (.int .u8 17) := fun o1 => (hcj o1 0 (by omega)).trans (by rw [hb0])
  have hc1' : ∀ o1, (w.alloc o1).cell? ⟨g, so + 1, none⟩ = some (.int .u8 (b 1)) := fun o1 => hcj o1 1 (by omega)
  clear hb hr hcj hb0
  go_enter Tryz.func52, Tryz.ntmps52
  go_wp2_with fail
  refine (refread g (so + 2) (n - 2) (cap - 2) (fun j => b (2 + j)) _ (by omega) (by omega) (fun j hj => by rw [Nat.add_assoc]; exact HC.out _ (2 + j) (by omega)) (fun j => HR.out (2 + j))).mono ?_
  rintro e w' ⟨rfl, rfl⟩
  go_wp2_with fail
  refine (refread g (so + 10) (n - 10) (cap - 10) (fun j => b (10 + j)) _ (by omega) (by omega) (fun j hj => by rw [Nat.add_assoc]; exact HC.out _ (10 + j) (by omega)) (fun j => HR.out (10 + j))).mono ?_
  rintro e w' ⟨rfl, rfl⟩
  go_wp2
  refine bodyPost_ret (v := .tuple #[.agg #[.int .u8 (b 1), .int .u64 (rdTo (fun j => b (2 + j)) 8), .int .u64 (rdTo (fun j => b (10 + j)) 8)], .int .i64 18, .int .i64 0]) (by simp [results, Tryz.results52, go_sem]) rfl ⟨rfl, ?_⟩
  exact (Below.refl _ w).alloc (Nat.le_refl _) _
end Go.Proofs.YtlamgpeiolfffaaGreatDoor

namespace Go.Proofs.YtlamgpeiolfffaaGreatDoor
open Go.RowKit
variable [dK] [iK]

/-- plain.Told, of no error and of one. -/
theorem told_any (k : Int) (w : World) (hg : w.cell? ⟨0, 0, none⟩ = some (.iface 201 (.agg #[.pointer (some ⟨1, 88, none⟩)]))) :
    Calls Tryz.prog 31 #[errV k] w fun e w' => e = .returned (.int .i64 k) ∧ Below w.heap.size w w' := by
  by_cases h : k = 0
  · subst h; exact told_nil w
  · rw [errV, if_neg h]; exact told_err k w hg

theorem own_shape {w : World} {base : Nat} {v : Value} {n : Nat} {bs : List Int} (h : w.ownsRow base 5 1 v n (bs.map (Value.int .u8))) (hnp : 0 < n) (hn : bs.length = n) :
    ∃ g cap, v = .slice (some ⟨g, 0, none⟩) n cap ∧ base ≤ g ∧ g < w.heap.size ∧ n ≤ cap ∧ ∀ j, j < n → w.cell? ⟨g, j, none⟩ = some (.int .u8 (bs.getD j 0)) := by
  rcases h.2 with ⟨_, h0⟩ | ⟨g, cap, cur, hv, hb, hg, hnc, _⟩
  · omega
  · refine ⟨g, cap, hv, hb, (Array.getElem?_eq_some_iff.1 hg).1, hnc, fun j hj => ?_⟩
    subst hv
    rw [h.cellAt j (by omega)]
    simp [List.getD, List.getElem?_eq_getElem (show j < bs.length by omega)]

/-- A slice whose bytes are these. -/
def Src (w : World) (vb : Value) (bs : List Int) : Prop :=
  (bs = [] ∧ (vb = .slice none 0 0 ∨ ∃ sg so cap, vb = .slice (some ⟨sg, so, none⟩) 0 cap)) ∨
  (0 < bs.length ∧ ∃ sg so cap, vb = .slice (some ⟨sg, so, none⟩) bs.length cap ∧ sg < w.heap.size ∧ ∀ j u, (bs.map (Value.int .u8))[j]? = some u → w.cell? ⟨sg, so + j, none⟩ = some u)

end Go.Proofs.YtlamgpeiolfffaaGreatDoor

namespace Go.Proofs.YtlamgpeiolfffaaGreatDoor
open Go.RowKit
variable [dK] [iK]

set_option maxRecDepth 100000 in
set_option maxHeartbeats 1000000 in
theorem read25 (v ev : Value) (q : Rp) (m : Int) (w : World)
    (h26 : Hid (∀ w1, Below w.heap.size w w1 → Calls Tryz.prog 88 #[v] w1 fun e w' => e = .returned (.tuple #[.agg #[.int .u8 q.c, .int .u64 q.a, .int .u64 q.b], .int .i64 m, ev]) ∧ Below w1.heap.size w1 w')) :
    Calls Tryz.prog 61 #[v] w fun e w' => e = .returned (.tuple #[.agg #[.int .u8 q.c, .int .u64 q.a, .int .u64 q.b], .int .i64 m, ev]) ∧ Below w.heap.size w w' := by
  go_enter Tryz.func61, Tryz.ntmps61
  go_wp2_with fail
  refine (h26.out _ ((Below.refl _ w).alloc (Nat.le_refl _) _)).mono ?_
  rintro e w1 ⟨rfl, hb1⟩
  have hB1 : Below w.heap.size w w1 := ((Below.refl _ w).alloc (Nat.le_refl _) _).trans (hb1.mono (by simp))
  have hR : ∀ j, w1.cell? ⟨w.heap.size, j, none⟩ = (#[.int .u8 0, .int .u64 0, .int .u64 0] : Array Value)[j]? := fun j => (hb1.cell (p := ⟨w.heap.size, j, none⟩) (by simp)).trans (cell_box w _ _ j)
  have hRf : ∀ j, w1.frozen? ⟨w.heap.size, j, none⟩ = false := fun j => (hb1.frozen (p := ⟨w.heap.size, j, none⟩) (by simp)).trans (by simp)
  clear hb1
  go_wp2
  refine bodyPost_ret (v := .tuple #[.agg #[.int .u8 q.c, .int .u64 q.a, .int .u64 q.b], .int .i64 m, ev]) (by simp [results, Tryz.results61, go_sem, hR]) rfl ⟨rfl, ?_⟩
  repeat (refine Below.setCell ?_ (by first | exact Nat.le_refl _ | (show _ ≤ w1.heap.size; omega)) _)
  exact hB1

set_option maxRecDepth 100000 in
set_option maxHeartbeats 1000000 in
theorem read17_cons (sg so : Nat) (cap : Nat) (w : World) (bs : List Int) (n : Nat) (hn : bs.length = n) (hnp : 0 < n) (hlen : n ≤ 1048576) (q : Rp) (hq : q = rpQ bs) (m er : Int) (hm : m = rpN bs) (her : er = rpErr bs)
    (hc : ∀ j u, (bs.map (Value.int .u8))[j]? = some u → w.cell? ⟨sg, so + j, none⟩ = some u) (hadl : sg < w.heap.size) (hr : ∀ j, 0 ≤ bs.getD j 0 ∧ bs.getD j 0 ≤ 255)
    (hgl : w.cell? ⟨0, 0, none⟩ = some (.iface 201 (.agg #[.pointer (some ⟨1, 88, none⟩)]))) :
    Calls Tryz.prog 39 #[.slice (some ⟨sg, so, none⟩) n cap] w fun e w' => e = .returned (.tuple #[.agg #[.int .u8 q.c, .int .u64 q.a, .int .u64 q.b], .int .i64 m, .int .i64 er]) ∧ Below w.heap.size w w' := by
  obtain ⟨i0, hi, hz0, hz1, hz2⟩ := info_parts Tryz.info5
  have HQ := hide hq
  have HM := hide hm
  have HE := hide her
  have HN := hide hn
  have HR := hide hr
  have HC := hide hc
  clear hq hm her hr hn hc
  go_enter Tryz.func39, Tryz.ntmps39
  go_wp2_with (at_builtin; (refine wpList_append_own _ rfl _ _ 69 rfl (w.heap.size + 1) 5 i0 (.int .u8 0) 1 1 Tryz.underlying69 hi hz0 hz1 hz2 rfl (by decide) (.slice none 0 0) 0 [] rfl (World.ownsRow_nil _ _ _ _) ⟨sg, so, none⟩ n cap (bs.map (Value.int .u8)) rfl (by simpa using HN.out) (fun j u hj => by rw [Addr.add_lit, World.cell?_alloc_lt _ _ ⟨sg, so + j, none⟩ hadl]; exact HC.out j u hj) (ints_oneCell _ _) (by unfold maxLen; omega) (by omega) (by simp) ?_); intro own w1 hown1 hgrow1 hnil1)
  simp only [Nat.zero_add, List.nil_append] at hown1
  obtain ⟨g, c, hv, hgb, hgl1, hnc, hcells⟩ := own_shape hown1 hnp HN.out
  have HO := hide hown1
  have HCL := hide hcells
  clear hown1 hcells hnil1
  replace hgrow1 : (w.alloc (.cells #[.int .u8 0, .int .u64 0, .int .u64 0] 40)).grownBy w1 none := hgrow1
  subst hv
  have hs1 : w.heap.size + 1 ≤ w1.heap.size := by have := hgrow1.size; simp at this; omega
  have hB1 : Below w.heap.size w w1 := ((Below.refl _ w).alloc (Nat.le_refl _) _).grown hgrow1 (by simp) (by simp)
  have hR1 : ∀ j, w1.cell? ⟨w.heap.size, j, none⟩ = (#[.int .u8 0, .int .u64 0, .int .u64 0] : Array Value)[j]? := fun j => (World.cell?_of_block (w := w.alloc _) (hgrow1.block w.heap.size (by simp) (by simp))).trans (cell_box w _ _ j)
  have hRf1 : ∀ j, w1.frozen? ⟨w.heap.size, j, none⟩ = false := fun j => (World.frozen?_of_block (w := w.alloc _) (hgrow1.block w.heap.size (by simp) (by simp))).trans (by simp)
  clear hgrow1
  refine (read25 _ (errV er) q m w1 (fun w2 hB => read29_bs g c n bs w2 HN.out hnp hnc hlen (Nat.lt_of_lt_of_le hgl1 hB.size) (fun j hj => (hB.cell (p := ⟨g, j, none⟩) hgl1).trans (HCL.out j hj)) HR.out q HQ.out m er HM.out HE.out)).mono ?_
  rintro e w2 ⟨rfl, hb2⟩
  go_wp2
  have LS := Lp.start (qc := #[.int .u8 q.c, .int .u64 q.a, .int .u64 q.b]) 40 HO.out hb2 hgb hgl1 hR1 hRf1 hB1 hs1
  have hlt0 : 0 < w.heap.size := by
    rcases Nat.eq_zero_or_pos w.heap.size with h0 | h
    · simp [World.cell?, h0] at hgl
    · exact h
  have HG := hide hgl
  clear hgl HO HCL hR1 hRf1 hb2 hB1 HQ HM HE HN HR HC hgb hnc
  go_loopw [20] (fun i wr => ∃ j : Nat, j ≤ n ∧ i = .int .i64 j ∧ Lp w w2 wr g n c #[.int .u8 q.c, .int .u64 q.a, .int .u64 q.b] #[.int .u8 0, .int .u64 0, .int .u64 0]) (fun i _ => n - (intOf i).toNat)
  case atStart => exact ⟨0, Nat.zero_le _, rfl, LS⟩
  case round =>
    obtain ⟨j, hj, rfl, L⟩ := hrel
    clear LS
    by_cases hlt : j < n
    · obtain ⟨⟨u, hu⟩, hfz⟩ := L.cell j hlt
      go_wp2
      go_roundw
      case rel => exact ⟨j + 1, by omega, by go_num, L.step j _⟩
      case measure => simp [intOf]; omega
    · obtain rfl : j = n := by omega
      have hr4 := L.r
      have hR4 := L.R
      have hRf4 := L.Rf
      have hB4 := L.B
      have hz4 := L.sz
      have hg12 := L.g1
      have hg22 := L.g2
      have hgl4 : wr.cell? ⟨0, 0, none⟩ = some (.iface 201 (.agg #[.pointer (some ⟨1, 88, none⟩)])) := (hB4.cell (p := ⟨0, 0, none⟩) hlt0).trans HG.out
      clear L
      go_wp2_with fail
      go_region_with (go_at_call 31; refine (told_any er _ (by exact hgl4)).mono ?_; rintro e w3 ⟨rfl, hb3⟩; have hr5 := fun jj => (hb3.cell (p := ⟨w2.heap.size, jj, none⟩) (by exact hz4)).trans (hr4 jj); have hR5 := fun jj => (hb3.cell (p := ⟨w.heap.size, jj, none⟩) (show w.heap.size < _ from Nat.lt_trans (Nat.lt_trans hg12 hg22) hz4)).trans (hR4 jj); have hRf5 := fun jj => (hb3.frozen (p := ⟨w.heap.size, jj, none⟩) (show w.heap.size < _ from Nat.lt_trans (Nat.lt_trans hg12 hg22) hz4)).trans (hRf4 jj))
      all_goals
        go_wp2
        refine bodyPost_ret (v := .tuple #[.agg #[.int .u8 q.c, .int .u64 q.a, .int .u64 q.b], .int .i64 m, .int .i64 er]) (by simp [results, Tryz.results39, go_sem, hR5]) rfl ⟨rfl, ?_⟩
        repeat (refine Below.setCell ?_ (by first | exact Nat.le_refl _ | (show _ ≤ w2.heap.size; omega)) _)
        exact hB4.drew.trans (hb3.mono (show w.heap.size ≤ wr.heap.size by omega))

set_option maxRecDepth 100000 in
set_option maxHeartbeats 1000000 in
theorem read17_nil (vb : Value) (w : World) (hvb : vb = .slice none 0 0 ∨ ∃ sg so cap, vb = .slice (some ⟨sg, so, none⟩) 0 cap)
    (hgl : w.cell? ⟨0, 0, none⟩ = some (.iface 201 (.agg #[.pointer (some ⟨1, 88, none⟩)]))) :
    Calls Tryz.prog 39 #[vb] w fun e w' => e = .returned (.tuple #[.agg #[.int .u8 0, .int .u64 0, .int .u64 0], .int .i64 0, .int .i64 1]) ∧ Below w.heap.size w w' := by
  obtain ⟨i0, hi, hz0, hz1, hz2⟩ := info_parts Tryz.info5
  have hlt0 : 0 < w.heap.size := by
    rcases Nat.eq_zero_or_pos w.heap.size with h0 | h
    · simp [World.cell?, h0] at hgl
    · exact h
  rcases hvb with rfl | ⟨sg, so, cap, rfl⟩
  all_goals
    go_enter Tryz.func39, Tryz.ntmps39
    go_wp2_with fail
    have h19 : Calls Tryz.prog 61 #[.slice none 0 0] (w.alloc (.cells #[.int .u8 0, .int .u64 0, .int .u64 0] 40)) fun e w' => e = .returned (.tuple #[.agg #[.int .u8 0, .int .u64 0, .int .u64 0], .int .i64 0, .iface 46 (.int .i64 1)]) ∧ Below (w.alloc (.cells #[.int .u8 0, .int .u64 0, .int .u64 0] 40)).heap.size (w.alloc (.cells #[.int .u8 0, .int .u64 0, .int .u64 0] 40)) w' :=
      read25 (.slice none 0 0) (.iface 46 (.int .i64 1)) (⟨0, 0, 0⟩ : Rp) 0 _ (fun w2 _ => read29_nil none 0 w2)
    refine h19.mono ?_
    clear h19
    rintro e w2 ⟨rfl, hb2⟩
    have hs2 : w.heap.size < w2.heap.size := by have := hb2.size; simp at this; omega
    have hB2 : Below w.heap.size w w2 := ((Below.refl _ w).alloc (Nat.le_refl _) _).trans (hb2.mono (by simp))
    have hR2 : ∀ j, (w2.alloc (.cells #[.int .u8 0, .int .u64 0, .int .u64 0] 40)).cell? ⟨w.heap.size, j, none⟩ = (#[.int .u8 0, .int .u64 0, .int .u64 0] : Array Value)[j]? := fun j => (World.cell?_alloc_past _ _ _ hs2).trans ((hb2.cell (p := ⟨w.heap.size, j, none⟩) (by simp)).trans (cell_box w _ _ j))
    have hRf2 : ∀ j, (w2.alloc (.cells #[.int .u8 0, .int .u64 0, .int .u64 0] 40)).frozen? ⟨w.heap.size, j, none⟩ = false := fun j => (World.frozen?_alloc_past _ _ _ hs2).trans ((hb2.frozen (p := ⟨w.heap.size, j, none⟩) (by simp)).trans (by simp))
    have hgl2 : (w2.alloc (.cells #[.int .u8 0, .int .u64 0, .int .u64 0] 40)).cell? ⟨0, 0, none⟩ = some (.iface 201 (.agg #[.pointer (some ⟨1, 88, none⟩)])) := (World.cell?_alloc_past _ _ _ (by omega)).trans ((hB2.cell (p := ⟨0, 0, none⟩) hlt0).trans hgl)
    have hr2 : ∀ j, (w2.alloc (.cells #[.int .u8 0, .int .u64 0, .int .u64 0] 40)).cell? ⟨w2.heap.size, j, none⟩ = (#[.int .u8 0, .int .u64 0, .int .u64 0] : Array Value)[j]? := fun j => cell_box w2 _ _ j
    have hB3 := hB2.alloc (Nat.le_of_lt hs2) (.cells #[.int .u8 0, .int .u64 0, .int .u64 0] 40)
    clear hb2 hB2 hgl
    go_wp2
    refine wp_loop_rounds 1 ?_
    rw [rounds_succ]
    go_wp2
    go_region_with (go_at_call 31; refine (told_err 1 _ (by exact hgl2)).mono ?_; rintro e w3 ⟨rfl, hb3⟩; have hr5 := fun jj => (hb3.cell (p := ⟨w2.heap.size, jj, none⟩) (by simp)).trans (hr2 jj); have hR5 := fun jj => (hb3.cell (p := ⟨w.heap.size, jj, none⟩) (by simp; omega)).trans (hR2 jj); have hRf5 := fun jj => (hb3.frozen (p := ⟨w.heap.size, jj, none⟩) (by simp; omega)).trans (hRf2 jj))
    all_goals
      go_wp2
      refine bodyPost_ret (v := .tuple #[.agg #[.int .u8 0, .int .u64 0, .int .u64 0], .int .i64 0, .int .i64 1]) (by simp [results, Tryz.results39, go_sem, hR5]) rfl ⟨rfl, ?_⟩
      repeat (refine Below.setCell ?_ (by first | exact Nat.le_refl _ | (show _ ≤ w2.heap.size; omega)) _)
      exact hB3.drew.trans (hb3.mono (by simp; omega))

/-- plain.ReadReply, over whatever bytes. -/
theorem read17 (vb : Value) (bs : List Int) (w : World) (hs : Src w vb bs) (hlen : bs.length ≤ 1048576) (hr : ∀ j, 0 ≤ bs.getD j 0 ∧ bs.getD j 0 ≤ 255) (q : Rp) (hq : q = rpQ bs) (m er : Int) (hm : m = rpN bs) (her : er = rpErr bs)
    (hgl : w.cell? ⟨0, 0, none⟩ = some (.iface 201 (.agg #[.pointer (some ⟨1, 88, none⟩)]))) :
    Calls Tryz.prog 39 #[vb] w fun e w' => e = .returned (.tuple #[.agg #[.int .u8 q.c, .int .u64 q.a, .int .u64 q.b], .int .i64 m, .int .i64 er]) ∧ Below w.heap.size w w' := by
  rcases hs with ⟨rfl, hv⟩ | ⟨hp, sg, so, cap, rfl, hsg, hc⟩
  · subst hq hm her
    exact read17_nil vb w hv hgl
  · exact read17_cons sg so cap w bs bs.length rfl hp hlen q hq m er hm her hc hsg hr hgl
end Go.Proofs.YtlamgpeiolfffaaGreatDoor

namespace Go.Proofs.YtlamgpeiolfffaaGreatDoor
open Go.RowKit
variable [dK] [iK]

set_option maxRecDepth 100000 in
theorem grow_zero (w : World) : Calls Tryz.prog 70 #[.slice none 0 0, .int .i64 0] w fun e w' => e = .returned (.slice none 0 0) ∧ w' = w := by
  go_enter Tryz.func70, Tryz.ntmps70
  go_wp2
  go_ret
  exact ⟨rfl, rfl⟩

set_option maxRecDepth 100000 in
set_option maxHeartbeats 1000000 in
theorem grow_pos (n : Nat) (hn : 0 < n) (hn1 : n ≤ 4194304) (w : World) :
    Calls Tryz.prog 70 #[.slice none 0 0, .int .i64 n] w fun e w' => ∃ v, e = .returned v ∧ w'.ownsRow w.heap.size 5 1 v 0 [] ∧ Below w.heap.size w w' := by
  obtain ⟨i0, hi, hz0, hz1, hz2⟩ := info_parts Tryz.info5
  have hold : (Builtin.firstCells i0.size 0 (.slice none 0 0)).run Tryz.prog w.drew = .ok ([] : List Value).toArray w.drew := run_firstCells_none w.drew i0.size 0 0 0
  have hrz : ∀ ty, (Builtin.append_ #[69, 3] ty #[.slice none 0 0, .int .i64 n]).run Tryz.prog w =
      .ok (.slice (some ⟨w.heap.size, 0, none⟩) n (grownCap w n 0 5)) (w.drew.alloc (.cells (([] : List Value).toArray ++ Builtin.zeroCells (Value.int .u8 0).cells n ++ Builtin.zeroCells (Value.int .u8 0).cells (grownCap w n 0 5 - n)) 5)) := fun ty => by
    have h := Lib.run_append_grow_zeros (P := Tryz.prog) w 69 3 ty 5 i0 (.int .u8 0) .i64 .i64 Tryz.underlying69 Tryz.underlying3 hi hz0 none 0 0 [] hold n hn (by omega) (by omega) (by omega) (by rw [hz2]; omega)
      (by rw [Nat.zero_add]; exact growslice_fits (by omega) (by rw [hz2]; omega))
    rw [Nat.zero_add] at h
    exact h
  have hGn : n ≤ grownCap w n 0 5 := grownCap_ge w _ _ _
  have hGm := grownCap_le_maxLen w n 0 5 (by unfold maxLen; omega)
  obtain ⟨G, hG⟩ : ∃ G, G = grownCap w n 0 5 := ⟨_, rfl⟩
  rw [← hG] at hrz hGn hGm
  clear hold hG
  have hGm' : G ≤ 9223372036854775807 := by unfold maxLen at hGm; omega
  have h1 : ¬ ((n : Int) < 0) := by omega
  have h4 : (n : Int) > 0 := by omega
  go_enter Tryz.func70, Tryz.ntmps70
  go_wp2_with (at_builtin; refine Lib.wpList_append_run _ rfl _ _ _ _ rfl _ _ rfl rfl _ _ (hrz _) ?_)
  go_ret
  refine ⟨_, rfl, ⟨rfl, Or.inr ⟨w.heap.size, G, _, rfl, Nat.le_refl _, heapN (by simp), Nat.zero_le _, hGm, ?_, by simp⟩⟩, ((Below.refl _ w).drew).alloc (Nat.le_refl _) _⟩
  simp [Builtin.zeroCells]
  omega
end Go.Proofs.YtlamgpeiolfffaaGreatDoor

namespace Go.Proofs.YtlamgpeiolfffaaGreatDoor
open Go.RowKit
variable [dK] [iK]

theorem Src.shape {w : World} {v : Value} {bs : List Int} (h : Src w v bs) : ∃ a c, v = .slice a bs.length c := by
  rcases h with ⟨rfl, rfl | ⟨sg, so, cap, rfl⟩⟩ | ⟨_, sg, so, cap, rfl, _⟩
  · exact ⟨_, _, rfl⟩
  · exact ⟨_, _, rfl⟩
  · exact ⟨_, _, rfl⟩
theorem Src.kept {w w' : World} {v : Value} {bs : List Int} (h : Src w v bs) (hs : w.heap.size ≤ w'.heap.size) (hk : ∀ g o n c, v = .slice (some ⟨g, o, none⟩) n c → g < w.heap.size → w'.heap[g]? = w.heap[g]?) : Src w' v bs := by
  rcases h with h | ⟨h1, sg, so, cap, rfl, h2, h3⟩
  · exact Or.inl h
  · exact Or.inr ⟨h1, sg, so, cap, rfl, Nat.lt_of_lt_of_le h2 hs, fun j u hj => (World.cell?_of_block (w := w) (hk sg so _ _ rfl h2)).trans (h3 j u hj)⟩
theorem Src.below {w w' : World} {v : Value} {bs : List Int} {B : Nat} (h : Src w v bs) (hb : Below B w w') (hB : w.heap.size ≤ B) : Src w' v bs :=
  h.kept hb.size fun g _ _ _ _ hg => hb.block g (Nat.lt_of_lt_of_le hg hB)
theorem Src.of_own {w : World} {base : Nat} {v : Value} {n : Nat} {bs : List Int} (h : w.ownsRow base 5 1 v n (bs.map (Value.int .u8))) : Src w v bs := by
  have hn : bs.length = n := by simpa using h.1
  rcases h.2 with ⟨h1, h2⟩ | ⟨g, cap, cur, hv, hb, hg, hnc, _⟩
  · exact Or.inl ⟨List.length_eq_zero_iff.1 (hn.trans h2), Or.inl h1⟩
  · by_cases h0 : bs = []
    · subst h0
      simp at hn
      subst hn
      exact Or.inl ⟨rfl, Or.inr ⟨g, 0, cap, hv⟩⟩
    · have hp : 0 < bs.length := List.length_pos_iff.2 h0
      obtain ⟨g, cap, hv, _, hgl, _, hc⟩ := own_shape h (by omega) hn
      refine Or.inr ⟨hp, g, 0, cap, by rw [hv, hn], hgl, fun j u hj => ?_⟩
      have hjl : j < bs.length := by
        have := (List.getElem?_eq_some_iff.1 hj).1
        simpa using this
      rw [Nat.zero_add, hc j (by omega), ← hj]
      simp [List.getD, List.getElem?_eq_getElem hjl]

/-- append of bytes, from whatever slice. -/
theorem wpList_append_src {ops : Array Oper} {rest : List Oper} {o : Oper} {a : Act} {Q : Exit → Act → World → Prop} {w : World} (hgd : o.guard = none) (s x : Operand)
    (ho : o.op = .call { callee := .builtin .append, args := #[s, x], argTypes := #[69, 69] }) (base : Nat) (v : Value) (n : Nat) (b0 : List Int) (hs : a.eval s = v) (hown : w.ownsRow base 5 1 v n (b0.map (Value.int .u8)))
    (vx : Value) (bs : List Int) (hx : a.eval x = vx) (hsrc : Src w vx bs) (hb : n + bs.length ≤ 4194304) (hbase : base ≤ w.heap.size)
    (h : ∀ v' w', w'.ownsRow base 5 1 v' (n + bs.length) ((b0 ++ bs).map (Value.int .u8)) → w.grownBy w' v.ownBlock → wpList Tryz.prog ops Q rest (a.put o.dst v') w') : wpList Tryz.prog ops Q (o :: rest) a w := by
  obtain ⟨i0, hi, hz0, hz1, hz2⟩ := info_parts Tryz.info5
  have main : ∀ (ad : Addr) (m c : Nat), vx = .slice (some ad) m c → bs.length = m → (∀ j u, (bs.map (Value.int .u8))[j]? = some u → w.cell? (ad.add j) = some u) → wpList Tryz.prog ops Q (o :: rest) a w := by
    intro ad m c e1 e2 e3
    subst e1
    refine wpList_append_own (w := w) hgd s x 69 ho base 5 i0 (.int .u8 0) 1 1 Tryz.underlying69 hi hz0 hz1 hz2 rfl (by decide) v n _ hs hown ad m c (bs.map (Value.int .u8)) hx (by simpa using e2) e3 (ints_oneCell _ _) (by unfold maxLen; omega) (by omega) hbase ?_
    intro v' w' h1 h2 _
    refine h v' w' ?_ h2
    rw [e2, List.map_append]
    exact h1
  rcases hsrc with ⟨rfl, rfl | ⟨sg, so, cap, rfl⟩⟩ | ⟨_, sg, so, cap, e, _, hc⟩
  · refine wpList_append_own_none hgd s x 69 ho base 5 i0 1 Tryz.underlying69 hi v n _ hs hown hx ?_
    refine h v w ?_ (World.grownBy.refl w _)
    simpa using hown
  · exact main ⟨sg, so, none⟩ 0 cap rfl rfl (fun j u hj => by simp at hj)
  · exact main ⟨sg, so, none⟩ bs.length cap e rfl (fun j u hj => by rw [Addr.add_lit]; exact hc j u hj)

theorem grow_any (n : Nat) (k : Int) (hk : k = n) (hn1 : n ≤ 4194304) (w : World) :
    Calls Tryz.prog 70 #[.slice none 0 0, .int .i64 k] w fun e w' => ∃ v, e = .returned v ∧ w'.ownsRow w.heap.size 5 1 v 0 (([] : List Int).map (Value.int .u8)) ∧ Below w.heap.size w w' := by
  subst hk
  by_cases h : n = 0
  · subst h
    refine (grow_zero w).mono ?_
    rintro e w' ⟨rfl, rfl⟩
    exact ⟨_, rfl, World.ownsRow_nil _ _ _ _, Below.refl _ _⟩
  · exact grow_pos n (by omega) hn1 w

set_option maxRecDepth 100000 in
set_option maxHeartbeats 2000000 in
theorem concat2 (A : Nat) (v1 v2 : Value) (b1 b2 : List Int) (t : TypeId) (w : World) (hA : w.heap[A]? = some (.cells #[v1, v2] t)) (hs1 : Src w v1 b1) (hs2 : Src w v2 b2) (hl1 : b1.length ≤ 1048576) (hl2 : b2.length ≤ 1048576) :
    Calls Tryz.prog 45 #[.slice (some ⟨A, 0, none⟩) 2 2] w fun e w' => ∃ v', e = .returned v' ∧ w'.ownsRow w.heap.size 5 1 v' (b1.length + b2.length) ((b1 ++ b2).map (Value.int .u8)) ∧ Below w.heap.size w w' := by
  obtain ⟨x1, c1, e1⟩ := hs1.shape
  obtain ⟨x2, c2, e2⟩ := hs2.shape
  have HS1 := hide hs1
  have HS2 := hide hs2
  have lA := ltB hA
  clear hs1 hs2
  subst e1 e2
  have a1 := cellB hA
  obtain ⟨n1, hn1⟩ : ∃ n, n = b1.length := ⟨_, rfl⟩
  obtain ⟨n2, hn2⟩ : ∃ n, n = b2.length := ⟨_, rfl⟩
  rw [← hn1] at a1 hl1 ⊢
  rw [← hn2] at a1 hl2 ⊢
  have HN1 := hide hn1
  have HN2 := hide hn2
  clear hn1 hn2
  go_enter Tryz.func45, Tryz.ntmps45
  go_wp2
  refine wp_loop_rounds 3 ?_
  rw [rounds_succ]
  go_wp2
  rw [rounds_succ]
  go_wp2
  rw [rounds_succ]
  go_wp2_with fail
  refine (grow_any (n1 + n2) _ (by omega) (by omega) w).mono ?_
  rintro e w1 ⟨u0, rfl, hown0, hb0⟩
  have g1 := cellB ((hb0.block A lA).trans hA)
  have hs0 := hb0.size
  rw [← HN1.out, ← HN2.out] at g1
  clear a1
  go_wp2
  refine wp_loop_rounds 3 ?_
  rw [rounds_succ]
  go_wp2_with (at_builtin; refine wpList_append_src rfl _ _ rfl w.heap.size u0 0 [] rfl hown0 _ b1 (by exact congrArg (fun z => Value.slice x1 z c1) HN1.out) (HS1.out.below hb0 (Nat.le_refl _)) (by rw [← HN1.out]; omega) (by omega) ?_; intro u1 w2 hown1 hgr1)
  have hb2 : Below w.heap.size w w2 := hb0.grown hgr1 hs0 (fun k hk => (hown0.lt k hk).1)
  have g2 := cellB ((hb2.block A lA).trans hA)
  rw [← HN1.out, ← HN2.out] at g2
  have hs2 := hb2.size
  clear g1
  rw [rounds_succ]
  go_wp2_with (at_builtin; refine wpList_append_src rfl _ _ rfl w.heap.size u1 (0 + b1.length) ([] ++ b1) rfl hown1 _ b2 (by exact congrArg (fun z => Value.slice x2 z c2) HN2.out) (HS2.out.below hb2 (Nat.le_refl _)) (by rw [← HN1.out, ← HN2.out]; omega) (by omega) ?_; intro u2 w3 hown2 hgr2)
  have hb3 : Below w.heap.size w w3 := hb2.grown hgr2 hs2 (fun k hk => (hown1.lt k hk).1)
  rw [rounds_succ]
  go_wp2
  go_ret
  refine ⟨_, rfl, ?_, hb3⟩
  have := hown2
  rw [Nat.zero_add, ← HN1.out, ← HN2.out] at this
  exact this
end Go.Proofs.YtlamgpeiolfffaaGreatDoor

namespace Go.Proofs.YtlamgpeiolfffaaGreatDoor
open Go.RowKit
variable [dK] [iK]

/-- A slice of bytes, with room behind them or none. -/
def Sl (w : World) (vb : Value) (bs : List Int) : Prop :=
  (bs = [] ∧ (vb = .slice none 0 0 ∨ ∃ g o c, vb = .slice (some ⟨g, o, none⟩) 0 c)) ∨
  (0 < bs.length ∧ ∃ g o c, vb = .slice (some ⟨g, o, none⟩) bs.length c ∧ bs.length ≤ c ∧ g < w.heap.size ∧ ∀ j, j < bs.length → w.cell? ⟨g, o + j, none⟩ = some (.int .u8 (bs.getD j 0)))
theorem Sl.kept {w w' : World} {v : Value} {bs : List Int} (h : Sl w v bs) (hs : w.heap.size ≤ w'.heap.size) (hk : ∀ g o n c, v = .slice (some ⟨g, o, none⟩) n c → g < w.heap.size → w'.heap[g]? = w.heap[g]?) : Sl w' v bs := by
  rcases h with h | ⟨h1, sg, so, cap, rfl, h0, h2, h3⟩
  · exact Or.inl h
  · exact Or.inr ⟨h1, sg, so, cap, rfl, h0, Nat.lt_of_lt_of_le h2 hs, fun j hj => (World.cell?_of_block (w := w) (hk sg so _ _ rfl h2)).trans (h3 j hj)⟩
theorem Sl.below {w w' : World} {v : Value} {bs : List Int} {B : Nat} (h : Sl w v bs) (hb : Below B w w') (hB : w.heap.size ≤ B) : Sl w' v bs :=
  h.kept hb.size fun g _ _ _ _ hg => hb.block g (Nat.lt_of_lt_of_le hg hB)
theorem Sl.src {w : World} {v : Value} {bs : List Int} (h : Sl w v bs) : Src w v bs := by
  rcases h with h | ⟨h1, sg, so, cap, rfl, h0, h2, h3⟩
  · exact Or.inl h
  · refine Or.inr ⟨h1, sg, so, cap, rfl, h2, fun j u hj => ?_⟩
    have hjl : j < bs.length := by
      have := (List.getElem?_eq_some_iff.1 hj).1
      simpa using this
    rw [h3 j hjl, ← hj]
    simp [List.getD, List.getElem?_eq_getElem hjl]
theorem Sl.of_own {w : World} {base : Nat} {v : Value} {n : Nat} {bs : List Int} (h : w.ownsRow base 5 1 v n (bs.map (Value.int .u8))) : Sl w v bs := by
  have hn : bs.length = n := by simpa using h.1
  rcases h.2 with ⟨h1, h2⟩ | ⟨g, cap, cur, hv, hb, hg, hnc, _⟩
  · exact Or.inl ⟨List.length_eq_zero_iff.1 (hn.trans h2), Or.inl h1⟩
  · by_cases h0 : bs = []
    · subst h0
      simp at hn
      subst hn
      exact Or.inl ⟨rfl, Or.inr ⟨g, 0, cap, hv⟩⟩
    · have hp : 0 < bs.length := List.length_pos_iff.2 h0
      obtain ⟨g, cap, hv, _, hgl, hnc, hc⟩ := own_shape h (by omega) hn
      exact Or.inr ⟨hp, g, 0, cap, by rw [hv, hn], by omega, hgl, fun j hj => by rw [Nat.zero_add, hc j (by omega)]⟩
theorem Sl.shape {w : World} {v : Value} {bs : List Int} (h : Sl w v bs) : ∃ a c, v = .slice a bs.length c := h.src.shape

theorem read67 (vb : Value) (bs : List Int) (w : World) (hs : Sl w vb bs) (hlen : bs.length ≤ 1048576) (hr : ∀ j, 0 ≤ bs.getD j 0 ∧ bs.getD j 0 ≤ 255) (q : Rq) (hq : q = rdQ bs) (m er : Int) (hm : m = rdN bs) (her : er = rdErr bs) :
    Calls Tryz.prog 67 #[vb] w fun e w' => e = .returned (.tuple #[.agg #[.int .u8 q.op, .int .u8 q.k0, .int .u8 q.k1, .int .u8 q.k2, .int .u8 q.k3, .int .u8 q.k4, .int .u8 q.k5, .int .u8 q.k6, .int .u8 q.k7, .int .u8 q.kd, .int .u64 q.x, .int .u64 q.y, .int .u64 q.n], .int .i64 m, errV er]) ∧ Below w.heap.size w w' := by
  subst hm her
  rcases hs with ⟨rfl, rfl | ⟨g, o, c, rfl⟩⟩ | ⟨hp, g, o, c, rfl, h0, h2, h3⟩
  · subst hq; exact read26_nil _ _ w
  · subst hq; exact read26_nil _ _ w
  · cases bs with
    | nil => simp at hp
    | cons b0 t => exact read26_cons g o c b0 t w h0 hlen h2 h3 hr q hq
end Go.Proofs.YtlamgpeiolfffaaGreatDoor

namespace Go.Proofs.YtlamgpeiolfffaaGreatDoor
open Go.RowKit
variable [dK] [iK]

theorem read16 (vb : Value) (bs : List Int) (w : World) (hs : Sl w vb bs) (hlen : bs.length ≤ 1048576) (hr : ∀ j, 0 ≤ bs.getD j 0 ∧ bs.getD j 0 ≤ 255) (q : Rq) (hq : q = rdQ bs) (m er : Int) (hm : m = rdN bs) (her : er = rdErr bs) :
    Calls Tryz.prog 80 #[vb] w fun e w' => e = .returned (.tuple #[.agg #[.int .u8 q.op, .int .u8 q.k0, .int .u8 q.k1, .int .u8 q.k2, .int .u8 q.k3, .int .u8 q.k4, .int .u8 q.k5, .int .u8 q.k6, .int .u8 q.k7, .int .u8 q.kd, .int .u64 q.x, .int .u64 q.y, .int .u64 q.n], .int .i64 m, .int .i64 er]) ∧ Below w.heap.size w w' := by
  subst hq hm her
  rcases hs with ⟨rfl, rfl | ⟨g, so, cap, rfl⟩⟩ | ⟨hp, g, so, cap, rfl, hcap, hg, hc⟩
  · exact rr16_nil _ _ w
  · exact rr16_nil _ _ w
  have bad : ∀ k : Int, rdErr bs = k → k ≠ 0 → (Calls Tryz.prog 80 #[.slice (some ⟨g, so, none⟩) bs.length cap] w fun e w' => e = .returned (.tuple #[.agg #[.int .u8 0, .int .u8 0, .int .u8 0, .int .u8 0, .int .u8 0, .int .u8 0, .int .u8 0, .int .u8 0, .int .u8 0, .int .u8 0, .int .u64 0, .int .u64 0, .int .u64 0], .int .i64 0, .int .i64 k]) ∧ Below w.heap.size w w') →
      Calls Tryz.prog 80 #[.slice (some ⟨g, so, none⟩) bs.length cap] w fun e w' => e = .returned (.tuple #[.agg #[.int .u8 (rdQ bs).op, .int .u8 (rdQ bs).k0, .int .u8 (rdQ bs).k1, .int .u8 (rdQ bs).k2, .int .u8 (rdQ bs).k3, .int .u8 (rdQ bs).k4, .int .u8 (rdQ bs).k5, .int .u8 (rdQ bs).k6, .int .u8 (rdQ bs).k7, .int .u8 (rdQ bs).kd, .int .u64 (rdQ bs).x, .int .u64 (rdQ bs).y, .int .u64 (rdQ bs).n], .int .i64 (rdN bs), .int .i64 (rdErr bs)]) ∧ Below w.heap.size w w' := by
    intro k hk hk0 h
    have e0 : ¬ rdErr bs = 0 := by omega
    have e2 : rdQ bs = Rq.zero := by unfold rdQ; rw [if_neg e0]
    have e3 : rdN bs = 0 := by unfold rdN; rw [if_neg e0]
    rw [e2, e3, hk]
    exact h
  cases bs with
  | nil => simp at hp
  | cons b0 t =>
    have c0 : w.cell? ⟨g, so, none⟩ = some (.int .u8 b0) := hc 0 hp
    have r0 : 0 ≤ b0 ∧ b0 ≤ 255 := hr 0
    by_cases hlo : b0 < 1
    · exact bad 2 (by simp [rdErr, hlo]) (by omega) (rr16_zero g so _ cap b0 w hp hg c0 (by omega))
    by_cases hhi : 26 < b0
    · exact bad 2 (by simp [rdErr, hhi]) (by omega) (rr16_high g so _ cap b0 w hp hg c0 hhi r0.2)
    have hor : ¬ (b0 < 1 ∨ 26 < b0) := by omega
    cases t with
    | nil => exact bad 1 (by simp [rdErr, hor]) (by omega) (rr16_one g so _ cap b0 w hp hg c0 (by omega) (by omega) rfl)
    | cons b1 t =>
      have hn2 : 1 < (b0 :: b1 :: t).length := by simp
      have c1 : w.cell? ⟨g, so + 1, none⟩ = some (.int .u8 b1) := hc 1 hn2
      by_cases heq : b0 = reqLen b1
      · by_cases hle : (((b0 :: b1 :: t).length : Nat) : Int) ≤ b0
        · exact bad 1 (by simp only [rdErr]; rw [if_neg hor, if_pos heq, if_pos hle]) (by omega) (rr16_short g so _ cap b0 w hp hg c0 (by omega) (by omega) hn2 b1 c1 heq hle)
        · have e1 : rdErr (b0 :: b1 :: t) = 0 := by simp only [rdErr]; rw [if_neg hor, if_pos heq, if_neg hle]
          have e3 : rdN (b0 :: b1 :: t) = b0 + 1 := by simp [rdN, e1]
          rw [e1, e3]
          by_cases h1 : b1 = 1
          · subst h1
            obtain rfl : b0 = 26 := heq
            rw [rdQ_1 _ e1 rfl]
            exact rr16_1 g so _ cap (fun j => (26 :: 1 :: t).getD j 0) w (by omega) hcap hlen hg hc hr rfl rfl
          by_cases h2 : b1 = 2
          · subst h2
            obtain rfl : b0 = 17 := heq
            rw [rdQ_2 _ e1 rfl]
            exact rr16_2 g so _ cap (fun j => (17 :: 2 :: t).getD j 0) w (by omega) hcap hlen hg hc hr rfl rfl
          by_cases h3 : b1 = 3
          · subst h3
            obtain rfl : b0 = 9 := heq
            rw [rdQ_3 _ e1 (Or.inl rfl)]
            exact rr16_3 g so _ cap (fun j => (9 :: 3 :: t).getD j 0) w (by omega) hcap hlen hg hc hr rfl rfl
          by_cases h4 : b1 = 4
          · subst h4
            obtain rfl : b0 = 9 := heq
            rw [rdQ_3 _ e1 (Or.inr rfl)]
            exact rr16_4 g so _ cap (fun j => (9 :: 4 :: t).getD j 0) w (by omega) hcap hlen hg hc hr rfl rfl
          by_cases h5 : b1 = 5
          · subst h5
            obtain rfl : b0 = 1 := heq
            rw [rdQ_5 _ e1 (Or.inl rfl)]
            exact rr16_5 g so _ cap (fun j => (1 :: 5 :: t).getD j 0) w (by omega) hcap hlen hg hc hr rfl rfl
          by_cases h6 : b1 = 6
          · subst h6
            obtain rfl : b0 = 1 := heq
            rw [rdQ_5 _ e1 (Or.inr rfl)]
            exact rr16_6 g so _ cap (fun j => (1 :: 6 :: t).getD j 0) w (by omega) hcap hlen hg hc hr rfl rfl
          exact absurd heq (by simp [reqLen, h1, h2, h3, h4, h5, h6]; omega)
      · exact bad 2 (by simp only [rdErr]; rw [if_neg hor, if_neg heq]) (by omega) (rr16_bad g so _ cap b0 w hp hg c0 (by omega) (by omega) hn2 b1 c1 heq)

theorem read18 (vb : Value) (bs : List Int) (w : World) (hs : Sl w vb bs) (hlen : bs.length ≤ 1048576) (hr : ∀ j, 0 ≤ bs.getD j 0 ∧ bs.getD j 0 ≤ 255) (r : Rp) (hq : r = rpQ bs) (m er : Int) (hm : m = rpN bs) (her : er = rpErr bs) :
    Calls Tryz.prog 52 #[vb] w fun e w' => e = .returned (.tuple #[.agg #[.int .u8 r.c, .int .u64 r.a, .int .u64 r.b], .int .i64 m, .int .i64 er]) ∧ Below w.heap.size w w' := by
  subst hq hm her
  rcases hs with ⟨rfl, rfl | ⟨g, so, cap, rfl⟩⟩ | ⟨hp, g, so, cap, rfl, hcap, hg, hc⟩
  · exact rr18_nil _ _ w
  · exact rr18_nil _ _ w
  have bad : ∀ k : Int, rpErr bs = k → k ≠ 0 → (Calls Tryz.prog 52 #[.slice (some ⟨g, so, none⟩) bs.length cap] w fun e w' => e = .returned (.tuple #[.agg #[.int .u8 0, .int .u64 0, .int .u64 0], .int .i64 0, .int .i64 k]) ∧ Below w.heap.size w w') →
      Calls Tryz.prog 52 #[.slice (some ⟨g, so, none⟩) bs.length cap] w fun e w' => e = .returned (.tuple #[.agg #[.int .u8 (rpQ bs).c, .int .u64 (rpQ bs).a, .int .u64 (rpQ bs).b], .int .i64 (rpN bs), .int .i64 (rpErr bs)]) ∧ Below w.heap.size w w' := by
    intro k hk hk0 h
    have e0 : ¬ rpErr bs = 0 := by omega
    have e2 : rpQ bs = ⟨0, 0, 0⟩ := by unfold rpQ; rw [if_neg e0]
    have e3 : rpN bs = 0 := by unfold rpN; rw [if_neg e0]
    rw [e2, e3, hk]
    exact h
  cases bs with
  | nil => simp at hp
  | cons b0 t =>
    have c0 : w.cell? ⟨g, so, none⟩ = some (.int .u8 b0) := hc 0 hp
    by_cases h17 : b0 = 17
    · have hor : ¬ (b0 < 17 ∨ 17 < b0) := by omega
      cases t with
      | nil => exact bad 1 (by simp [rpErr, hor]) (by omega) (rr18_one g so _ cap b0 w hp hg c0 h17 rfl)
      | cons b1 t =>
        have hn2 : 1 < (b0 :: b1 :: t).length := by simp
        have c1 : w.cell? ⟨g, so + 1, none⟩ = some (.int .u8 b1) := hc 1 hn2
        by_cases hlo : b1 < 1
        · have hne : ¬ b0 = repLen b1 := by simp [repLen, hlo, h17]
          exact bad 2 (by simp only [rpErr]; rw [if_neg hor, if_neg hne]) (by omega) (rr18_low g so _ cap b0 w hp hg c0 h17 hn2 b1 c1 hlo)
        by_cases hhi : 9 < b1
        · have hne : ¬ b0 = repLen b1 := by simp [repLen, hhi, h17]
          exact bad 2 (by simp only [rpErr]; rw [if_neg hor, if_neg hne]) (by omega) (rr18_high g so _ cap b0 w hp hg c0 h17 hn2 b1 c1 hlo hhi)
        have heq : b0 = repLen b1 := by simp [repLen, hlo, hhi, h17]
        by_cases hle : (((b0 :: b1 :: t).length : Nat) : Int) ≤ b0
        · exact bad 1 (by simp only [rpErr]; rw [if_neg hor, if_pos heq, if_pos hle]) (by omega) (rr18_short g so _ cap b0 w hp hg c0 h17 hn2 b1 c1 hlo hhi (by omega))
        · have e1 : rpErr (b0 :: b1 :: t) = 0 := by simp only [rpErr]; rw [if_neg hor, if_pos heq, if_neg hle]
          have e2 : rpQ (b0 :: b1 :: t) = ⟨b1, num8 (b0 :: b1 :: t) 2, num8 (b0 :: b1 :: t) 10⟩ := by unfold rpQ; rw [if_pos e1]; rfl
          have e3 : rpN (b0 :: b1 :: t) = 18 := by unfold rpN; rw [if_pos e1]
          rw [e1, e2, e3]
          exact rr18_ok g so _ cap (fun j => (b0 :: b1 :: t).getD j 0) w (by omega) hcap hlen hg hc hr h17 hlo hhi
    · have hor : b0 < 17 ∨ 17 < b0 := by omega
      exact bad 2 (by simp only [rpErr]; rw [if_pos hor]) (by omega) (rr18_head g so _ cap b0 w hp hg c0 h17)
end Go.Proofs.YtlamgpeiolfffaaGreatDoor

namespace Go.Proofs.YtlamgpeiolfffaaGreatDoor
open Go.RowKit
variable [dK] [iK]

abbrev rqc (q : Rq) : Array Value := #[.int .u8 q.op, .int .u8 q.k0, .int .u8 q.k1, .int .u8 q.k2, .int .u8 q.k3, .int .u8 q.k4, .int .u8 q.k5, .int .u8 q.k6, .int .u8 q.k7, .int .u8 q.kd, .int .u64 q.x, .int .u64 q.y, .int .u64 q.n]
def sliceLen : Value → Nat
  | .slice _ n _ => n
  | _ => 0

/-- What holds while requests are done, one by one. -/
structure RdI (w : World) (F : Nat → Prop) (st : Int) (sb cb rb : Nat) (cc : Array Value) (L0 : Ld) (bs0 : List Int) (L : Ld) (bs : List Int) (rs : List Rp) (F' : Nat → Prop) (v1 v5 : Value) (wr : World) : Prop where
  run : runL L0 bs0 = ((runL L bs).1, rs ++ (runL L bs).2.1, (runL L bs).2.2)
  sl : Sl wr v1 bs
  le : 18 * rs.length + 9 * bs.length ≤ 9 * bs0.length
  by_ : Bytes bs
  own : wr.ownsRow w.heap.size 5 1 v5 (encs rs).length ((encs rs).map (Value.int .u8))
  req : wr.heap[rb]? = some (.cells (rqc (rdQ bs)) 58)
  srv : SrvAt wr st sb L F'
  lok : L.ok
  F1 : ∀ b, F' b → F b ∨ w.heap.size ≤ b
  F2 : ¬ F' rb
  F3 : ∀ g, v5.ownBlock = some g → ¬ F' g ∧ g ≠ rb
  F4 : ∀ g o n c, v1 = .slice (some ⟨g, o, none⟩) n c → g < w.heap.size ∧ ¬ F g
  conn : wr.heap[cb]? = some (.cells cc 103)
  keep : Keep F w wr

theorem encs_length (rs : List Rp) : (encs rs).length = 18 * rs.length := by
  unfold encs
  induction rs with
  | nil => rfl
  | cons r t ih => rw [List.flatMap_cons, List.length_append, ih]; simp [encRep, be8]; omega
theorem encs_snoc (rs : List Rp) (r : Rp) : encs (rs ++ [r]) = encs rs ++ encRep r.c r.a r.b := by simp [encs]

theorem own_kept {w w' : World} {base : Nat} {v : Value} {n : Nat} {xs : List Value} (h : w.ownsRow base 5 1 v n xs) (hb : ∀ g, v.ownBlock = some g → w'.heap[g]? = w.heap[g]?) : w'.ownsRow base 5 1 v n xs := by
  obtain ⟨h1, h2⟩ := h
  refine ⟨h1, ?_⟩
  rcases h2 with h2 | ⟨g, cap, cur, hv, hg, hh, r⟩
  · exact Or.inl h2
  · exact Or.inr ⟨g, cap, cur, hv, hg, (hb g (by rw [hv]; rfl)).trans hh, r⟩
theorem own_slice {w : World} {base : Nat} {v : Value} {n : Nat} {xs : List Value} (h : w.ownsRow base 5 1 v n xs) : ∃ a c, v = .slice a n c := by
  rcases h.2 with ⟨rfl, rfl⟩ | ⟨g, cap, cur, hv, _⟩
  · exact ⟨_, _, rfl⟩
  · exact ⟨_, _, hv⟩
theorem heapSet13 {w : World} {b : Nat} {c0 c1 c2 c3 c4 c5 c6 c7 c8 c9 c10 c11 c12 : Value} {t : TypeId} {fr : Nat × Nat} (h : w.heap[b]? = some (.cells #[c0, c1, c2, c3, c4, c5, c6, c7, c8, c9, c10, c11, c12] t fr)) (v0 v1 v2 v3 v4 v5 v6 v7 v8 v9 v10 v11 v12 : Value) :
    (((((((((((((w.setCell ⟨b, 0, none⟩ v0).setCell ⟨b, 1, none⟩ v1).setCell ⟨b, 2, none⟩ v2).setCell ⟨b, 3, none⟩ v3).setCell ⟨b, 4, none⟩ v4).setCell ⟨b, 5, none⟩ v5).setCell ⟨b, 6, none⟩ v6).setCell ⟨b, 7, none⟩ v7).setCell ⟨b, 8, none⟩ v8).setCell ⟨b, 9, none⟩ v9).setCell ⟨b, 10, none⟩ v10).setCell ⟨b, 11, none⟩ v11).setCell ⟨b, 12, none⟩ v12).heap[b]? = some (.cells #[v0, v1, v2, v3, v4, v5, v6, v7, v8, v9, v10, v11, v12] t fr) := by
  simpa using (heapSet (heapSet (heapSet (heapSet (heapSet (heapSet (heapSet (heapSet (heapSet (heapSet (heapSet (heapSet (heapSet h 0 v0) 1 v1) 2 v2) 3 v3) 4 v4) 5 v5) 6 v6) 7 v7) 8 v8) 9 v9) 10 v10) 11 v11) 12 v12)

/-- append in a region that draws. -/
theorem step_append_src {ops : Array Oper} {o : Oper} {a : Act} {w : World} {K : Act → World → Prop} {Q : Exit → Act → World → Prop} {E : Prop} (hg : o.guard = none) (s x : Operand)
    (hop : o.op = .call { callee := .builtin .append, args := #[s, x], argTypes := #[69, 69] }) (base : Nat) (v : Value) (n : Nat) (b0 : List Int) (hs : a.eval s = v) (hown : w.ownsRow base 5 1 v n (b0.map (Value.int .u8)))
    (ad : Addr) (m c : Nat) (bs : List Int) (hx : a.eval x = .slice (some ad) m c) (hm : bs.length = m) (hc : ∀ j u, (bs.map (Value.int .u8))[j]? = some u → w.cell? (ad.add j) = some u) (hb : n + m ≤ 4194304) (hbase : base ≤ w.heap.size)
    (hK : ∀ v' w', w'.ownsRow base 5 1 v' (n + m) ((b0 ++ bs).map (Value.int .u8)) → w.grownBy w' v.ownBlock → (v'.ownBlock = v.ownBlock ∨ v'.ownBlock = some w.heap.size) → K (a.put o.dst v') w') :
    if Region.wanted o (yielded ops a.tmps) = true then Oper.wp Tryz.prog o a w K Q else E := by
  have hw : Region.wanted o (yielded ops a.tmps) = true := by simp [Region.wanted, hg]
  rw [if_pos hw]
  obtain ⟨i0, hi, hz0, hz1, hz2⟩ := info_parts Tryz.info5
  obtain ⟨v', w', hr, h2, h3, h4, h5⟩ := run_append_own_at (P := Tryz.prog) (w := w) base 69 o.type 5 i0 (.int .u8 0) 1 1 Tryz.underlying69 hi hz0 hz1 hz2 rfl (by decide) v n _ hown ad m c (bs.map (Value.int .u8)) (by simpa using hm) hc (ints_oneCell _ _) (by unfold maxLen; omega) (by omega) hbase
  unfold Oper.wp execOp
  simp only [hop, resolve, invoke, builtin, Sem.run_bind, Sem.run_pure, Result.andThen_ok, List.map_toArray, List.map_cons, List.map_nil, hs, hx, hr]
  exact hK v' w' (by rw [List.map_append]; exact h2) h3 h5
/-- append of bytes, and where the new slice lies. -/
theorem wpList_append_srcA {ops : Array Oper} {rest : List Oper} {o : Oper} {a : Act} {Q : Exit → Act → World → Prop} {w : World} (hgd : o.guard = none) (s x : Operand)
    (ho : o.op = .call { callee := .builtin .append, args := #[s, x], argTypes := #[69, 69] }) (base : Nat) (v : Value) (n : Nat) (b0 : List Int) (hs : a.eval s = v) (hown : w.ownsRow base 5 1 v n (b0.map (Value.int .u8)))
    (vx : Value) (bs : List Int) (hx : a.eval x = vx) (hsrc : Src w vx bs) (hb : n + bs.length ≤ 4194304) (hbase : base ≤ w.heap.size)
    (h : ∀ v' w', w'.ownsRow base 5 1 v' (n + bs.length) ((b0 ++ bs).map (Value.int .u8)) → w.grownBy w' v.ownBlock → (v'.ownBlock = v.ownBlock ∨ v'.ownBlock = some w.heap.size) → wpList Tryz.prog ops Q rest (a.put o.dst v') w') : wpList Tryz.prog ops Q (o :: rest) a w := by
  obtain ⟨i0, hi, hz0, hz1, hz2⟩ := info_parts Tryz.info5
  have main : ∀ (ad : Addr) (m c : Nat), vx = .slice (some ad) m c → bs.length = m → (∀ j u, (bs.map (Value.int .u8))[j]? = some u → w.cell? (ad.add j) = some u) → wpList Tryz.prog ops Q (o :: rest) a w := by
    intro ad m c e1 e2 e3
    subst e1
    refine wpList_append_own_at (w := w) hgd s x 69 ho base 5 i0 (.int .u8 0) 1 1 Tryz.underlying69 hi hz0 hz1 hz2 rfl (by decide) v n _ hs hown ad m c (bs.map (Value.int .u8)) hx (by simpa using e2) e3 (ints_oneCell _ _) (by unfold maxLen; omega) (by omega) hbase ?_
    intro v' w' h1 h2 _ h4
    refine h v' w' ?_ h2 h4
    rw [e2, List.map_append]
    exact h1
  rcases hsrc with ⟨rfl, rfl | ⟨sg, so, cap, rfl⟩⟩ | ⟨_, sg, so, cap, e, _, hc⟩
  · refine wpList_append_own_none hgd s x 69 ho base 5 i0 1 Tryz.underlying69 hi v n _ hs hown hx ?_
    refine h v w ?_ (World.grownBy.refl w _) (Or.inl rfl)
    simpa using hown
  · exact main ⟨sg, so, none⟩ 0 cap rfl rfl (fun j u hj => by simp at hj)
  · exact main ⟨sg, so, none⟩ bs.length cap e rfl (fun j u hj => by rw [Addr.add_lit]; exact hc j u hj)
end Go.Proofs.YtlamgpeiolfffaaGreatDoor

namespace Go.Proofs.YtlamgpeiolfffaaGreatDoor
open Go.RowKit
variable [dK] [iK]

/-- A string's bytes, as numbers. -/
def numsOf (s : ByteArray) : List Int := s.data.toList.map (fun b => (b.toNat : Int))
theorem numsOf_length (s : ByteArray) : (numsOf s).length = s.size := by simp [numsOf]
theorem numsOf_append (a b : ByteArray) : numsOf (a ++ b) = numsOf a ++ numsOf b := by simp [numsOf]
theorem numsOf_str (xs : List Int) (h : Bytes xs) : numsOf (strOfNums xs) = xs := by
  unfold numsOf
  rw [strOfNums_data, List.map_map]
  conv => rhs; rw [← List.map_id xs]
  apply List.map_congr_left
  intro x hx
  have := h x hx
  simp
  omega
theorem numsOf_bytes (s : ByteArray) : Bytes (numsOf s) := by
  intro x hx
  obtain ⟨b, _, rfl⟩ := List.mem_map.1 hx
  have := b.toNat_lt
  omega
theorem strOf_app (a b : List Int) : strOfNums (a ++ b) = strOfNums a ++ strOfNums b := by
  apply ByteArray.ext
  apply Array.ext'
  simp [strOfNums_data]
theorem conv_own {w : World} {base n : Nat} {v : Value} {bs : List Int} (h : w.ownsRow base 5 1 v n (bs.map (Value.int .u8))) (hn : bs.length = n) : (convert 69 9 v).run Tryz.prog w = .ok (.string (strOfNums bs)) w := by
  rcases h.2 with ⟨h2, h0⟩ | ⟨g, cap, cur, hv, _⟩
  · have hb : bs = [] := List.eq_nil_of_length_eq_zero (by omega)
    subst hb h2
    exact run_convert_bytes_nil w 69 5 Tryz.underlying69 Tryz.underlying5 0 0 9 Tryz.underlying9
  · subst hv
    refine run_convert_bytes_arg (P := Tryz.prog) w 69 5 Tryz.underlying69 Tryz.underlying5 g 0 n cap bs hn (fun i hi => ?_) 9 Tryz.underlying9
    rw [Nat.zero_add, h.cellAt i (by omega)]
    simp [List.getD, List.getElem?_eq_getElem (show i < bs.length by omega)]

def Rq.enc (q : Rq) : List Int := encReq q.op q.k0 q.k1 q.k2 q.k3 q.k4 q.k5 q.k6 q.k7 q.kd q.x q.y q.n
def encQs (qs : List Rq) : List Int := qs.flatMap Rq.enc
theorem enc_len (q : Rq) : q.enc.length ≤ 27 := by
  have := encReq_length q.op q.k0 q.k1 q.k2 q.k3 q.k4 q.k5 q.k6 q.k7 q.kd q.x q.y q.n
  have h := reqLen_pos (b := q.op)
  unfold Rq.enc
  split at this <;> omega
theorem encQs_len (qs : List Rq) : (encQs qs).length ≤ 27 * qs.length := by
  unfold encQs
  induction qs with
  | nil => simp
  | cons q t ih => rw [List.flatMap_cons, List.length_append]; have := enc_len q; simp only [List.length_cons]; omega

/-- quotaledger.Request, as an owned row. -/
theorem request24 (q : Rq) (hq : q.ok) (w : World) :
    Calls Tryz.prog 24 #[.agg #[.int .u8 q.op, .int .u8 q.k0, .int .u8 q.k1, .int .u8 q.k2, .int .u8 q.k3, .int .u8 q.k4, .int .u8 q.k5, .int .u8 q.k6, .int .u8 q.k7, .int .u8 q.kd, .int .u64 q.x, .int .u64 q.y, .int .u64 q.n]] w
      fun e w' => ∃ a c, e = .returned (.slice a q.enc.length c) ∧ w'.ownsRow w.heap.size 5 1 (.slice a q.enc.length c) q.enc.length (q.enc.map (Value.int .u8)) ∧ Below w.heap.size w w' := by
  refine (request_any q.op q.k0 q.k1 q.k2 q.k3 q.k4 q.k5 q.k6 q.k7 q.kd q.x q.y q.n w hq.x.1 hq.x.2 hq.y.1 hq.y.2 hq.n.1 hq.n.2).mono ?_
  rintro e w' ⟨hb, ⟨h0, rfl⟩ | ⟨h0, g, L, hg, hL, rfl, ho⟩⟩
  · have hl := encReq_length q.op q.k0 q.k1 q.k2 q.k3 q.k4 q.k5 q.k6 q.k7 q.kd q.x q.y q.n
    rw [if_pos h0] at hl
    have he : q.enc.length = 0 := by unfold Rq.enc; omega
    have hn : q.enc = [] := List.length_eq_zero_iff.1 he
    rw [hn]
    exact ⟨none, 0, rfl, World.ownsRow_nil _ _ _ _, hb⟩
  · have e1 : q.enc.length = L := hL.symm
    rw [e1]
    exact ⟨_, _, rfl, ho, hb⟩

set_option maxRecDepth 100000 in
set_option maxHeartbeats 2000000 in
/-- quotaledgerkeep.bytes: requests, one behind the other. -/
theorem bytes9 (A o n cap : Nat) (qs : List Rq) (w : World) (hn : qs.length = n) (hnc : n ≤ cap) (hn1 : n ≤ 1000) (hok : ∀ q ∈ qs, q.ok) (hA : A < w.heap.size)
    (hc : ∀ i (h : i < qs.length) j, w.cell? ⟨A, o + i * 13 + j, none⟩ = (#[.int .u8 qs[i].op, .int .u8 qs[i].k0, .int .u8 qs[i].k1, .int .u8 qs[i].k2, .int .u8 qs[i].k3, .int .u8 qs[i].k4, .int .u8 qs[i].k5, .int .u8 qs[i].k6, .int .u8 qs[i].k7, .int .u8 qs[i].kd, .int .u64 qs[i].x, .int .u64 qs[i].y, .int .u64 qs[i].n] : Array Value)[j]? ∨ 13 ≤ j) :
    Calls Tryz.prog 9 #[.slice (some ⟨A, o, none⟩) n cap] w fun e w' => e = .returned (.string (strOfNums (encQs qs))) ∧ Below w.heap.size w w' := by
  have HC := hide hc
  have HN := hide hn
  have HOK := hide hok
  clear hc hn hok
  go_enter Tryz.func9, Tryz.ntmps9
  go_wp2
  go_loopw [3, 4, 5] (fun s3 s4 s5 wr => ∃ i : Nat, i ≤ n ∧ s4 = .int .i64 i ∧ s3 = .string (strOfNums (encQs (qs.take i))) ∧ Below w.heap.size w wr) (fun _ s4 _ _ => n - (intOf s4).toNat)
  case atStart => exact ⟨0, by omega, rfl, rfl, Below.refl _ _⟩
  case round =>
    obtain ⟨i, hi, rfl, rfl, hb⟩ := hrel
    obtain ⟨st, hst⟩ : ∃ st, st = strOfNums (encQs (qs.take i)) := ⟨_, rfl⟩
    have hsz : st.size ≤ 27000 := by rw [hst, strOfNums_size]; have := encQs_len (qs.take i); rw [List.length_take] at this; omega
    rw [← hst]
    have HST := hide hst
    clear hst
    by_cases hlt : i < n
    · have hil : i < qs.length := by rw [HN.out]; exact hlt
      obtain ⟨q, hq⟩ : ∃ q, q = qs[i] := ⟨_, rfl⟩
      have hqo : q.ok := hq ▸ HOK.out _ (List.getElem_mem hil)
      have hcell : ∀ j, j < 13 → wr.cell? ⟨A, o + i * 13 + j, none⟩ = (#[.int .u8 q.op, .int .u8 q.k0, .int .u8 q.k1, .int .u8 q.k2, .int .u8 q.k3, .int .u8 q.k4, .int .u8 q.k5, .int .u8 q.k6, .int .u8 q.k7, .int .u8 q.kd, .int .u64 q.x, .int .u64 q.y, .int .u64 q.n] : Array Value)[j]? := fun j hj => by
        rw [hb.cell (p := ⟨A, o + i * 13 + j, none⟩) hA, hq]
        exact (HC.out i hil j).elim id (fun h => absurd hj (Nat.not_lt.2 h))
      have k0 := hcell 0 (by omega)
      have k1 := hcell 1 (by omega)
      have k2 := hcell 2 (by omega)
      have k3 := hcell 3 (by omega)
      have k4 := hcell 4 (by omega)
      have k5 := hcell 5 (by omega)
      have k6 := hcell 6 (by omega)
      have k7 := hcell 7 (by omega)
      have k8 := hcell 8 (by omega)
      have k9 := hcell 9 (by omega)
      have k10 := hcell 10 (by omega)
      have k11 := hcell 11 (by omega)
      have k12 := hcell 12 (by omega)
      rw [Nat.add_zero] at k0
      have HQ := hide hq
      clear hcell hq
      go_wp2_with fail
      refine (request24 q hqo _).mono ?_
      rintro e w2 ⟨a2, c2, rfl, hown2, hb2⟩
      have hcv := conv_own hown2 rfl
      obtain ⟨st2, hst2⟩ : ∃ st2, st2 = strOfNums q.enc := ⟨_, rfl⟩
      have hsz2 : st2.size ≤ 27 := by rw [hst2, strOfNums_size]; exact enc_len q
      rw [← hst2] at hcv
      have HS2 := hide hst2
      have hwr := hb.size
      clear hst2 k0 k1 k2 k3 k4 k5 k6 k7 k8 k9 k10 k11 k12 hown2
      go_wp2
      go_roundw
      case rel =>
        refine ⟨i + 1, by omega, by go_num, ?_, hb.trans (hb2.mono hwr)⟩
        have htk : qs.take (i + 1) = qs.take i ++ [qs[i]] := by rw [List.take_add_one, List.getElem?_eq_getElem hil]; rfl
        have hen : encQs (qs.take (i + 1)) = encQs (qs.take i) ++ qs[i].enc := by rw [htk]; unfold encQs; rw [List.flatMap_append]; simp only [List.flatMap_cons, List.flatMap_nil, List.append_nil]
        rw [HST.out, HS2.out, HQ.out, ← strOf_app, hen]
      case measure => simp [intOf]; omega
    · obtain rfl : i = n := by omega
      go_wp2
      go_ret
      refine ⟨?_, hb⟩
      rw [HST.out, List.take_of_length_le (by rw [HN.out]; exact Nat.le_refl _)]
      rfl
end Go.Proofs.YtlamgpeiolfffaaGreatDoor

namespace Go.Proofs.YtlamgpeiolfffaaGreatDoor
open Go.RowKit
variable [dK] [iK]

theorem runL_ok : ∀ (n : Nat) (a : List Int) (L : Ld), a.length ≤ n → L.ok → Bytes a → (runL L a).1.ok ∧ Bytes (runL L a).2.2.1 ∧ (runL L a).2.2.1.length ≤ a.length := by
  intro n
  induction n with
  | zero =>
    intro a L h hL ha
    have e : a = [] := List.length_eq_zero_iff.1 (by omega)
    subst e
    rw [runL_stop L [] (by simp [rdErr])]
    exact ⟨hL, ha, Nat.le_refl _⟩
  | succ n ih =>
    intro a L h hL ha
    by_cases h0 : rdErr a = 0
    · rw [runL_step L a h0]
      obtain ⟨r1, r2, _, _⟩ := rdN_ok a h0
      obtain ⟨g1, g2, g3⟩ := ih (a.drop (rdN a).toNat) (doM L (rdQ a)).1 (by rw [List.length_drop]; omega) (doM_ok L (rdQ a) hL (rdQ_ok a ha)).1 (ha.drop _)
      refine ⟨g1, g2, Nat.le_trans g3 ?_⟩
      rw [List.length_drop]
      omega
    · rw [runL_stop L a h0]
      exact ⟨hL, ha, Nat.le_refl _⟩
theorem passM_okd (L : Ld) (now : Int) (h : L.ok) (h0 : 0 ≤ now) (h1 : now ≤ 18446744073709551615) : (passM L now).ok := by
  refine ⟨?_, h.adm, h.key, h.qt, h.nd, h.len⟩
  have := h.time
  unfold passM
  dsimp only
  split <;> omega
theorem feedM_ok (L : Ld) (c : Cn) (now : Int) (bs : List Int) (hL : L.ok) (h0 : 0 ≤ now) (h1 : now ≤ 18446744073709551615) (hc : Bytes c.waits) (hb : Bytes bs) : (feedM L c now bs).1.ok ∧ Bytes (feedM L c now bs).2.1.waits ∧ (feedM L c now bs).2.1.waits.length ≤ c.waits.length + bs.length := by
  cases h : c.bad with
  | true => rw [feedM_bad _ _ _ _ h]; exact ⟨passM_okd L now hL h0 h1, hc, by simp⟩
  | false =>
    rw [feedM_good _ _ _ _ h]
    obtain ⟨g1, g2, g3⟩ := runL_ok _ (c.waits ++ bs) (passM L now) (Nat.le_refl _) (passM_okd L now hL h0 h1) (hc.app hb)
    rw [List.length_append] at g3
    split
    · exact ⟨g1, fun b hb => by simp at hb, by simp⟩
    · exact ⟨g1, g2, g3⟩
theorem runL_len : ∀ (n : Nat) (a : List Int) (L : Ld), a.length ≤ n → (runL L a).2.1.length ≤ a.length := by
  intro n
  induction n with
  | zero =>
    intro a L h
    have e : a = [] := List.length_eq_zero_iff.1 (by omega)
    subst e
    rw [runL_stop L [] (by simp [rdErr])]
    exact Nat.le_refl _
  | succ n ih =>
    intro a L h
    by_cases h0 : rdErr a = 0
    · rw [runL_step L a h0]
      obtain ⟨r1, r2, _, _⟩ := rdN_ok a h0
      have g := ih (a.drop (rdN a).toNat) (doM L (rdQ a)).1 (by rw [List.length_drop]; omega)
      rw [List.length_drop] at g
      simp only [List.length_cons]
      omega
    · rw [runL_stop L a h0]
      exact Nat.zero_le _
theorem feedM_len (L : Ld) (c : Cn) (now : Int) (bs : List Int) : (feedM L c now bs).2.2.length ≤ c.waits.length + bs.length + 1 := by
  cases h : c.bad with
  | true => rw [feedM_bad _ _ _ _ h]; simp
  | false =>
    rw [feedM_good _ _ _ _ h]
    have g := runL_len _ (c.waits ++ bs) (passM L now) (Nat.le_refl _)
    rw [List.length_append] at g
    split
    · simp only [List.length_append, List.length_cons, List.length_nil]
      omega
    · dsimp only
      omega
theorem numsOf_take (s : ByteArray) (n : Nat) : numsOf (s.extract 0 n) = (numsOf s).take n := by
  simp [numsOf, List.map_take]
theorem numsOf_drop (s : ByteArray) (n : Nat) : numsOf (s.extract n s.size) = (numsOf s).drop n := by
  simp [numsOf, List.map_drop]
  exact List.take_of_length_le (by simp)
end Go.Proofs.YtlamgpeiolfffaaGreatDoor

namespace Go.Proofs.YtlamgpeiolfffaaGreatDoor
open Go.RowKit
variable [dK] [iK]

/-- A reply with more behind it, read. -/
theorem rp_back (r : Rp) (h1 : 1 ≤ r.c) (h9 : r.c ≤ 9) (ha : 0 ≤ r.a ∧ r.a ≤ 18446744073709551615) (hb : 0 ≤ r.b ∧ r.b ≤ 18446744073709551615) (t : List Int) :
    rpErr (encRep r.c r.a r.b ++ t) = 0 ∧ rpN (encRep r.c r.a r.b ++ t) = 18 ∧ rpQ (encRep r.c r.a r.b ++ t) = r := by
  have e0 : encRep r.c r.a r.b ++ t = 17 :: r.c :: (be8 r.a ++ (be8 r.b ++ t)) := by simp [encRep]
  have hl : (encRep r.c r.a r.b ++ t).length = 18 + t.length := by rw [List.length_append]; rfl
  have hE : rpErr (encRep r.c r.a r.b ++ t) = 0 := by
    rw [e0]
    simp only [rpErr]
    rw [if_neg (by omega), if_pos (by unfold repLen; rw [if_neg (by omega)]), if_neg]
    rw [← e0, hl]; omega
  refine ⟨hE, by unfold rpN; rw [if_pos hE], ?_⟩
  unfold rpQ
  rw [if_pos hE]
  have hc : (encRep r.c r.a r.b ++ t).getD 1 0 = r.c := by rw [e0]; rfl
  have hA : num8 (encRep r.c r.a r.b ++ t) 2 = r.a := by
    rw [e0]
    refine Eq.trans ?_ (rd_be8 r.a ha.1 ha.2)
    unfold num8
    simp [rdTo, be8, List.getD]
  have hB : num8 (encRep r.c r.a r.b ++ t) 10 = r.b := by
    rw [e0]
    refine Eq.trans ?_ (rd_be8 r.b hb.1 hb.2)
    unfold num8
    simp [rdTo, be8, List.getD]
  rw [hc, hA, hB]
end Go.Proofs.YtlamgpeiolfffaaGreatDoor

namespace Go.Proofs.YtlamgpeiolfffaaGreatDoor
open Go.RowKit
variable [dK] [iK]

/-- A request whose own bytes are read as it is. -/
def Reads (q : Rq) : Prop := ∀ t, rdErr (q.enc ++ t) = 0 ∧ rdN (q.enc ++ t) = q.enc.length ∧ rdQ (q.enc ++ t) = q
theorem reads_def (k kd x y : Int) (hx : 0 ≤ x ∧ x ≤ 18446744073709551615) (hy : 0 ≤ y ∧ y ≤ 18446744073709551615) : Reads ⟨1, k, 0, 0, 0, 0, 0, 0, 0, kd, x, y, 0⟩ := by
  intro t
  have e : Rq.enc ⟨1, k, 0, 0, 0, 0, 0, 0, 0, kd, x, y, 0⟩ = [26, 1, k, 0, 0, 0, 0, 0, 0, 0, kd] ++ be8 x ++ be8 y := rfl
  have eE : rdErr (Rq.enc ⟨1, k, 0, 0, 0, 0, 0, 0, 0, kd, x, y, 0⟩ ++ t) = 0 := by
    rw [e]; simp [rdErr, be8, reqLen]; omega
  have hx := rd_be8 x hx.1 hx.2
  have hy := rd_be8 y hy.1 hy.2
  have eQ := rdQ_1 (Rq.enc ⟨1, k, 0, 0, 0, 0, 0, 0, 0, kd, x, y, 0⟩ ++ t) eE (by rw [e]; rfl)
  have ex : num8 (Rq.enc ⟨1, k, 0, 0, 0, 0, 0, 0, 0, kd, x, y, 0⟩ ++ t) 11 = x := by rw [e]; exact hx
  have ey : num8 (Rq.enc ⟨1, k, 0, 0, 0, 0, 0, 0, 0, kd, x, y, 0⟩ ++ t) 19 = y := by rw [e]; exact hy
  rw [ex, ey] at eQ
  refine ⟨eE, ?_, ?_⟩
  · unfold rdN; rw [if_pos eE, e]; simp [be8]
  · rw [eQ, e]; rfl
theorem reads_adm (k n : Int) (hn : 0 ≤ n ∧ n ≤ 18446744073709551615) : Reads ⟨2, k, 0, 0, 0, 0, 0, 0, 0, 0, 0, 0, n⟩ := by
  intro t
  have e : Rq.enc ⟨2, k, 0, 0, 0, 0, 0, 0, 0, 0, 0, 0, n⟩ = [17, 2, k, 0, 0, 0, 0, 0, 0, 0] ++ be8 n := rfl
  have eE : rdErr (Rq.enc ⟨2, k, 0, 0, 0, 0, 0, 0, 0, 0, 0, 0, n⟩ ++ t) = 0 := by
    rw [e]; simp [rdErr, be8, reqLen]; omega
  have hx := rd_be8 n hn.1 hn.2
  have eQ := rdQ_2 (Rq.enc ⟨2, k, 0, 0, 0, 0, 0, 0, 0, 0, 0, 0, n⟩ ++ t) eE (by rw [e]; rfl)
  have ex : num8 (Rq.enc ⟨2, k, 0, 0, 0, 0, 0, 0, 0, 0, 0, 0, n⟩ ++ t) 10 = n := by rw [e]; exact hx
  rw [ex] at eQ
  refine ⟨eE, ?_, ?_⟩
  · unfold rdN; rw [if_pos eE, e]; simp [be8]
  · rw [eQ, e]; rfl
theorem reads_qry (k : Int) : Reads ⟨3, k, 0, 0, 0, 0, 0, 0, 0, 0, 0, 0, 0⟩ := by
  intro t
  have e : Rq.enc ⟨3, k, 0, 0, 0, 0, 0, 0, 0, 0, 0, 0, 0⟩ = [9, 3, k, 0, 0, 0, 0, 0, 0, 0] := rfl
  have eE : rdErr (Rq.enc ⟨3, k, 0, 0, 0, 0, 0, 0, 0, 0, 0, 0, 0⟩ ++ t) = 0 := by
    rw [e]; simp [rdErr, reqLen]; omega
  have eQ := rdQ_3 (Rq.enc ⟨3, k, 0, 0, 0, 0, 0, 0, 0, 0, 0, 0, 0⟩ ++ t) eE (by rw [e]; exact Or.inl rfl)
  refine ⟨eE, ?_, ?_⟩
  · unfold rdN; rw [if_pos eE, e]; simp
  · rw [eQ, e]; rfl

theorem runL_enc (L : Ld) (q : Rq) (h : Reads q) (t : List Int) : runL L (q.enc ++ t) = ((runL (doM L q).1 t).1, (doM L q).2 :: (runL (doM L q).1 t).2.1, (runL (doM L q).1 t).2.2) := by
  obtain ⟨e1, e2, e3⟩ := h t
  rw [runL_step L _ e1, e2, e3, Int.toNat_natCast, List.drop_left]
theorem runL_nil (L : Ld) : runL L [] = (L, [], [], 1) := runL_stop L [] (by simp [rdErr])

def kK : Ky := ⟨107, 0, 0, 0, 0, 0, 0, 0⟩
def qDef (kd x y : Int) : Rq := ⟨1, 107, 0, 0, 0, 0, 0, 0, 0, kd, x, y, 0⟩
def qAdm (n : Int) : Rq := ⟨2, 107, 0, 0, 0, 0, 0, 0, 0, 0, 0, 0, n⟩
def qQk : Rq := ⟨3, 107, 0, 0, 0, 0, 0, 0, 0, 0, 0, 0, 0⟩
def qQj : Rq := ⟨3, 106, 0, 0, 0, 0, 0, 0, 0, 0, 0, 0, 0⟩
theorem do_def (kd x y : Int) (h : soundM kd x y) : doM ⟨0, 0, []⟩ (qDef kd x y) = (⟨0, 0, [(kK, ⟨kd, x, y, 0, 0⟩)]⟩, ⟨1, 0, 0⟩) := by
  unfold doM qDef
  rw [if_pos rfl, if_neg (by exact fun g => g h), if_neg (by simp [fnd]), if_neg (by simp)]
  rfl
theorem do_qk (kd x y : Int) : doM ⟨0, 0, [(kK, ⟨kd, x, y, 0, 0⟩)]⟩ qQk = (⟨0, 0, [(kK, ⟨kd, x, y, 0, 0⟩)]⟩, ⟨1, 0, 0⟩) := by
  have hf : fnd qQk.key [(kK, (⟨kd, x, y, 0, 0⟩ : Qt))] = some ⟨kd, x, y, 0, 0⟩ := by simp [fnd, qQk, kK, Rq.key]
  have ht : turnM ⟨kd, x, y, 0, 0⟩ 0 = ⟨kd, x, y, 0, 0⟩ := by
    unfold turnM
    split
    · rfl
    · rw [if_pos (by simp)]
  unfold doM
  rw [if_neg (by simp [qQk]), if_neg (by simp [qQk]), if_pos (by simp [qQk])]
  simp only [hf, ht]
theorem do_qj (kd x y : Int) : doM ⟨0, 0, [(kK, ⟨kd, x, y, 0, 0⟩)]⟩ qQj = (⟨0, 0, [(kK, ⟨kd, x, y, 0, 0⟩)]⟩, ⟨4, 0, 0⟩) := by
  have hf : fnd qQj.key [(kK, (⟨kd, x, y, 0, 0⟩ : Qt))] = none := by simp [fnd, qQj, kK, Rq.key]
  unfold doM
  rw [if_neg (by simp [qQj]), if_neg (by simp [qQj]), if_pos (by simp [qQj])]
  simp only [hf]
theorem do_adm (T A n : Int) (z : Qt) : doM ⟨T, A, [(kK, z)]⟩ (qAdm n) = (⟨T, if (admM z T n).2.c = 2 then (A + n) % 18446744073709551616 else A, [(kK, (admM z T n).1)]⟩, (admM z T n).2) := by
  have hf : fnd (qAdm n).key [(kK, z)] = some z := by simp [fnd, qAdm, kK, Rq.key]
  have hu : ∀ z', upd (qAdm n).key z' [(kK, z)] = [(kK, z')] := fun z' => by simp [upd, qAdm, kK, Rq.key]
  unfold doM
  rw [if_neg (by simp [qAdm]), if_pos (by simp [qAdm])]
  simp only [hf, hu]
  rfl

/-- What a new ledger with a key says (P8, P11). -/
theorem opened_reckon (kd x y : Int) (h : soundM kd x y) (hx : 0 ≤ x ∧ x ≤ 18446744073709551615) (hy : 0 ≤ y ∧ y ≤ 18446744073709551615) :
    feedM ⟨0, 0, []⟩ ⟨[], false⟩ 0 (encQs [qDef kd x y, qQk, qQj]) = (⟨0, 0, [(kK, ⟨kd, x, y, 0, 0⟩)]⟩, ⟨[], false⟩, [⟨1, 0, 0⟩, ⟨1, 0, 0⟩, ⟨4, 0, 0⟩]) := by
  have e : encQs [qDef kd x y, qQk, qQj] = (qDef kd x y).enc ++ (qQk.enc ++ (qQj.enc ++ [])) := by simp [encQs]
  have hp : passM ⟨0, 0, []⟩ 0 = ⟨0, 0, []⟩ := rfl
  rw [feedM_good _ _ _ _ rfl, List.nil_append, e, hp, runL_enc _ (qDef kd x y) (reads_def 107 kd x y hx hy), do_def kd x y h, runL_enc _ qQk (reads_qry 107), do_qk, runL_enc _ qQj (reads_qry 106), do_qj, runL_nil]
  rfl
/-- What a ledger with that key says to an Admit. -/
theorem ask_reckon (T A at_ n : Int) (z : Qt) (hn : 0 ≤ n ∧ n ≤ 18446744073709551615) :
    feedM ⟨T, A, [(kK, z)]⟩ ⟨[], false⟩ at_ (encQs [qAdm n]) = (⟨if T < at_ then at_ else T, if (admM z (if T < at_ then at_ else T) n).2.c = 2 then (A + n) % 18446744073709551616 else A, [(kK, (admM z (if T < at_ then at_ else T) n).1)]⟩, ⟨[], false⟩, [(admM z (if T < at_ then at_ else T) n).2]) := by
  have e : encQs [qAdm n] = (qAdm n).enc ++ [] := by simp [encQs]
  have hp : passM ⟨T, A, [(kK, z)]⟩ at_ = ⟨if T < at_ then at_ else T, A, [(kK, z)]⟩ := rfl
  rw [feedM_good _ _ _ _ rfl, List.nil_append, e, hp, runL_enc _ (qAdm n) (reads_adm 107 n hn), do_adm, runL_nil]
  rfl
end Go.Proofs.YtlamgpeiolfffaaGreatDoor
