import Derived.Test.YtnlgndpcddngoaaGreatDoorZc00
import Derived.Test.YtnlgndpcddngoaaGreatDoorZc21
import Derived.Test.YtnlgndpcddngoaaGreatDoorZc22
import Derived.Test.YtnlgndpcddngoaaGreatDoorZc23
import Derived.Test.YtnlgndpcddngoaaGreatDoorZc18
import Derived.Test.YtnlgndpcddngoaaGreatDoorZc07
import Derived.Deep.RegionWith
import Derived.Laws.AppendOwnNone
import Derived.Lib.AppendZerosOnto
import Derived.Lib.AppendZeros
import Derived.LoopN
import Derived.Laws.IdiomStrings
import Derived.Laws.BytesArg
import Derived.Lib.BytesEntry
import Derived.Laws.Externs
import Derived.Sort.Grow
import Derived.Deep.DeepCutAuto
import Derived.Shelf.SlSortCmp.InsertionK
import Derived.Shelf.SlIter.Collect
import Derived.Laws.LoneSync
import Derived.Laws.Small
import Derived.Defers
import Derived.RegionCalls
import Derived.Test.YtnlgndpcddngoaaGreatDoorZc09
import Derived.Deep.QuietTactic
import Derived.BigQuiet
import Derived.Shelf.SlicesE.Index
import Derived.Test.YtnlgndpcddngoaaGreatDoorZc03
import Derived.Deep.AppendLies
import Derived.Deep.RegionHeld3
import Derived.Maps.AppendAt
import Derived.Maps.RangeWalk
import Derived.Laws.IdiomRangeMap
import Derived.Carry
import Derived.Test.YtnlgndpcddngoaaGreatDoorZc06
set_option linter.unusedSectionVars false
namespace Go.Proofs.YtnlgndpcddngoaaGreatDoor
open Go.RowKit
variable [dK] [iK]

theorem rdQ_1 (bs : List Int) (h0 : rdErr bs = 0) (h1 : bs.getD 1 0 = 1) : rdQ bs = ⟨1, bs.getD 2 0, bs.getD 3 0, bs.getD 4 0, bs.getD 5 0, bs.getD 6 0, bs.getD 7 0, bs.getD 8 0, bs.getD 9 0, bs.getD 10 0, num8 bs 11, num8 bs 19, 0⟩ := by
  unfold rdQ; rw [if_pos h0, if_pos h1]
theorem rdQ_2 (bs : List Int) (h0 : rdErr bs = 0) (h1 : bs.getD 1 0 = 2) : rdQ bs = ⟨2, bs.getD 2 0, bs.getD 3 0, bs.getD 4 0, bs.getD 5 0, bs.getD 6 0, bs.getD 7 0, bs.getD 8 0, bs.getD 9 0, 0, 0, 0, num8 bs 10⟩ := by
  unfold rdQ; rw [if_pos h0, if_neg (by omega), if_pos h1]
theorem rdQ_3 (bs : List Int) (h0 : rdErr bs = 0) (h1 : bs.getD 1 0 = 3 ∨ bs.getD 1 0 = 4) : rdQ bs = ⟨bs.getD 1 0, bs.getD 2 0, bs.getD 3 0, bs.getD 4 0, bs.getD 5 0, bs.getD 6 0, bs.getD 7 0, bs.getD 8 0, bs.getD 9 0, 0, 0, 0, 0⟩ := by
  unfold rdQ; rw [if_pos h0, if_neg (by omega), if_neg (by omega), if_pos h1]
theorem rdQ_5 (bs : List Int) (h0 : rdErr bs = 0) (h1 : bs.getD 1 0 = 5 ∨ bs.getD 1 0 = 6) : rdQ bs = ⟨bs.getD 1 0, 0, 0, 0, 0, 0, 0, 0, 0, 0, 0, 0, 0⟩ := by
  unfold rdQ; rw [if_pos h0, if_neg (by omega), if_neg (by omega), if_neg (by omega)]
def errV (k : Int) : Value := if k = 0 then .nilIface else .iface 53 (.int .i64 k)

set_option maxRecDepth 100000 in
set_option maxHeartbeats 1000000 in
theorem read26_err (v : Value) (k : Int) (w : World)
    (hbody : Hid (∀ w1, Below w.heap.size w w1 → Calls Tryz.prog 103 #[.agg #[.int .u8 1, .int .u8 26, .func (.func 66) #[] #[]], v] w1 fun e w' => e = .returned (.tuple #[.slice none 0 0, .iface 53 (.int .i64 k)]) ∧ Below w1.heap.size w1 w')) :
    Calls Tryz.prog 72 #[v] w fun e w' => e = .returned (.tuple #[.agg #[.int .u8 0, .int .u8 0, .int .u8 0, .int .u8 0, .int .u8 0, .int .u8 0, .int .u8 0, .int .u8 0, .int .u8 0, .int .u8 0, .int .u64 0, .int .u64 0, .int .u64 0], .int .i64 0, .iface 53 (.int .i64 k)]) ∧ Below w.heap.size w w' := by
  go_enter Tryz.func72, Tryz.ntmps72
  go_wp2_with fail
  refine (requests_any _).mono ?_
  rintro e w1 ⟨rfl, hb1⟩
  have hB1 : Below w.heap.size w w1 := ((Below.refl _ w).alloc (Nat.le_refl _) _).trans (hb1.mono (by simp))
  have hs1 : w.heap.size < w1.heap.size := by have := hb1.size; simp at this; omega
  go_wp2_with fail
  refine (hbody.out w1 hB1).mono ?_
  rintro e w2 ⟨rfl, hb2⟩
  have hB2 : Below w.heap.size w w2 := hB1.trans (hb2.mono (by omega))
  have hR : ∀ j, w2.cell? ⟨w.heap.size, j, none⟩ = (#[.int .u8 0, .int .u8 0, .int .u8 0, .int .u8 0, .int .u8 0, .int .u8 0, .int .u8 0, .int .u8 0, .int .u8 0, .int .u8 0, .int .u64 0, .int .u64 0, .int .u64 0] : Array Value)[j]? := fun j => (hb2.cell (p := ⟨w.heap.size, j, none⟩) hs1).trans ((hb1.cell (p := ⟨w.heap.size, j, none⟩) (by simp)).trans (cell_box w _ _ j))
  have hRf : ∀ j, w2.frozen? ⟨w.heap.size, j, none⟩ = false := fun j => (hb2.frozen (p := ⟨w.heap.size, j, none⟩) hs1).trans ((hb1.frozen (p := ⟨w.heap.size, j, none⟩) (by simp)).trans (by simp))
  clear hb1 hb2
  go_wp2
  refine bodyPost_ret (v := .tuple #[.agg #[.int .u8 0, .int .u8 0, .int .u8 0, .int .u8 0, .int .u8 0, .int .u8 0, .int .u8 0, .int .u8 0, .int .u8 0, .int .u8 0, .int .u64 0, .int .u64 0, .int .u64 0], .int .i64 0, .iface 53 (.int .i64 k)]) (by simp [results, Tryz.results72, go_sem, hR]) rfl ⟨rfl, ?_⟩
  repeat (refine Below.setCell ?_ (by first | exact Nat.le_refl _ | (show _ ≤ w2.heap.size; omega)) _)
  exact hB2

theorem read26_nil (ao : Option Addr) (cap : Nat) (w : World) :
    Calls Tryz.prog 72 #[.slice ao 0 cap] w fun e w' => e = .returned (.tuple #[.agg #[.int .u8 0, .int .u8 0, .int .u8 0, .int .u8 0, .int .u8 0, .int .u8 0, .int .u8 0, .int .u8 0, .int .u8 0, .int .u8 0, .int .u64 0, .int .u64 0, .int .u64 0], .int .i64 0, .iface 53 (.int .i64 1)]) ∧ Below w.heap.size w w' := by
  refine read26_err _ 1 w ?_
  intro w1 _
  refine body_short 1 26 66 _ w1 ?_
  intro w2 _
  exact begin0 ao cap w2

/-- frame.ReadRequest, over bytes that are not none. -/
theorem read26_cons (g so cap : Nat) (b0 : Int) (t : List Int) (w : World) (hcap : (b0 :: t).length ≤ cap) (hlen : (b0 :: t).length ≤ 1048576) (hg : g < w.heap.size)
    (hc : ∀ j, j < (b0 :: t).length → w.cell? ⟨g, so + j, none⟩ = some (.int .u8 ((b0 :: t).getD j 0))) (hr : ∀ j, 0 ≤ (b0 :: t).getD j 0 ∧ (b0 :: t).getD j 0 ≤ 255) (q : Rq) (hq : q = rdQ (b0 :: t)) :
    Calls Tryz.prog 72 #[.slice (some ⟨g, so, none⟩) (b0 :: t).length cap] w fun e w' => e = .returned (.tuple #[.agg #[.int .u8 q.op, .int .u8 q.k0, .int .u8 q.k1, .int .u8 q.k2, .int .u8 q.k3, .int .u8 q.k4, .int .u8 q.k5, .int .u8 q.k6, .int .u8 q.k7, .int .u8 q.kd, .int .u64 q.x, .int .u64 q.y, .int .u64 q.n], .int .i64 (rdN (b0 :: t)), errV (rdErr (b0 :: t))]) ∧ Below w.heap.size w w' := by
  have c0 : w.cell? ⟨g, so, none⟩ = some (.int .u8 b0) := hc 0 (by simp)
  have r0 : 0 ≤ b0 ∧ b0 ≤ 255 := hr 0
  by_cases hlo : b0 < 1
  · have e1 : rdErr (b0 :: t) = 2 := by simp [rdErr, hlo]
    have e2 : rdQ (b0 :: t) = Rq.zero := by simp [rdQ, e1]
    have e3 : rdN (b0 :: t) = 0 := by simp [rdN, e1]
    subst hq
    rw [e1, e2, e3]
    refine read26_err _ 2 w ?_
    intro w1 hB
    refine body_frame 1 26 66 _ w1 ?_
    intro w2 hB2
    have hB3 := hB.trans (hB2.mono hB.size)
    exact begin1 g so _ cap b0 w2 (by simp) (Nat.lt_of_lt_of_le hg hB3.size) ((hB3.cell (p := ⟨g, so, none⟩) hg).trans c0) hlo
  by_cases hhi : 26 < b0
  · have e1 : rdErr (b0 :: t) = 2 := by simp [rdErr, hhi]
    have e2 : rdQ (b0 :: t) = Rq.zero := by simp [rdQ, e1]
    have e3 : rdN (b0 :: t) = 0 := by simp [rdN, e1]
    subst hq
    rw [e1, e2, e3]
    refine read26_err _ 2 w ?_
    intro w1 hB
    refine body_frame 1 26 66 _ w1 ?_
    intro w2 hB2
    have hB3 := hB.trans (hB2.mono hB.size)
    exact begin2 g so _ cap b0 w2 (by simp) (Nat.lt_of_lt_of_le hg hB3.size) ((hB3.cell (p := ⟨g, so, none⟩) hg).trans c0) hlo hhi
  have hor : ¬ (b0 < 1 ∨ 26 < b0) := by omega
  cases t with
  | nil =>
    have e1 : rdErr [b0] = 1 := by simp [rdErr, hor]
    have e2 : rdQ [b0] = Rq.zero := by simp [rdQ, e1]
    have e3 : rdN [b0] = 0 := by simp [rdN, e1]
    subst hq
    rw [e1, e2, e3]
    refine read26_err _ 1 w ?_
    intro w1 hB
    refine body_short 1 26 66 _ w1 ?_
    intro w2 hB2
    have hB3 := hB.trans (hB2.mono hB.size)
    exact begin3 g so _ cap b0 w2 (by simp) (Nat.lt_of_lt_of_le hg hB3.size) ((hB3.cell (p := ⟨g, so, none⟩) hg).trans c0) hlo hhi (by simp)
  | cons b1 t =>
    have c1 : w.cell? ⟨g, so + 1, none⟩ = some (.int .u8 b1) := hc 1 (by simp)
    by_cases heq : b0 = reqLen b1
    · by_cases hle : (((b0 :: b1 :: t).length : Nat) : Int) ≤ b0
      · have e1 : rdErr (b0 :: b1 :: t) = 1 := by simp only [rdErr]; rw [if_neg hor, if_pos heq, if_pos hle]
        have e2 : rdQ (b0 :: b1 :: t) = Rq.zero := by simp [rdQ, e1]
        have e3 : rdN (b0 :: b1 :: t) = 0 := by simp [rdN, e1]
        subst hq
        rw [e1, e2, e3]
        refine read26_err _ 1 w ?_
        intro w1 hB
        refine body_short2 1 26 66 g so _ cap b0 w1 (by simp) r0.1 r0.2 (Nat.lt_of_lt_of_le hg hB.size) ((hB.cell (p := ⟨g, so, none⟩) hg).trans c0) hle ?_
        intro w2 hB2
        have hB3 := hB.trans (hB2.mono hB.size)
        refine (begin4 g so _ cap b0 b1 w2 (by simp) (Nat.lt_of_lt_of_le hg hB3.size) ((hB3.cell (p := ⟨g, so, none⟩) hg).trans c0) ((hB3.cell (p := ⟨g, so + 1, none⟩) hg).trans c1) hlo hhi).mono ?_
        rintro e w3 ⟨rfl, hb⟩
        exact ⟨by rw [if_pos heq], hb⟩
      · have e1 : rdErr (b0 :: b1 :: t) = 0 := by simp only [rdErr]; rw [if_neg hor, if_pos heq, if_neg hle]
        have e3 : rdN (b0 :: b1 :: t) = b0 + 1 := by simp [rdN, e1]
        have eV : errV 0 = .nilIface := rfl
        rw [e1, e3, eV]
        have hcj : ∀ j, j ≤ b0.toNat → w.cell? ⟨g, so + j, none⟩ = some (.int .u8 ((b0 :: b1 :: t).getD j 0)) := fun j hj => hc j (by omega)
        by_cases h1 : b1 = 1
        · subst h1
          obtain rfl : b0 = 26 := heq
          have e2 : q = _ := hq.trans (rdQ_1 _ e1 rfl)
          subst e2
          exact rreq1 g so _ cap _ _ _ _ _ _ _ _ w (by omega) hcap hlen hg c0 c1 (hcj 2 (by decide)) (hcj 3 (by decide)) (hcj 4 (by decide)) (hcj 5 (by decide)) (hcj 6 (by decide)) (hcj 7 (by decide)) (hcj 8 (by decide)) (hcj 9 (by decide)) _ (hcj 10 (by decide)) _ _ (fun j hj => by rw [Nat.add_assoc]; exact hcj (11 + j) (by show _ ≤ 26; omega)) (fun j => hr (11 + j)) (fun j hj => by rw [Nat.add_assoc]; exact hcj (19 + j) (by show _ ≤ 26; omega)) (fun j => hr (19 + j))
        by_cases h2 : b1 = 2
        · subst h2
          obtain rfl : b0 = 17 := heq
          have e2 : q = _ := hq.trans (rdQ_2 _ e1 rfl)
          subst e2
          exact rreq2 g so _ cap _ _ _ _ _ _ _ _ w (by omega) hcap hlen hg c0 c1 (hcj 2 (by decide)) (hcj 3 (by decide)) (hcj 4 (by decide)) (hcj 5 (by decide)) (hcj 6 (by decide)) (hcj 7 (by decide)) (hcj 8 (by decide)) (hcj 9 (by decide)) _ (fun j hj => by rw [Nat.add_assoc]; exact hcj (10 + j) (by show _ ≤ 17; omega)) (fun j => hr (10 + j))
        by_cases h3 : b1 = 3
        · subst h3
          obtain rfl : b0 = 9 := heq
          have e2 : q = _ := hq.trans (rdQ_3 _ e1 (Or.inl rfl))
          subst e2
          exact rreq3 g so _ cap _ _ _ _ _ _ _ _ w (by omega) hcap hlen hg c0 c1 (hcj 2 (by decide)) (hcj 3 (by decide)) (hcj 4 (by decide)) (hcj 5 (by decide)) (hcj 6 (by decide)) (hcj 7 (by decide)) (hcj 8 (by decide)) (hcj 9 (by decide))
        by_cases h4 : b1 = 4
        · subst h4
          obtain rfl : b0 = 9 := heq
          have e2 : q = _ := hq.trans (rdQ_3 _ e1 (Or.inr rfl))
          subst e2
          exact rreq4 g so _ cap _ _ _ _ _ _ _ _ w (by omega) hcap hlen hg c0 c1 (hcj 2 (by decide)) (hcj 3 (by decide)) (hcj 4 (by decide)) (hcj 5 (by decide)) (hcj 6 (by decide)) (hcj 7 (by decide)) (hcj 8 (by decide)) (hcj 9 (by decide))
        by_cases h5 : b1 = 5
        · subst h5
          obtain rfl : b0 = 1 := heq
          have e2 : q = _ := hq.trans (rdQ_5 _ e1 (Or.inl rfl))
          subst e2
          exact rreq5 g so _ cap w (by omega) hcap hlen hg c0 c1
        by_cases h6 : b1 = 6
        · subst h6
          obtain rfl : b0 = 1 := heq
          have e2 : q = _ := hq.trans (rdQ_5 _ e1 (Or.inr rfl))
          subst e2
          exact rreq6 g so _ cap w (by omega) hcap hlen hg c0 c1
        exact absurd heq (by simp [reqLen, h1, h2, h3, h4, h5, h6]; omega)
    · have e1 : rdErr (b0 :: b1 :: t) = 2 := by simp only [rdErr]; rw [if_neg hor, if_neg heq]
      have e2 : rdQ (b0 :: b1 :: t) = Rq.zero := by simp [rdQ, e1]
      have e3 : rdN (b0 :: b1 :: t) = 0 := by simp [rdN, e1]
      subst hq
      rw [e1, e2, e3]
      refine read26_err _ 2 w ?_
      intro w1 hB
      refine body_frame 1 26 66 _ w1 ?_
      intro w2 hB2
      have hB3 := hB.trans (hB2.mono hB.size)
      refine (begin4 g so _ cap b0 b1 w2 (by simp) (Nat.lt_of_lt_of_le hg hB3.size) ((hB3.cell (p := ⟨g, so, none⟩) hg).trans c0) ((hB3.cell (p := ⟨g, so + 1, none⟩) hg).trans c1) hlo hhi).mono ?_
      rintro e w3 ⟨rfl, hb⟩
      exact ⟨by rw [if_neg heq], hb⟩
end Go.Proofs.YtnlgndpcddngoaaGreatDoor

namespace Go.Proofs.YtnlgndpcddngoaaGreatDoor
open Go.RowKit
variable [dK] [iK]

/-- plain.Told, of no error and of one. -/
theorem told_any (k : Int) (w : World) (hg : w.cell? ⟨0, 0, none⟩ = some (.iface 236 (.agg #[.pointer (some ⟨5, 97, none⟩)]))) :
    Calls Tryz.prog 35 #[errV k] w fun e w' => e = .returned (.int .i64 k) ∧ Below w.heap.size w w' := by
  by_cases h : k = 0
  · subst h; exact told_nil w
  · rw [errV, if_neg h]; exact told_err k w hg

theorem own_shape {w : World} {base : Nat} {v : Value} {n : Nat} {bs : List Int} (h : w.ownsRow base 5 1 v n (bs.map (Value.int .u8))) (hnp : 0 < n) (hn : bs.length = n) :
    ∃ g cap, v = .slice (some ⟨g, 0, none⟩) n cap ∧ base ≤ g ∧ g < w.heap.size ∧ n ≤ cap ∧ ∀ j, j < n → w.cell? ⟨g, j, none⟩ = some (.int .u8 (bs.getD j 0)) := by
  rcases h.2 with ⟨_, h0⟩ | ⟨g, cap, cur, hv, hb, hg, hnc, _⟩
  · omega
  · refine ⟨g, cap, hv, hb, (Array.getElem?_eq_some_iff.1 hg).1, hnc, fun j hj => ?_⟩
    subst hv
    rw [h.cellAt j (by omega)]
    simp [List.getD, List.getElem?_eq_getElem (show j < bs.length by omega)]

/-- A slice whose bytes are these. -/
def Src (w : World) (vb : Value) (bs : List Int) : Prop :=
  (bs = [] ∧ (vb = .slice none 0 0 ∨ ∃ sg so cap, vb = .slice (some ⟨sg, so, none⟩) 0 cap)) ∨
  (0 < bs.length ∧ ∃ sg so cap, vb = .slice (some ⟨sg, so, none⟩) bs.length cap ∧ sg < w.heap.size ∧ ∀ j u, (bs.map (Value.int .u8))[j]? = some u → w.cell? ⟨sg, so + j, none⟩ = some u)

end Go.Proofs.YtnlgndpcddngoaaGreatDoor

namespace Go.Proofs.YtnlgndpcddngoaaGreatDoor
open Go.RowKit
variable [dK] [iK]

set_option maxRecDepth 100000 in
theorem grow_zero (w : World) : Calls Tryz.prog 75 #[.slice none 0 0, .int .i64 0] w fun e w' => e = .returned (.slice none 0 0) ∧ w' = w := by
  go_enter Tryz.func75, Tryz.ntmps75
  go_wp2
  go_ret
  exact ⟨rfl, rfl⟩

set_option maxRecDepth 100000 in
set_option maxHeartbeats 1000000 in
theorem grow_pos (n : Nat) (hn : 0 < n) (hn1 : n ≤ 4194304) (w : World) :
    Calls Tryz.prog 75 #[.slice none 0 0, .int .i64 n] w fun e w' => ∃ v, e = .returned v ∧ w'.ownsRow w.heap.size 5 1 v 0 [] ∧ Below w.heap.size w w' := by
  obtain ⟨i0, hi, hz0, hz1, hz2⟩ := info_parts Tryz.info5
  have hold : (Builtin.firstCells i0.size 0 (.slice none 0 0)).run Tryz.prog w.drew = .ok ([] : List Value).toArray w.drew := run_firstCells_none w.drew i0.size 0 0 0
  have hrz : ∀ ty, (Builtin.append_ #[76, 3] ty #[.slice none 0 0, .int .i64 n]).run Tryz.prog w =
      .ok (.slice (some ⟨w.heap.size, 0, none⟩) n (grownCap w n 0 5)) (w.drew.alloc (.cells (([] : List Value).toArray ++ Builtin.zeroCells (Value.int .u8 0).cells n ++ Builtin.zeroCells (Value.int .u8 0).cells (grownCap w n 0 5 - n)) 5)) := fun ty => by
    have h := Lib.run_append_grow_zeros (P := Tryz.prog) w 76 3 ty 5 i0 (.int .u8 0) .i64 .i64 Tryz.underlying76 Tryz.underlying3 hi hz0 none 0 0 [] hold n hn (by omega) (by omega) (by omega) (by rw [hz2]; omega)
      (by rw [Nat.zero_add]; exact growslice_fits (by omega) (by rw [hz2]; omega))
    rw [Nat.zero_add] at h
    exact h
  have hGn : n ≤ grownCap w n 0 5 := grownCap_ge w _ _ _
  have hGm := grownCap_le_maxLen w n 0 5 (by unfold maxLen; omega)
  obtain ⟨G, hG⟩ : ∃ G, G = grownCap w n 0 5 := ⟨_, rfl⟩
  rw [← hG] at hrz hGn hGm
  clear hold hG
  have hGm' : G ≤ 9223372036854775807 := by unfold maxLen at hGm; omega
  have h1 : ¬ ((n : Int) < 0) := by omega
  have h4 : (n : Int) > 0 := by omega
  go_enter Tryz.func75, Tryz.ntmps75
  go_wp2_with (at_builtin; refine Lib.wpList_append_run _ rfl _ _ _ _ rfl _ _ rfl rfl _ _ (hrz _) ?_)
  go_ret
  refine ⟨_, rfl, ⟨rfl, Or.inr ⟨w.heap.size, G, _, rfl, Nat.le_refl _, heapN (by simp), Nat.zero_le _, hGm, ?_, by simp⟩⟩, ((Below.refl _ w).drew).alloc (Nat.le_refl _) _⟩
  simp [Builtin.zeroCells]
  omega
end Go.Proofs.YtnlgndpcddngoaaGreatDoor

namespace Go.Proofs.YtnlgndpcddngoaaGreatDoor
open Go.RowKit
variable [dK] [iK]

theorem Src.shape {w : World} {v : Value} {bs : List Int} (h : Src w v bs) : ∃ a c, v = .slice a bs.length c := by
  rcases h with ⟨rfl, rfl | ⟨sg, so, cap, rfl⟩⟩ | ⟨_, sg, so, cap, rfl, _⟩
  · exact ⟨_, _, rfl⟩
  · exact ⟨_, _, rfl⟩
  · exact ⟨_, _, rfl⟩
theorem Src.kept {w w' : World} {v : Value} {bs : List Int} (h : Src w v bs) (hs : w.heap.size ≤ w'.heap.size) (hk : ∀ g o n c, v = .slice (some ⟨g, o, none⟩) n c → g < w.heap.size → w'.heap[g]? = w.heap[g]?) : Src w' v bs := by
  rcases h with h | ⟨h1, sg, so, cap, rfl, h2, h3⟩
  · exact Or.inl h
  · exact Or.inr ⟨h1, sg, so, cap, rfl, Nat.lt_of_lt_of_le h2 hs, fun j u hj => (World.cell?_of_block (w := w) (hk sg so _ _ rfl h2)).trans (h3 j u hj)⟩
theorem Src.below {w w' : World} {v : Value} {bs : List Int} {B : Nat} (h : Src w v bs) (hb : Below B w w') (hB : w.heap.size ≤ B) : Src w' v bs :=
  h.kept hb.size fun g _ _ _ _ hg => hb.block g (Nat.lt_of_lt_of_le hg hB)
theorem Src.of_own {w : World} {base : Nat} {v : Value} {n : Nat} {bs : List Int} (h : w.ownsRow base 5 1 v n (bs.map (Value.int .u8))) : Src w v bs := by
  have hn : bs.length = n := by simpa using h.1
  rcases h.2 with ⟨h1, h2⟩ | ⟨g, cap, cur, hv, hb, hg, hnc, _⟩
  · exact Or.inl ⟨List.length_eq_zero_iff.1 (hn.trans h2), Or.inl h1⟩
  · by_cases h0 : bs = []
    · subst h0
      simp at hn
      subst hn
      exact Or.inl ⟨rfl, Or.inr ⟨g, 0, cap, hv⟩⟩
    · have hp : 0 < bs.length := List.length_pos_iff.2 h0
      obtain ⟨g, cap, hv, _, hgl, _, hc⟩ := own_shape h (by omega) hn
      refine Or.inr ⟨hp, g, 0, cap, by rw [hv, hn], hgl, fun j u hj => ?_⟩
      have hjl : j < bs.length := by
        have := (List.getElem?_eq_some_iff.1 hj).1
        simpa using this
      rw [Nat.zero_add, hc j (by omega), ← hj]
      simp [List.getD, List.getElem?_eq_getElem hjl]

/-- append of bytes, from whatever slice. -/
theorem wpList_append_src {ops : Array Oper} {rest : List Oper} {o : Oper} {a : Act} {Q : Exit → Act → World → Prop} {w : World} (hgd : o.guard = none) (s x : Operand)
    (ho : o.op = .call { callee := .builtin .append, args := #[s, x], argTypes := #[76, 76] }) (base : Nat) (v : Value) (n : Nat) (b0 : List Int) (hs : a.eval s = v) (hown : w.ownsRow base 5 1 v n (b0.map (Value.int .u8)))
    (vx : Value) (bs : List Int) (hx : a.eval x = vx) (hsrc : Src w vx bs) (hb : n + bs.length ≤ 4194304) (hbase : base ≤ w.heap.size)
    (h : ∀ v' w', w'.ownsRow base 5 1 v' (n + bs.length) ((b0 ++ bs).map (Value.int .u8)) → w.grownBy w' v.ownBlock → wpList Tryz.prog ops Q rest (a.put o.dst v') w') : wpList Tryz.prog ops Q (o :: rest) a w := by
  obtain ⟨i0, hi, hz0, hz1, hz2⟩ := info_parts Tryz.info5
  have main : ∀ (ad : Addr) (m c : Nat), vx = .slice (some ad) m c → bs.length = m → (∀ j u, (bs.map (Value.int .u8))[j]? = some u → w.cell? (ad.add j) = some u) → wpList Tryz.prog ops Q (o :: rest) a w := by
    intro ad m c e1 e2 e3
    subst e1
    refine wpList_append_own (w := w) hgd s x 76 ho base 5 i0 (.int .u8 0) 1 1 Tryz.underlying76 hi hz0 hz1 hz2 rfl (by decide) v n _ hs hown ad m c (bs.map (Value.int .u8)) hx (by simpa using e2) e3 (ints_oneCell _ _) (by unfold maxLen; omega) (by omega) hbase ?_
    intro v' w' h1 h2 _
    refine h v' w' ?_ h2
    rw [e2, List.map_append]
    exact h1
  rcases hsrc with ⟨rfl, rfl | ⟨sg, so, cap, rfl⟩⟩ | ⟨_, sg, so, cap, e, _, hc⟩
  · refine wpList_append_own_none hgd s x 76 ho base 5 i0 1 Tryz.underlying76 hi v n _ hs hown hx ?_
    refine h v w ?_ (World.grownBy.refl w _)
    simpa using hown
  · exact main ⟨sg, so, none⟩ 0 cap rfl rfl (fun j u hj => by simp at hj)
  · exact main ⟨sg, so, none⟩ bs.length cap e rfl (fun j u hj => by rw [Addr.add_lit]; exact hc j u hj)

theorem grow_any (n : Nat) (k : Int) (hk : k = n) (hn1 : n ≤ 4194304) (w : World) :
    Calls Tryz.prog 75 #[.slice none 0 0, .int .i64 k] w fun e w' => ∃ v, e = .returned v ∧ w'.ownsRow w.heap.size 5 1 v 0 (([] : List Int).map (Value.int .u8)) ∧ Below w.heap.size w w' := by
  subst hk
  by_cases h : n = 0
  · subst h
    refine (grow_zero w).mono ?_
    rintro e w' ⟨rfl, rfl⟩
    exact ⟨_, rfl, World.ownsRow_nil _ _ _ _, Below.refl _ _⟩
  · exact grow_pos n (by omega) hn1 w

set_option maxRecDepth 100000 in
set_option maxHeartbeats 2000000 in
theorem concat2 (A : Nat) (v1 v2 : Value) (b1 b2 : List Int) (t : TypeId) (w : World) (hA : w.heap[A]? = some (.cells #[v1, v2] t)) (hs1 : Src w v1 b1) (hs2 : Src w v2 b2) (hl1 : b1.length ≤ 1048576) (hl2 : b2.length ≤ 1048576) :
    Calls Tryz.prog 49 #[.slice (some ⟨A, 0, none⟩) 2 2] w fun e w' => ∃ v', e = .returned v' ∧ w'.ownsRow w.heap.size 5 1 v' (b1.length + b2.length) ((b1 ++ b2).map (Value.int .u8)) ∧ Below w.heap.size w w' := by
  obtain ⟨x1, c1, e1⟩ := hs1.shape
  obtain ⟨x2, c2, e2⟩ := hs2.shape
  have HS1 := hide hs1
  have HS2 := hide hs2
  have lA := ltB hA
  clear hs1 hs2
  subst e1 e2
  have a1 := cellB hA
  obtain ⟨n1, hn1⟩ : ∃ n, n = b1.length := ⟨_, rfl⟩
  obtain ⟨n2, hn2⟩ : ∃ n, n = b2.length := ⟨_, rfl⟩
  rw [← hn1] at a1 hl1 ⊢
  rw [← hn2] at a1 hl2 ⊢
  have HN1 := hide hn1
  have HN2 := hide hn2
  clear hn1 hn2
  go_enter Tryz.func49, Tryz.ntmps49
  go_wp2
  refine wp_loop_rounds 3 ?_
  rw [rounds_succ]
  go_wp2
  rw [rounds_succ]
  go_wp2
  rw [rounds_succ]
  go_wp2_with fail
  refine (grow_any (n1 + n2) _ (by omega) (by omega) w).mono ?_
  rintro e w1 ⟨u0, rfl, hown0, hb0⟩
  have g1 := cellB ((hb0.block A lA).trans hA)
  have hs0 := hb0.size
  rw [← HN1.out, ← HN2.out] at g1
  clear a1
  go_wp2
  refine wp_loop_rounds 3 ?_
  rw [rounds_succ]
  go_wp2_with (at_builtin; refine wpList_append_src rfl _ _ rfl w.heap.size u0 0 [] rfl hown0 _ b1 (by exact congrArg (fun z => Value.slice x1 z c1) HN1.out) (HS1.out.below hb0 (Nat.le_refl _)) (by rw [← HN1.out]; omega) (by omega) ?_; intro u1 w2 hown1 hgr1)
  have hb2 : Below w.heap.size w w2 := hb0.grown hgr1 hs0 (fun k hk => (hown0.lt k hk).1)
  have g2 := cellB ((hb2.block A lA).trans hA)
  rw [← HN1.out, ← HN2.out] at g2
  have hs2 := hb2.size
  clear g1
  rw [rounds_succ]
  go_wp2_with (at_builtin; refine wpList_append_src rfl _ _ rfl w.heap.size u1 (0 + b1.length) ([] ++ b1) rfl hown1 _ b2 (by exact congrArg (fun z => Value.slice x2 z c2) HN2.out) (HS2.out.below hb2 (Nat.le_refl _)) (by rw [← HN1.out, ← HN2.out]; omega) (by omega) ?_; intro u2 w3 hown2 hgr2)
  have hb3 : Below w.heap.size w w3 := hb2.grown hgr2 hs2 (fun k hk => (hown1.lt k hk).1)
  rw [rounds_succ]
  go_wp2
  go_ret
  refine ⟨_, rfl, ?_, hb3⟩
  have := hown2
  rw [Nat.zero_add, ← HN1.out, ← HN2.out] at this
  exact this
end Go.Proofs.YtnlgndpcddngoaaGreatDoor

namespace Go.Proofs.YtnlgndpcddngoaaGreatDoor
open Go.RowKit
variable [dK] [iK]

/-- A slice of bytes, with room behind them or none. -/
def Sl (w : World) (vb : Value) (bs : List Int) : Prop :=
  (bs = [] ∧ (vb = .slice none 0 0 ∨ ∃ g o c, vb = .slice (some ⟨g, o, none⟩) 0 c)) ∨
  (0 < bs.length ∧ ∃ g o c, vb = .slice (some ⟨g, o, none⟩) bs.length c ∧ bs.length ≤ c ∧ g < w.heap.size ∧ ∀ j, j < bs.length → w.cell? ⟨g, o + j, none⟩ = some (.int .u8 (bs.getD j 0)))
theorem Sl.kept {w w' : World} {v : Value} {bs : List Int} (h : Sl w v bs) (hs : w.heap.size ≤ w'.heap.size) (hk : ∀ g o n c, v = .slice (some ⟨g, o, none⟩) n c → g < w.heap.size → w'.heap[g]? = w.heap[g]?) : Sl w' v bs := by
  rcases h with h | ⟨h1, sg, so, cap, rfl, h0, h2, h3⟩
  · exact Or.inl h
  · exact Or.inr ⟨h1, sg, so, cap, rfl, h0, Nat.lt_of_lt_of_le h2 hs, fun j hj => (World.cell?_of_block (w := w) (hk sg so _ _ rfl h2)).trans (h3 j hj)⟩
theorem Sl.below {w w' : World} {v : Value} {bs : List Int} {B : Nat} (h : Sl w v bs) (hb : Below B w w') (hB : w.heap.size ≤ B) : Sl w' v bs :=
  h.kept hb.size fun g _ _ _ _ hg => hb.block g (Nat.lt_of_lt_of_le hg hB)
theorem Sl.src {w : World} {v : Value} {bs : List Int} (h : Sl w v bs) : Src w v bs := by
  rcases h with h | ⟨h1, sg, so, cap, rfl, h0, h2, h3⟩
  · exact Or.inl h
  · refine Or.inr ⟨h1, sg, so, cap, rfl, h2, fun j u hj => ?_⟩
    have hjl : j < bs.length := by
      have := (List.getElem?_eq_some_iff.1 hj).1
      simpa using this
    rw [h3 j hjl, ← hj]
    simp [List.getD, List.getElem?_eq_getElem hjl]
theorem Sl.of_own {w : World} {base : Nat} {v : Value} {n : Nat} {bs : List Int} (h : w.ownsRow base 5 1 v n (bs.map (Value.int .u8))) : Sl w v bs := by
  have hn : bs.length = n := by simpa using h.1
  rcases h.2 with ⟨h1, h2⟩ | ⟨g, cap, cur, hv, hb, hg, hnc, _⟩
  · exact Or.inl ⟨List.length_eq_zero_iff.1 (hn.trans h2), Or.inl h1⟩
  · by_cases h0 : bs = []
    · subst h0
      simp at hn
      subst hn
      exact Or.inl ⟨rfl, Or.inr ⟨g, 0, cap, hv⟩⟩
    · have hp : 0 < bs.length := List.length_pos_iff.2 h0
      obtain ⟨g, cap, hv, _, hgl, hnc, hc⟩ := own_shape h (by omega) hn
      exact Or.inr ⟨hp, g, 0, cap, by rw [hv, hn], by omega, hgl, fun j hj => by rw [Nat.zero_add, hc j (by omega)]⟩
theorem Sl.shape {w : World} {v : Value} {bs : List Int} (h : Sl w v bs) : ∃ a c, v = .slice a bs.length c := h.src.shape

theorem read67 (vb : Value) (bs : List Int) (w : World) (hs : Sl w vb bs) (hlen : bs.length ≤ 1048576) (hr : ∀ j, 0 ≤ bs.getD j 0 ∧ bs.getD j 0 ≤ 255) (q : Rq) (hq : q = rdQ bs) (m er : Int) (hm : m = rdN bs) (her : er = rdErr bs) :
    Calls Tryz.prog 72 #[vb] w fun e w' => e = .returned (.tuple #[.agg #[.int .u8 q.op, .int .u8 q.k0, .int .u8 q.k1, .int .u8 q.k2, .int .u8 q.k3, .int .u8 q.k4, .int .u8 q.k5, .int .u8 q.k6, .int .u8 q.k7, .int .u8 q.kd, .int .u64 q.x, .int .u64 q.y, .int .u64 q.n], .int .i64 m, errV er]) ∧ Below w.heap.size w w' := by
  subst hm her
  rcases hs with ⟨rfl, rfl | ⟨g, o, c, rfl⟩⟩ | ⟨hp, g, o, c, rfl, h0, h2, h3⟩
  · subst hq; exact read26_nil _ _ w
  · subst hq; exact read26_nil _ _ w
  · cases bs with
    | nil => simp at hp
    | cons b0 t => exact read26_cons g o c b0 t w h0 hlen h2 h3 hr q hq
end Go.Proofs.YtnlgndpcddngoaaGreatDoor

namespace Go.Proofs.YtnlgndpcddngoaaGreatDoor
open Go.RowKit
variable [dK] [iK]

/-- A string's bytes, as numbers. -/
def numsOf (s : ByteArray) : List Int := s.data.toList.map (fun b => (b.toNat : Int))
theorem numsOf_length (s : ByteArray) : (numsOf s).length = s.size := by simp [numsOf]
theorem numsOf_append (a b : ByteArray) : numsOf (a ++ b) = numsOf a ++ numsOf b := by simp [numsOf]
theorem numsOf_str (xs : List Int) (h : Bytes xs) : numsOf (strOfNums xs) = xs := by
  unfold numsOf
  rw [strOfNums_data, List.map_map]
  conv => rhs; rw [← List.map_id xs]
  apply List.map_congr_left
  intro x hx
  have := h x hx
  simp
  omega
theorem numsOf_bytes (s : ByteArray) : Bytes (numsOf s) := by
  intro x hx
  obtain ⟨b, _, rfl⟩ := List.mem_map.1 hx
  have := b.toNat_lt
  omega
theorem strOf_app (a b : List Int) : strOfNums (a ++ b) = strOfNums a ++ strOfNums b := by
  apply ByteArray.ext
  apply Array.ext'
  simp [strOfNums_data]
theorem conv_own {w : World} {base n : Nat} {v : Value} {bs : List Int} (h : w.ownsRow base 5 1 v n (bs.map (Value.int .u8))) (hn : bs.length = n) : (convert 76 9 v).run Tryz.prog w = .ok (.string (strOfNums bs)) w := by
  rcases h.2 with ⟨h2, h0⟩ | ⟨g, cap, cur, hv, _⟩
  · have hb : bs = [] := List.eq_nil_of_length_eq_zero (by omega)
    subst hb h2
    exact run_convert_bytes_nil w 76 5 Tryz.underlying76 Tryz.underlying5 0 0 9 Tryz.underlying9
  · subst hv
    refine run_convert_bytes_arg (P := Tryz.prog) w 76 5 Tryz.underlying76 Tryz.underlying5 g 0 n cap bs hn (fun i hi => ?_) 9 Tryz.underlying9
    rw [Nat.zero_add, h.cellAt i (by omega)]
    simp [List.getD, List.getElem?_eq_getElem (show i < bs.length by omega)]

def Rq.enc (q : Rq) : List Int := encReq q.op q.k0 q.k1 q.k2 q.k3 q.k4 q.k5 q.k6 q.k7 q.kd q.x q.y q.n
def encQs (qs : List Rq) : List Int := qs.flatMap Rq.enc
theorem enc_len (q : Rq) : q.enc.length ≤ 27 := by
  have := encReq_length q.op q.k0 q.k1 q.k2 q.k3 q.k4 q.k5 q.k6 q.k7 q.kd q.x q.y q.n
  have h := reqLen_pos (b := q.op)
  unfold Rq.enc
  split at this <;> omega
theorem encQs_len (qs : List Rq) : (encQs qs).length ≤ 27 * qs.length := by
  unfold encQs
  induction qs with
  | nil => simp
  | cons q t ih => rw [List.flatMap_cons, List.length_append]; have := enc_len q; simp only [List.length_cons]; omega

/-- quotaledger.Request, as an owned row. -/
theorem request24 (q : Rq) (hq : q.ok) (w : World) :
    Calls Tryz.prog 28 #[.agg #[.int .u8 q.op, .int .u8 q.k0, .int .u8 q.k1, .int .u8 q.k2, .int .u8 q.k3, .int .u8 q.k4, .int .u8 q.k5, .int .u8 q.k6, .int .u8 q.k7, .int .u8 q.kd, .int .u64 q.x, .int .u64 q.y, .int .u64 q.n]] w
      fun e w' => ∃ a c, e = .returned (.slice a q.enc.length c) ∧ w'.ownsRow w.heap.size 5 1 (.slice a q.enc.length c) q.enc.length (q.enc.map (Value.int .u8)) ∧ Below w.heap.size w w' := by
  refine (request_any q.op q.k0 q.k1 q.k2 q.k3 q.k4 q.k5 q.k6 q.k7 q.kd q.x q.y q.n w hq.x.1 hq.x.2 hq.y.1 hq.y.2 hq.n.1 hq.n.2).mono ?_
  rintro e w' ⟨hb, ⟨h0, rfl⟩ | ⟨h0, g, L, hg, hL, rfl, ho⟩⟩
  · have hl := encReq_length q.op q.k0 q.k1 q.k2 q.k3 q.k4 q.k5 q.k6 q.k7 q.kd q.x q.y q.n
    rw [if_pos h0] at hl
    have he : q.enc.length = 0 := by unfold Rq.enc; omega
    have hn : q.enc = [] := List.length_eq_zero_iff.1 he
    rw [hn]
    exact ⟨none, 0, rfl, World.ownsRow_nil _ _ _ _, hb⟩
  · have e1 : q.enc.length = L := hL.symm
    rw [e1]
    exact ⟨_, _, rfl, ho, hb⟩

set_option maxRecDepth 100000 in
set_option maxHeartbeats 2000000 in
/-- quotaledgerkeep.bytes: requests, one behind the other. -/
theorem bytes9 (A o n cap : Nat) (qs : List Rq) (w : World) (hn : qs.length = n) (hnc : n ≤ cap) (hn1 : n ≤ 1000) (hok : ∀ q ∈ qs, q.ok) (hA : A < w.heap.size)
    (hc : ∀ i (h : i < qs.length) j, w.cell? ⟨A, o + i * 13 + j, none⟩ = (#[.int .u8 qs[i].op, .int .u8 qs[i].k0, .int .u8 qs[i].k1, .int .u8 qs[i].k2, .int .u8 qs[i].k3, .int .u8 qs[i].k4, .int .u8 qs[i].k5, .int .u8 qs[i].k6, .int .u8 qs[i].k7, .int .u8 qs[i].kd, .int .u64 qs[i].x, .int .u64 qs[i].y, .int .u64 qs[i].n] : Array Value)[j]? ∨ 13 ≤ j) :
    Calls Tryz.prog 12 #[.slice (some ⟨A, o, none⟩) n cap] w fun e w' => e = .returned (.string (strOfNums (encQs qs))) ∧ Below w.heap.size w w' := by
  have HC := hide hc
  have HN := hide hn
  have HOK := hide hok
  clear hc hn hok
  go_enter Tryz.func12, Tryz.ntmps12
  go_wp2
  go_loopw [3, 4, 5] (fun s3 s4 s5 wr => ∃ i : Nat, i ≤ n ∧ s4 = .int .i64 i ∧ s3 = .string (strOfNums (encQs (qs.take i))) ∧ Below w.heap.size w wr) (fun _ s4 _ _ => n - (intOf s4).toNat)
  case atStart => exact ⟨0, by omega, rfl, rfl, Below.refl _ _⟩
  case round =>
    obtain ⟨i, hi, rfl, rfl, hb⟩ := hrel
    obtain ⟨st, hst⟩ : ∃ st, st = strOfNums (encQs (qs.take i)) := ⟨_, rfl⟩
    have hsz : st.size ≤ 27000 := by rw [hst, strOfNums_size]; have := encQs_len (qs.take i); rw [List.length_take] at this; omega
    rw [← hst]
    have HST := hide hst
    clear hst
    by_cases hlt : i < n
    · have hil : i < qs.length := by rw [HN.out]; exact hlt
      obtain ⟨q, hq⟩ : ∃ q, q = qs[i] := ⟨_, rfl⟩
      have hqo : q.ok := hq ▸ HOK.out _ (List.getElem_mem hil)
      have hcell : ∀ j, j < 13 → wr.cell? ⟨A, o + i * 13 + j, none⟩ = (#[.int .u8 q.op, .int .u8 q.k0, .int .u8 q.k1, .int .u8 q.k2, .int .u8 q.k3, .int .u8 q.k4, .int .u8 q.k5, .int .u8 q.k6, .int .u8 q.k7, .int .u8 q.kd, .int .u64 q.x, .int .u64 q.y, .int .u64 q.n] : Array Value)[j]? := fun j hj => by
        rw [hb.cell (p := ⟨A, o + i * 13 + j, none⟩) hA, hq]
        exact (HC.out i hil j).elim id (fun h => absurd hj (Nat.not_lt.2 h))
      have k0 := hcell 0 (by omega)
      have k1 := hcell 1 (by omega)
      have k2 := hcell 2 (by omega)
      have k3 := hcell 3 (by omega)
      have k4 := hcell 4 (by omega)
      have k5 := hcell 5 (by omega)
      have k6 := hcell 6 (by omega)
      have k7 := hcell 7 (by omega)
      have k8 := hcell 8 (by omega)
      have k9 := hcell 9 (by omega)
      have k10 := hcell 10 (by omega)
      have k11 := hcell 11 (by omega)
      have k12 := hcell 12 (by omega)
      rw [Nat.add_zero] at k0
      have HQ := hide hq
      clear hcell hq
      go_wp2_with fail
      refine (request24 q hqo _).mono ?_
      rintro e w2 ⟨a2, c2, rfl, hown2, hb2⟩
      have hcv := conv_own hown2 rfl
      obtain ⟨st2, hst2⟩ : ∃ st2, st2 = strOfNums q.enc := ⟨_, rfl⟩
      have hsz2 : st2.size ≤ 27 := by rw [hst2, strOfNums_size]; exact enc_len q
      rw [← hst2] at hcv
      have HS2 := hide hst2
      have hwr := hb.size
      clear hst2 k0 k1 k2 k3 k4 k5 k6 k7 k8 k9 k10 k11 k12 hown2
      go_wp2
      go_roundw
      case rel =>
        refine ⟨i + 1, by omega, by go_num, ?_, hb.trans (hb2.mono hwr)⟩
        have htk : qs.take (i + 1) = qs.take i ++ [qs[i]] := by rw [List.take_add_one, List.getElem?_eq_getElem hil]; rfl
        have hen : encQs (qs.take (i + 1)) = encQs (qs.take i) ++ qs[i].enc := by rw [htk]; unfold encQs; rw [List.flatMap_append]; simp only [List.flatMap_cons, List.flatMap_nil, List.append_nil]
        rw [HST.out, HS2.out, HQ.out, ← strOf_app, hen]
      case measure => simp [intOf]; omega
    · obtain rfl : i = n := by omega
      go_wp2
      go_ret
      refine ⟨?_, hb⟩
      rw [HST.out, List.take_of_length_le (by rw [HN.out]; exact Nat.le_refl _)]
      rfl
end Go.Proofs.YtnlgndpcddngoaaGreatDoor

namespace Go.Proofs.YtnlgndpcddngoaaGreatDoor
open Go.RowKit Go.Sort
variable [dK] [iK]

def kbs (k : Ky) : List Int := [k.k0, k.k1, k.k2, k.k3, k.k4, k.k5, k.k6, k.k7]
abbrev kcells (k : Ky) : Array Value := #[.int .u8 k.k0, .int .u8 k.k1, .int .u8 k.k2, .int .u8 k.k3, .int .u8 k.k4, .int .u8 k.k5, .int .u8 k.k6, .int .u8 k.k7]
/-- How two keys stand to each other. -/
def cmpK (a b : Ky) : Int := Extern.BytealgCompare.cmp ⟨(Go.Lib.bytesOf (kbs a)).toArray⟩ ⟨(Go.Lib.bytesOf (kbs b)).toArray⟩

theorem kcell {w : World} {b : Nat} {k : Ky} {t : TypeId} {fr : Nat × Nat} (h : w.heap[b]? = some (.cells (kcells k) t fr)) : ∀ j x, (kbs k)[j]? = some x → w.cell? ((⟨b, 0, none⟩ : Addr).add j) = some (.int .u8 x) := by
  intro j x hj
  rw [Addr.add_lit, Nat.zero_add, cellB h]
  match j, hj with
  | 0, hj => injection hj with hj; subst hj; rfl
  | 1, hj => injection hj with hj; subst hj; rfl
  | 2, hj => injection hj with hj; subst hj; rfl
  | 3, hj => injection hj with hj; subst hj; rfl
  | 4, hj => injection hj with hj; subst hj; rfl
  | 5, hj => injection hj with hj; subst hj; rfl
  | 6, hj => injection hj with hj; subst hj; rfl
  | 7, hj => injection hj with hj; subst hj; rfl
  | j + 8, hj => simp [kbs] at hj
theorem run_cmp (A B : Nat) (a b : Ky) (t : TypeId) (w : World) (hA : w.heap[A]? = some (.cells (kcells a) t)) (hB : w.heap[B]? = some (.cells (kcells b) t)) :
    (callFunc 184 #[.slice (some ⟨A, 0, none⟩) 8 8, .slice (some ⟨B, 0, none⟩) 8 8]).run Tryz.prog w = .ok (.value (.int .i64 (cmpK a b))) w := by
  rw [run_callFunc_extern Tryz.func184 (by kernel_rfl) (by kernel_rfl) (by kernel_rfl) (e := Extern.BytealgCompare.compare) (by kernel_rfl)]
  have h1 := Go.Lib.run_loadBytesX (P := Tryz.prog) w (kbs a) ⟨A, 0, none⟩ .empty (kcell hA)
  have h2 := Go.Lib.run_loadBytesX (P := Tryz.prog) w (kbs b) ⟨B, 0, none⟩ .empty (kcell hB)
  have e : (Extern.BytealgCompare.compare #[.slice (some ⟨A, 0, none⟩) 8 8, .slice (some ⟨B, 0, none⟩) 8 8]).run Tryz.prog w = .ok (.int .i64 (cmpK a b)) w := by
    change Sem.run Tryz.prog (do
      let x ← Extern.Bytes.bytesOf (.slice (some ⟨A, 0, none⟩) 8 8)
      let y ← Extern.Bytes.bytesOf (.slice (some ⟨B, 0, none⟩) 8 8)
      pure (goInt (Extern.BytealgCompare.cmp x y))) w = _
    have l1 : (kbs a).length = 8 := rfl
    have l2 : (kbs b).length = 8 := rfl
    rw [l1] at h1
    rw [l2] at h2
    simp only [Extern.Bytes.bytesOf, Sem.run_bind, h1, h2, Result.andThen, Sem.run_pure]
    unfold cmpK goInt
    congr 3
  rw [e]
  rfl

set_option maxRecDepth 100000 in
theorem bcompare (A B : Nat) (a b : Ky) (t : TypeId) (w : World) (hA : w.heap[A]? = some (.cells (kcells a) t)) (hB : w.heap[B]? = some (.cells (kcells b) t)) :
    Calls Tryz.prog 166 #[.slice (some ⟨A, 0, none⟩) 8 8, .slice (some ⟨B, 0, none⟩) 8 8] w fun e w' => e = .returned (.int .i64 (cmpK a b)) ∧ w' = w := by
  have h := run_cmp A B a b t w hA hB
  go_enter Tryz.func166, Tryz.ntmps166
  go_wp2
  go_ret
  exact ⟨rfl, rfl⟩
theorem grow2 (w : World) (a b : Obj) : ((w.alloc a).alloc b).drew = grow (w.drewN 1) #[a, b] := by
  rw [alloc_eq_grow, alloc_eq_grow, grow_grow, drew_grow]
  rfl

set_option maxRecDepth 100000 in
theorem cmp165 (a b : Ky) (w : World) :
    Calls Tryz.prog 165 #[.agg #[.int .u8 a.k0, .int .u8 a.k1, .int .u8 a.k2, .int .u8 a.k3, .int .u8 a.k4, .int .u8 a.k5, .int .u8 a.k6, .int .u8 a.k7], .agg #[.int .u8 b.k0, .int .u8 b.k1, .int .u8 b.k2, .int .u8 b.k3, .int .u8 b.k4, .int .u8 b.k5, .int .u8 b.k6, .int .u8 b.k7]] w fun e w' => e = .returned (.int .i64 (cmpK a b)) ∧ ∃ q os, w' = grow (w.drewN q) os := by
  obtain ⟨V, hV⟩ : ∃ V, V = (w.alloc (.cells (kcells a) 63)).alloc (.cells (kcells b) 63) := ⟨_, rfl⟩
  have hA : V.drew.heap[w.heap.size]? = some (.cells (kcells a) 63) := hV ▸ upB (heapNew _ _) _
  have hB : V.drew.heap[w.heap.size + 1]? = some (.cells (kcells b) 63) := hV ▸ heapN (by simp)
  have H := hide (bcompare w.heap.size (w.heap.size + 1) a b _ _ hA hB)
  clear hA hB
  go_enter Tryz.func165, Tryz.ntmps165
  go_upto_region 1 with fail
  rw [← hV]
  have HV := hide hV
  clear hV
  go_region_with (go_at_call 166; refine H.out.mono ?_; rintro e w2 ⟨rfl, rfl⟩)
  all_goals go_wp2
  all_goals go_ret
  all_goals exact ⟨rfl, 1, #[.cells (kcells a) 63, .cells (kcells b) 63], by rw [HV.out]; exact grow2 w _ _⟩
end Go.Proofs.YtnlgndpcddngoaaGreatDoor

namespace Go.Proofs.YtnlgndpcddngoaaGreatDoor
open Go.RowKit Go.Sort Go.Shelf
variable [dK] [iK]

section
variable {α : Type} [Inhabited α] (lt : α → α → Bool)
theorem insInner_perm (a b i : Nat) (hib : i < b) : ∀ (j : Nat) (d : Array α), a ≤ j → j ≤ i → b ≤ d.size → PermIn a b d (insInner lt a j d)
  | 0, d, _, _, _ => by
    unfold insInner
    exact permIn_refl d a b
  | j + 1, d, haj, hji, hb => by
    unfold insInner
    split
    · rename_i hc
      simp only [Bool.and_eq_true, decide_eq_true_eq] at hc
      have h1 : PermIn a b d (swp d (j + 1) j) := swp_permIn d a b (j + 1) j haj (by omega) (by omega) (by omega) hb
      have ih := insInner_perm a b i hib j (swp d (j + 1) j) (by omega) (by omega) (by rw [h1.1]; exact hb)
      exact permIn_trans _ _ _ a b h1 ih
    · exact permIn_refl d a b
theorem insOuter_perm (a b : Nat) : ∀ (n i : Nat) (d : Array α), b - i = n → a < i → i ≤ b → b ≤ d.size → PermIn a b d (insOuter lt a b i d)
  | 0, i, d, hn, _, hib, _ => by
    obtain rfl : i = b := by omega
    rw [insOuter, if_neg (by omega)]
    exact permIn_refl d a i
  | n + 1, i, d, hn, hai, hib, hb => by
    have hlt : i < b := by omega
    rw [insOuter, if_pos hlt]
    have h1 := insInner_perm lt a b i hlt i d (by omega) (Nat.le_refl _) hb
    exact permIn_trans _ _ _ a b h1 (insOuter_perm a b n (i + 1) (insInner lt a i d) (by omega) (by omega) (by omega) (by rw [h1.1]; exact hb))
theorem insSort_perm (d : Array α) : (insertionSort lt d 0 d.size).toList.Perm d.toList ∧ (insertionSort lt d 0 d.size).size = d.size := by
  have h : PermIn 0 d.size d (insertionSort lt d 0 d.size) := by
    unfold insertionSort
    by_cases h0 : d.size = 0
    · rw [insOuter, if_neg (by omega)]
      exact permIn_refl d 0 d.size
    · exact insOuter_perm lt 0 d.size (d.size - 1) 1 d rfl (by omega) (by omega) (Nat.le_refl _)
  generalize insertionSort lt d 0 d.size = D at h
  refine ⟨?_, h.1⟩
  have h2 := h.2.2
  rw [Array.extract_size] at h2
  have e : D.extract 0 d.size = D := by rw [← h.1]; exact Array.extract_size
  rwa [e] at h2
end

def encK (k : Ky) : List Value := [.int .u8 k.k0, .int .u8 k.k1, .int .u8 k.k2, .int .u8 k.k3, .int .u8 k.k4, .int .u8 k.k5, .int .u8 k.k6, .int .u8 k.k7]
namespace Ins
def ren : Go.Shelf.Ren := ⟨fun _ => 207, fun n => if n = 0 then 0 else if n = 3 then 3 else if n = 4 then 4 else if n = 22 then 304 else if n = 24 then 63 else 310, fun n => n⟩
theorem lays : SlLaysF0.n20 Tryz.prog ren where
  mixed := by first | exact Tryz.mixed | kernel_rfl | decide
  f20 := ⟨Tryz.f207.name, by kernel_rfl, by kernel_rfl⟩
  t0 := by first | exact Tryz.underlying0 | kernel_rfl
  a0 := by first | exact Tryz.isAgg0 | (intro w; kernel_rfl)
  z0 := by first | exact Tryz.sizeOf0 | (intro w; kernel_rfl)
  v0 := by first | exact Tryz.zeroValue0 | (intro w; kernel_rfl)
  t3 := by first | exact Tryz.underlying3 | kernel_rfl
  a3 := by first | exact Tryz.isAgg3 | (intro w; kernel_rfl)
  z3 := by first | exact Tryz.sizeOf3 | (intro w; kernel_rfl)
  v3 := by first | exact Tryz.zeroValue3 | (intro w; kernel_rfl)
  t4 := by first | exact Tryz.underlying4 | kernel_rfl
  a4 := by first | exact Tryz.isAgg4 | (intro w; kernel_rfl)
  z4 := by first | exact Tryz.sizeOf4 | (intro w; kernel_rfl)
  v4 := by first | exact Tryz.zeroValue4 | (intro w; kernel_rfl)
  t22 := by first | exact Tryz.underlying304 | kernel_rfl
  a22 := by first | exact Tryz.isAgg304 | (intro w; kernel_rfl)
  z22 := by first | exact Tryz.sizeOf304 | (intro w; kernel_rfl)
  v22 := by first | exact Tryz.zeroValue304 | (intro w; kernel_rfl)
  t25 := by first | exact Tryz.underlying310 | kernel_rfl
  a25 := by first | exact Tryz.isAgg310 | (intro w; kernel_rfl)
  z25 := by first | exact Tryz.sizeOf310 | (intro w; kernel_rfl)
  v25 := by first | exact Tryz.zeroValue310 | (intro w; kernel_rfl)
end Ins

theorem callCmp (vs : Array Value) (w : World) : Sem.run Tryz.prog (callFunc 165 vs) w = .ok (.enter 165 vs) w := by simp [go_sem]
/-- The keys of a row, in any order. -/
theorem ins207 (g cap n : Nat) (d : Array Ky) (w : World) (hH : HoldsK encK 8 w g 0 d) (hg : g < w.heap.size) (hn : d.size = n) (hn1 : n ≤ 1000) :
    Calls Tryz.prog 207 #[.slice (some ⟨g, 0, none⟩) n cap, .int .i64 0, .int .i64 n, .func (.func 165) #[] #[]] w fun e w' => e = .returned (.tuple #[]) ∧ ∃ m os, w' = sortWorldK encK 8 w g 0 m (insertionSort (ltOf cmpK) d 0 d.size) os := by
  subst hn
  exact AnyQ.insertionSortCmpFunc (P := Tryz.prog) (ρ := Ins.ren) Ins.lays 8 (fun w => by first | exact Tryz.isAgg63 w | kernel_rfl) (fun w => by first | exact Tryz.sizeOf63 w | kernel_rfl) encK (fun _ => rfl) (fun x v hv => by simp [encK] at hv; rcases hv with h | h | h | h | h | h | h | h <;> subst h <;> rfl) cmpK 165 #[] g 0 cap 0 d.size d w callCmp (fun m os dk _ x y => cmp165 x y _) hH hg (Nat.zero_le _) (Nat.le_refl _) (by omega)

/-- The world behind a sort. -/
theorem sorted_keep (w : World) (g m : Nat) (D : Array Ky) (os : Array Obj) : Keep (fun c => c = g) w (sortWorldK encK 8 w g 0 m D os) := by
  unfold sortWorldK
  refine ⟨rfl, rfl, rfl, by rw [size_grow]; simp [putRowK, putRow, mapBlock, Sort.ahead], fun k hk hne => ?_⟩
  rw [heap_grow_old _ _ (by simpa [putRowK, putRow, mapBlock, Sort.ahead] using hk)]
  have : g ≠ k := fun e => hne e.symm
  simp [putRowK, putRow, mapBlock, Sort.ahead, Array.getElem?_modify, this]
theorem sorted_holds (w : World) (g m : Nat) (d D : Array Ky) (os : Array Obj) (h : HoldsK encK 8 w g 0 d) (hg : g < w.heap.size) (hs : D.size = d.size) : HoldsK encK 8 (sortWorldK encK 8 w g 0 m D os) g 0 D := by
  unfold sortWorldK
  exact holdsK_grow encK 8 _ os g 0 D (by simpa [putRowK, putRow, mapBlock, Sort.ahead] using hg) (holdsK_putRowK encK 8 _ g 0 d D (holdsK_ahead encK 8 w m g 0 d h) hs)

set_option maxRecDepth 100000 in
theorem len64 (n : Nat) (w : World) (h : n ≤ 12) : Calls Tryz.prog 197 #[.int .u64 n] w fun e w' => (∃ l : Int, e = .returned (.int .i64 l)) ∧ w' = w := by
  have hc : n = 0 ∨ n = 1 ∨ n = 2 ∨ n = 3 ∨ n = 4 ∨ n = 5 ∨ n = 6 ∨ n = 7 ∨ n = 8 ∨ n = 9 ∨ n = 10 ∨ n = 11 ∨ n = 12 := by omega
  rcases hc with rfl | rfl | rfl | rfl | rfl | rfl | rfl | rfl | rfl | rfl | rfl | rfl | rfl
  all_goals (
    go_enter Tryz.func197, Tryz.ntmps197
    go_wp2
    go_ret
    exact ⟨⟨_, rfl⟩, rfl⟩)

set_option maxRecDepth 100000 in
set_option maxHeartbeats 1000000 in
theorem pdq196 (g cap n : Nat) (l : Int) (d : Array Ky) (w : World) (hH : HoldsK encK 8 w g 0 d) (hg : g < w.heap.size) (hn : d.size = n) (hn1 : n ≤ 12) :
    Calls Tryz.prog 196 #[.slice (some ⟨g, 0, none⟩) n cap, .int .i64 0, .int .i64 n, .int .i64 l, .func (.func 165) #[] #[]] w fun e w' => e = .returned (.tuple #[]) ∧ ∃ m os, w' = sortWorldK encK 8 w g 0 m (insertionSort (ltOf cmpK) d 0 d.size) os := by
  have H := hide (ins207 g cap n d w hH hg hn (by omega))
  have hle : (n : Int) ≤ 12 := by omega
  have hn0 : IntKind.i64.wrap ((n : Int) - 0) = n := by rw [IntKind.wrap_i64]; omega
  clear hH hn
  go_enter Tryz.func196, Tryz.ntmps196
  go_wp2
  refine wp_loop_rounds 1 ?_
  rw [rounds_succ]
  go_wp2_with (go_at_call 207; refine H.out.mono ?_; rintro e w' ⟨rfl, HX⟩; have HX := hide HX)
  (try simp only [Exit.inBlock, Exit.then]); refine bodyPost_ret (results_none rfl _ _ _) rfl ?_
  exact ⟨rfl, HX.out⟩

set_option maxRecDepth 100000 in
set_option maxHeartbeats 1000000 in
theorem sortf182 (g cap n : Nat) (d : Array Ky) (w : World) (hH : HoldsK encK 8 w g 0 d) (hg : g < w.heap.size) (hn : d.size = n) (hn1 : n ≤ 12) :
    Calls Tryz.prog 182 #[.slice (some ⟨g, 0, none⟩) n cap, .func (.func 165) #[] #[]] w fun e w' => e = .returned (.tuple #[]) ∧ ∃ m os, w' = sortWorldK encK 8 w g 0 m (insertionSort (ltOf cmpK) d 0 d.size) os := by
  have H := hide (fun l => pdq196 g cap n l d w hH hg hn hn1)
  have hu : IntKind.u64.wrap (n : Int) = n := by rw [IntKind.wrap_u64]; omega
  clear hH hn
  go_enter Tryz.func182, Tryz.ntmps182
  go_wp2_with fail
  refine (len64 n w hn1).mono ?_
  rintro e w1 ⟨⟨l, rfl⟩, he⟩
  rw [he]
  clear he
  go_wp2_with fail
  refine (H.out l).mono ?_
  rintro e w2 ⟨rfl, HX⟩
  have HX := hide HX
  go_wp2
  go_end0
  exact ⟨rfl, HX.out⟩
end Go.Proofs.YtnlgndpcddngoaaGreatDoor

namespace Go.Proofs.YtnlgndpcddngoaaGreatDoor
open Go.RowKit Go.Maps Go.Sort
variable [dK] [iK]

/-- Keys, one behind the other, as cells. -/
def krow (ks : List Ky) : List Value := ks.flatMap encK
theorem krow_len (ks : List Ky) : (krow ks).length = ks.length * 8 := by
  unfold krow
  induction ks with
  | nil => rfl
  | cons k r ih => rw [List.flatMap_cons, List.length_append, ih]; simp [encK]; omega
theorem krow_app (a b : List Ky) : krow (a ++ b) = krow a ++ krow b := by unfold krow; rw [List.flatMap_append]

def apAssign : Code := (Code.region 2 #[{ dst := some 5, op := Op.alloc 63, type := 0, pos := "iter.go:51", after := #[], guard := none }, { dst := none, op := Op.store 63 (Operand.tmp 5) (Operand.tmp 7), type := 0, pos := "iter.go:51", after := #[{ on := 0, ground := Ground.data }, { on := 0, ground := Ground.phase }], guard := none }] false)
def apBody : Code := (Code.block 1 (Code.region 3 #[{ dst := some 8, op := Op.load 304 (Operand.tmp 2), type := 304, pos := "iter.go:52", after := #[], guard := none }, { dst := some 9, op := Op.load 63 (Operand.tmp 5), type := 63, pos := "iter.go:52", after := #[], guard := none }, { dst := some 10, op := Op.buildSlice 304 1 #[(0, Operand.tmp 9)], type := 304, pos := "iter.go:52", after := #[{ on := 1, ground := Ground.data }], guard := none }, { dst := some 11, op := Op.call { callee := Callee.builtin Builtin.append, args := #[Operand.tmp 8, Operand.tmp 10], argTypes := #[304, 304] }, type := 304, pos := "iter.go:52", after := #[{ on := 0, ground := Ground.data }, { on := 2, ground := Ground.data }], guard := none }, { dst := none, op := Op.store 304 (Operand.tmp 2) (Operand.tmp 11), type := 0, pos := "iter.go:52", after := #[{ on := 3, ground := Ground.data }, { on := 3, ground := Ground.chain }, { on := 0, ground := Ground.phase }, { on := 1, ground := Ground.phase }, { on := 2, ground := Ground.phase }, { on := 3, ground := Ground.phase }], guard := none }] false))
/-- The loop's record. -/
def apRec (fn : FuncId) (sv : Value) (Bs D : Nat) (st : LoopState) (pend : Option Code) : Loop :=
  { state := st, pending := pend, fn, tmps := #[.slice none 0 0, sv, .pointer (some ⟨Bs, 0, none⟩), undef, .slice none 0 0, undef, sv, undef, undef, undef, undef, undef, undef], params := #[7], assign := apAssign, body := apBody, defers := D }
/-- Between two rounds: the box holds a slice of one's own with the keys that have come. -/
structure ApK (w0 : World) (fn : FuncId) (sv : Value) (Bs l D : Nat) (ks : List Ky) (W : World) : Prop where
  box : ∃ v, W.heap[Bs]? = some (.cells #[v] 304 (0, 0)) ∧ W.ownsRow w0.heap.size 63 8 v ks.length (krow ks)
  L : W.heap[l]? = some (.loop (apRec fn sv Bs D .ready none))
  K : W.heap[D]? = some (.deferred (some []))
  below : Below w0.heap.size w0 W
theorem ap_abides (w0 : World) (fn : FuncId) (sv : Value) (Bs l D B : Nat) (hB : w0.heap.size ≤ B) : AbidesFrom B (ApK w0 fn sv Bs l D) := fun s W W' row h hg hrow => by
  have hrow' : ∀ r, row = some r → ∃ o : Obj, W.heap[r]? = some o ∧ o.isWalk = true := fun r e => (hrow r e).2
  obtain ⟨v, hv, hr⟩ := h.box
  exact ⟨⟨v, (grownBy_keeps hg hrow' hv rfl).trans hv, ownsRow_abides_a hr hg hrow'⟩, (grownBy_keeps hg hrow' h.L rfl).trans h.L, (grownBy_keeps hg hrow' h.K rfl).trans h.K,
    h.below.grown hg h.below.size (fun k e => Nat.le_trans hB (hrow k e).1)⟩
theorem Tryz.infoKey : (Tryz.prog.info? 63).map (fun i => (i.zero, i.size, i.bytes)) = some (some (.agg #[.int .u8 0, .int .u8 0, .int .u8 0, .int .u8 0, .int .u8 0, .int .u8 0, .int .u8 0, .int .u8 0]), 8, 8) := by kernel_rfl
theorem cells8_new (w : World) (k : Ky) (t : TypeId) : ∀ j u, (encK k)[j]? = some u → (w.alloc (.cells (kcells k) t)).cell? ((⟨w.heap.size, 0, none⟩ : Addr).add j) = some u := by
  intro j u hj
  rw [Addr.add_lit, Nat.zero_add, World.cell?_alloc_at _ _ _ _ rfl]
  match j, hj with
  | 0, hj => exact hj
  | 1, hj => exact hj
  | 2, hj => exact hj
  | 3, hj => exact hj
  | 4, hj => exact hj
  | 5, hj => exact hj
  | 6, hj => exact hj
  | 7, hj => exact hj
  | j + 8, hj => simp [encK] at hj
theorem encK_one (k : Ky) : ∀ u ∈ encK k, u.oneCell' = true := by
  intro v hv
  simp [encK] at hv
  rcases hv with h | h | h | h | h | h | h | h <;> subst h <;> rfl

set_option maxRecDepth 100000 in
set_option maxHeartbeats 2000000 in
theorem apYield (w0 : World) (fn : FuncId) (sv : Value) (Bs l D : Nat) (hBl : Bs ≠ l) (hDl : D ≠ l) (hDB : D ≠ Bs) (h0B : w0.heap.size ≤ Bs) (h0l : w0.heap.size ≤ l) (ks : List Ky) (x : Ky) (W : World) (h : ApK w0 fn sv Bs l D ks W) (hlen : ks.length < 1000) :
    YieldAt Fence.wide 0 Tryz.prog l #[kval x] W fun e W' => e = .returned (.bool true) ∧ ApK w0 fn sv Bs l D (ks ++ [x]) W' ∧ KeepsWalks W W' := by
  have hne : (304 : TypeId) ≠ 63 := by decide
  obtain ⟨i0, hi, hz0, hz1, hz2⟩ := info_parts Tryz.infoKey
  obtain ⟨v, hv, hrow⟩ := h.box
  refine ⟨fn, #[.slice none 0 0, sv, .pointer (some ⟨Bs, 0, none⟩), undef, .slice none 0 0, undef, sv, kval x, undef, undef, undef, undef, undef], apAssign, apBody, by simpa [apRec] using run_yield (P := Tryz.prog) (args := #[kval x]) h.L rfl, roundIn_of_wpIn trivial ?_⟩
  obtain ⟨V, hV⟩ : ∃ V, V = W.alloc (.cells (kcells x) 63) := ⟨_, rfl⟩
  have hvV : V.heap[Bs]? = some (.cells #[v] 304 (0, 0)) := hV ▸ upB hv _
  have hKV : V.heap[D]? = some (.deferred (some [])) := hV ▸ upB h.K _
  have hLV : V.heap[l]? = some (.loop (apRec fn sv Bs D .ready none)) := hV ▸ upB h.L _
  have hrowV : V.ownsRow w0.heap.size 63 8 v ks.length (krow ks) := hV ▸ hrow.alloc _
  have hbV : Below w0.heap.size w0 V := hV ▸ h.below.alloc h.below.size _
  obtain ⟨X, hX⟩ : ∃ X, X = W.heap.size := ⟨_, rfl⟩
  have hxV : V.heap[X]? = some (.cells (kcells x) 63) := by rw [hX, hV]; exact heapNew _ _
  have hkV : KeepsWalks W V := hV ▸ KeepsWalks.alloc _ _
  have hXl : X ≠ l := by have := (Array.getElem?_eq_some_iff.1 h.L).1; omega
  have hl : l < V.heap.size := (Array.getElem?_eq_some_iff.1 hLV).1
  have hbr := run_beginRound (P := Tryz.prog) hLV rfl
  obtain ⟨W2, hW2⟩ : ∃ W2, V.putObj l (.loop { apRec fn sv Bs D .ready none with state := .busy }) = W2 := ⟨_, rfl⟩
  rw [hW2] at hbr
  have hg2 : V.grownBy W2 (some l) := by rw [← hW2]; exact grownBy_putObj_a _ _ _
  have hk2 : KeepsWalks W W2 := hkV.trans (by rw [← hW2]; exact KeepsWalks.putObj _ hLV rfl)
  have hv2 : W2.heap[Bs]? = some (.cells #[v] 304 (0, 0)) := by rw [← hW2]; exact (World.putObj_heap_other hBl).trans hvV
  have hx2 : W2.heap[X]? = some (.cells (kcells x) 63) := by rw [← hW2]; exact (World.putObj_heap_other hXl).trans hxV
  have hK2 : W2.heap[D]? = some (.deferred (some [])) := by rw [← hW2]; exact (World.putObj_heap_other hDl).trans hKV
  have hL2 : W2.heap[l]? = some (.loop { apRec fn sv Bs D .ready none with state := .busy }) := by rw [← hW2]; exact World.putObj_heap_same hl
  have hrow2 : W2.ownsRow w0.heap.size 63 8 v ks.length (krow ks) := hrowV.kept hg2 (ownsRow_ne_a hrowV hLV (fun cur e => by first | cases e | exact hne (Obj.cells.inj e).2.1))
  have hb2 : Below w0.heap.size w0 W2 := hbV.grown hg2 hbV.size (fun k e => by cases e; exact h0l)
  obtain ⟨hc2, hf2⟩ := cell_of_box_a hv2
  have cx := cellB hx2
  have hBlt : Bs < W2.heap.size := (Array.getElem?_eq_some_iff.1 hv2).1
  have hl2 : l < W2.heap.size := (Array.getElem?_eq_some_iff.1 hL2).1
  have hDlt : D < W2.heap.size := (Array.getElem?_eq_some_iff.1 hK2).1
  have hsb := hb2.size
  have ne_of : ∀ {j : Nat} {o : Obj}, W2.heap[j]? = some o → (∀ cur, o ≠ .cells cur 63 (0, 0)) → some j ≠ v.ownBlock := fun hj hno => by
    rcases ownsRow_ne_a hrow2 hj hno with e | e
    · rw [e]; simp
    · exact fun e' => e e'.symm
  unfold kval apAssign
  gi_wp2_with gi_round_op_a
  rw [← hV, ← hX]
  refine ⟨W2, hbr, ?_⟩
  have HBR := hide hbr
  clear hbr hV hX hW2
  obtain ⟨a0, c0, e0⟩ := own_sliceE hrow2
  subst e0
  unfold apBody
  gi_wp2_with (first
    | (gi_at_builtin; refine wpListIn_append_own _ rfl _ _ 304 rfl w0.heap.size 63 i0 (.agg #[.int .u8 0, .int .u8 0, .int .u8 0, .int .u8 0, .int .u8 0, .int .u8 0, .int .u8 0, .int .u8 0]) 8 8 Tryz.underlying304 hi hz0 hz1 hz2 rfl (by decide) _ _ _ rfl (hrow2.alloc _) ⟨W2.heap.size, 0, none⟩ 1 1 (encK x) rfl rfl (cells8_new _ _ _) (encK_one x) (by unfold maxLen; omega) (by omega) (by simp; omega) ?_; intro v' w3 hown' hg3 hnil3
       have hv3 : w3.heap[Bs]? = some (.cells #[.slice a0 ks.length c0] 304 (0, 0)) := (hg3.block Bs (by simp; omega) (ne_of hv2 (fun cur e => by first | cases e | exact hne (Obj.cells.inj e).2.1))).trans ((Below.heap_alloc _ _ Bs hBlt).trans hv2)
       obtain ⟨hc3, hf3⟩ := cell_of_box_a hv3
       obtain ⟨a3, c3, e3⟩ := own_sliceE hown'
       subst e3
       go_frame)
    | gi_round_op_a)
  have hg3' : (W2.alloc (.cells (kcells x) 63)).grownBy w3 (Value.slice a0 ks.length c0).ownBlock := hg3
  have hL3 : w3.heap[l]? = some (.loop { apRec fn sv Bs D .ready none with state := .busy }) := (hg3'.block l (by simp; omega) (ne_of hL2 (fun cur e => by first | cases e | exact hne (Obj.cells.inj e).2.1))).trans ((Below.heap_alloc _ _ l hl2).trans hL2)
  have hK3 : w3.heap[D]? = some (.deferred (some [])) := (hg3'.block D (by simp; omega) (ne_of hK2 (fun cur e => by first | cases e | exact hne (Obj.cells.inj e).2.1))).trans ((Below.heap_alloc _ _ D hDlt).trans hK2)
  obtain ⟨w4, hw4⟩ : ∃ w4, w3.setCell ⟨Bs, 0, none⟩ (.slice a3 (ks.length + 1) c3) = w4 := ⟨_, rfl⟩
  rw [hw4]
  have hg4 : w3.grownBy w4 (some Bs) := by rw [← hw4]; exact grownBy_setCell0_a _ _ _
  have hv4 : w4.heap[Bs]? = some (.cells #[.slice a3 (ks.length + 1) c3] 304 (0, 0)) := by rw [← hw4]; exact heap_setCell_box_a _ hv3
  have hL4 : w4.heap[l]? = some (.loop { apRec fn sv Bs D .ready none with state := .busy }) := (hg4.block l (Array.getElem?_eq_some_iff.1 hL3).1 (fun e => hBl (by cases e; rfl))).trans hL3
  have hK4 : w4.heap[D]? = some (.deferred (some [])) := (hg4.block D (Array.getElem?_eq_some_iff.1 hK3).1 (fun e => hDB (by cases e; rfl))).trans hK3
  have hrow4 := hown'.kept hg4 (ownsRow_ne_a hown' hv3 (fun cur e => by first | cases e | exact hne (Obj.cells.inj e).2.1))
  have hl4 : l < w4.heap.size := (Array.getElem?_eq_some_iff.1 hL4).1
  have hb3 : Below w0.heap.size w0 w3 := (hb2.alloc hb2.size _).grown hg3' (by simp; omega) (fun k e => (hrow2.lt k e).1)
  have hb4 : Below w0.heap.size w0 w4 := hb3.grown hg4 hb3.size (fun k e => by cases e; exact h0B)
  have hk4 : KeepsWalks W w4 := ((hk2.trans (KeepsWalks.alloc _ _)).trans (KeepsWalks.of_grownBy hg3' (ownsRow_not_walk_a (hrow2.alloc _)))).trans (by rw [← hw4]; exact KeepsWalks.setCell _ _ _)
  clear hw4
  refine ⟨_, _, run_endRound none hL4, rfl, ⟨⟨_, (World.putObj_heap_other hBl).trans hv4, ?_⟩, World.putObj_heap_same hl4, (World.putObj_heap_other hDl).trans hK4, hb4.grown (grownBy_putObj_a _ _ _) hb4.size (fun k e => by cases e; exact h0l)⟩, hk4.trans (KeepsWalks.putObj _ hL4 rfl)⟩
  have := hrow4.kept (grownBy_putObj_a w4 l (.loop { { apRec fn sv Bs D .ready none with state := .busy } with state := if (none : Option Code).isNone then .ready else .done, pending := none })) (ownsRow_ne_a hrow4 hL4 (fun cur e => by first | cases e | exact hne (Obj.cells.inj e).2.1))
  rw [krow_app]
  simpa [krow] using this

set_option maxRecDepth 100000 in
set_option maxHeartbeats 2000000 in
/-- slices.AppendSeq of nil and an iterator. -/
theorem appendSeq195 (g : Nat) (lb : Array Value) (eg : ∀ args w, (callFunc g args).run Tryz.prog w = .ok (.enter g args) w)
    (S : List Ky → Prop) (w : World) (hseq : SeqGives Fence.wide 0 Tryz.prog g lb kval S 1000 w) :
    CallsIn Fence.wide 0 Tryz.prog 195 #[.slice none 0 0, .func (.func g) #[] lb] w fun e w' => ∃ (v : Value) (ks : List Ky), e = .returned v ∧ S ks ∧ w'.ownsRow w.heap.size 63 8 v ks.length (krow ks) ∧ Below w.heap.size w w' := by
  have hne : (304 : TypeId) ≠ 63 := by decide
  refine callsIn_of_wp_marks Tryz.func195 rfl trivial ?_ rfl
  simp only [Tryz.ntmps195, List.size_toArray, List.length_cons, List.length_nil, Nat.reduceAdd, Nat.reduceSub, Array.replicate_succ, Array.replicate_zero, List.push_toArray, List.append_toArray, List.nil_append, List.cons_append]
  gi_wp2
  refine wpIn_rangeFunc ?_
  intro fn hfn
  obtain ⟨W0, hW0⟩ : ∃ W0, w.alloc (.cells #[.slice none 0 0] 304) = W0 := ⟨_, rfl⟩
  have hs0 : W0.heap.size = w.heap.size + 1 := by rw [← hW0]; simp
  have hv0 : W0.heap[w.heap.size]? = some (.cells #[.slice none 0 0] 304 (0, 0)) := by rw [← hW0]; exact World.alloc_heap_new w _
  have hb0 : Below w.heap.size w W0 := by rw [← hW0]; exact (Below.refl _ w).alloc (Nat.le_refl _) _
  rw [hW0]
  obtain ⟨W1, hW1⟩ : ∃ W1, (W0.alloc (.deferred (some []))).alloc (.loop (apRec fn (.func (.func g) #[] lb) w.heap.size W0.heap.size .ready none)) = W1 := ⟨_, rfl⟩
  have hold : ∀ k, k < W0.heap.size → W1.heap[k]? = W0.heap[k]? := fun k hk => by
    rw [← hW1]; exact (Below.heap_alloc _ _ k (by simp; omega)).trans (Below.heap_alloc _ _ k hk)
  have hb1 : Below w.heap.size w W1 := by rw [← hW1]; exact (hb0.alloc hb0.size _).alloc (by have := hb0.size; simp; omega) _
  have hs1 : W1.heap.size = W0.heap.size + 2 := by rw [← hW1]; simp
  have hM : ApK w fn (.func (.func g) #[] lb) w.heap.size (W0.heap.size + 1) W0.heap.size [] W1 :=
    ⟨⟨_, (hold w.heap.size (by omega)).trans hv0, ⟨rfl, .inl ⟨rfl, rfl⟩⟩⟩,
     by rw [← hW1]; have := World.alloc_heap_new (W0.alloc (.deferred (some []))) (.loop (apRec fn (.func (.func g) #[] lb) w.heap.size W0.heap.size .ready none)); rwa [World.size_alloc] at this,
     by rw [← hW1]; exact (Below.heap_alloc _ _ _ (by simp)).trans (World.alloc_heap_new W0 _), hb1⟩
  refine ⟨W0.heap.size + 1, [{ target := .collected W0.heap.size, args := #[] }], W1, { target := .fn (.func g) lb, args := #[.func (.yield (W0.heap.size + 1)) #[] #[]] }, W1, g,
    #[.func (.yield (W0.heap.size + 1)) #[] #[]] ++ lb, W1, ?_, ?_, ?_, ?_, ?_, ?_⟩
  · rw [← hW1]; exact run_enterLoop_outer _ _ _ _ _
  · simp [resolve, go_sem]
  · intro f' hf'; trivial
  · simp [invoke, go_sem, eg]
  · intro h; simp [Fence.wide] at h
  · refine (hseq (W0.heap.size + 1) (ApK w fn (.func (.func g) #[] lb) w.heap.size (W0.heap.size + 1) W0.heap.size) W1 hb1 (ap_abides _ _ _ _ _ _ _ hb1.size)
      (fun pre x W hJ hl => apYield w fn _ w.heap.size (W0.heap.size + 1) W0.heap.size (by omega) (by omega) (by omega) (Nat.le_refl _) (by omega) pre x W hJ hl) hM).mono ?_
    rintro e W2 ⟨⟨v0, rfl⟩, ks, hS, h2⟩
    obtain ⟨v, hv, hrow⟩ := h2.box
    have hend := run_endLoop (P := Tryz.prog) h2.L (by simp [apRec])
    obtain ⟨W3, hW3⟩ : ∃ W3, W2.putObj (W0.heap.size + 1) (.loop { apRec fn (.func (.func g) #[] lb) w.heap.size W0.heap.size .ready none with state := .exhausted }) = W3 := ⟨_, rfl⟩
    rw [hW3] at hend
    have hg3 : W2.grownBy W3 (some (W0.heap.size + 1)) := by rw [← hW3]; exact grownBy_putObj_a _ _ _
    have hv3 : W3.heap[w.heap.size]? = some (.cells #[v] 304 (0, 0)) := by rw [← hW3]; exact (World.putObj_heap_other (by omega)).trans hv
    have hK3 : W3.heap[W0.heap.size]? = some (.deferred (some [])) := by rw [← hW3]; exact (World.putObj_heap_other (by omega)).trans h2.K
    have hrow3 := hrow.kept hg3 (ownsRow_ne_a hrow h2.L (fun cur e => by first | cases e | exact hne (Obj.cells.inj e).2.1))
    have hb3 : Below w.heap.size w W3 := h2.below.grown hg3 h2.below.size (fun k e => by cases e; omega)
    obtain ⟨hc3, hf3⟩ := cell_of_box_a hv3
    clear hW3
    refine ⟨none, W3, hend, ?_⟩
    gi_wp2
    rw [← hs0]
    refine ⟨by simp, .inl ⟨_, _, rfl, run_takeDeferred hK3, ?_⟩⟩
    exact ⟨_, results_tmp rfl _ _ _, v, ks, rfl, hS, hrow3.kept (grownBy_putObj_a _ _ _) (ownsRow_ne_a hrow3 hK3 (fun cur e => by first | cases e | exact hne (Obj.cells.inj e).2.1)), hb3.grown (grownBy_putObj_a _ _ _) hb3.size (fun k e => by cases e; omega)⟩
end Go.Proofs.YtnlgndpcddngoaaGreatDoor

namespace Go.Proofs.YtnlgndpcddngoaaGreatDoor
open Go.RowKit Go.Maps Go.Sort
variable [dK] [iK]

section
variable {F : Fence} {n : Nat} {P : Program} {kt : TypeId} {K V : Type} [DecidableEq K] {ok : K → Prop} {kv : K → Value} {kl : K → Lit} {ev : V → Value}
variable (w : World) {ops : Array Oper} {rest : List Oper} {o : Oper} {a : Act} {Q : Exit → Act → World → Prop}
/-- The step of a range over a map, inside a fence. -/
theorem wpListIn_next_G (M : MKey P kt ok kv kl) (hg : o.guard = none) (it : Operand) (hop : o.op = Op.next it false) (b r nn : Nat) (D : DataW Value) (es : List (K × V)) (hD : DatG ok kl ev D es) (left : Lit → Bool) (cnt : Nat)
    (hit : a.eval it = .pointer (some ⟨r, 0, none⟩)) (h : w.ranges P kt heldE b r nn D left cnt)
    (hDone : cnt = 0 → (∀ l, left l = false) → wpListIn F n P ops Q rest (a.put o.dst (.tuple #[.bool false])) w)
    (hMore : ∀ (k : K) (p : V) (w' : World) (cnt' : Nat), ok k → fndG k es = some p → left (kl k) = true → w'.ranges P kt heldE b r nn D (fun z => left z && !z.sameKey (kl k)) cnt' → cnt' < cnt →
      w.grownBy w' (some r) → w'.heap.size = w.heap.size → (Instr.entry (.pointer (some ⟨r, 0, none⟩))).run P w' = .ok (.tuple #[kv k, ev p]) w' → wpListIn F n P ops Q rest (a.put o.dst (.tuple #[.bool true, kv k, ev p])) w') :
    wpListIn F n P ops Q (o :: rest) a w := by
  refine wpListIn_plain hg fun K' hK' => ?_
  unfold Oper.wpIn
  refine ⟨by simp [Oper.about, hop], ?_⟩
  rw [Oper.semAt_plain F _ _ (by rw [hop]; intro c hc'; cases hc')]
  rcases h.next M.keyed o.type with ⟨h0, hl, hrun⟩ | ⟨key, v, l, y, w', cnt', hkey, hlk, hv, hat, hrun, hrg, hlt, hgr, hsz, hen⟩
  · simp [execOp, hop, hit, hrun, Result.andThen]
    exact hK' _ _ (hDone h0 hl)
  · obtain ⟨k, p, hok, rfl, hp, rfl, rfl⟩ := hD.come M hkey hv hat
    simp [execOp, hop, hit, hrun, Result.andThen]
    exact hK' _ _ (hMore k p w' cnt' hok hp hlk hrg hlt hgr hsz hen)
end

/-- The keys that have come. -/
structure CollK (es : Es) (left : Lit → Bool) (ks : List Ky) : Prop where
  nd : ks.Nodup
  mem : ∀ k, k.ok → (k ∈ ks ↔ (fndG k es).isSome = true ∧ left (klit k) = false)
  ok : ∀ k ∈ ks, k.ok
theorem CollK.start (D : DataW Value) (es : Es) (h : DatG Ky.ok klit evE D es) : CollK es (Maps.has D) [] :=
  ⟨List.nodup_nil, fun k hk => (by
    rw [h.has k hk]
    constructor
    · intro h
      cases h
    · rintro ⟨h1, h2⟩
      rw [h1] at h2
      cases h2), fun k h => (by cases h)⟩
theorem CollK.step {es : Es} {left : Lit → Bool} {ks : List Ky} (h : CollK es left ks) {k : Ky} {p : Qt × Qt} (hk : k.ok) (hp : fndG k es = some p) (hl : left (klit k) = true) : CollK es (fun z => left z && !z.sameKey (klit k)) (ks ++ [k]) := by
  have hself : (klit k).sameKey (klit k) = true := WideAt.sameKey_self (keyedK.key (klit_key k hk))
  refine ⟨List.nodup_append.2 ⟨h.nd, by simp, fun a ha b hb e => ?_⟩, fun k' hk' => ?_, fun k' h' => ?_⟩
  · simp at hb
    subst hb e
    have := ((h.mem a hk).1 ha).2
    rw [hl] at this
    cases this
  · rw [List.mem_append]
    constructor
    · rintro (h1 | h1)
      · obtain ⟨x1, x2⟩ := (h.mem k' hk').1 h1
        exact ⟨x1, by rw [x2]; rfl⟩
      · simp at h1
        subst h1
        exact ⟨by rw [hp]; rfl, by rw [hself]; simp⟩
    · rintro ⟨x1, x2⟩
      by_cases e : k' = k
      · right; simp [e]
      · left
        refine (h.mem k' hk').2 ⟨x1, ?_⟩
        have : (klit k').sameKey (klit k) = false := sameKey_ne (fun h => e (klit_inj hk' hk h))
        rw [this] at x2
        simpa using x2
  · rcases List.mem_append.1 h' with h1 | h1
    · exact h.ok k' h1
    · simp at h1; subst h1; exact hk
theorem CollK.perm {es : Es} {left : Lit → Bool} {ks : List Ky} (h : CollK es left ks) (hl : ∀ z, left z = false) (hnd : (es.map Prod.fst).Nodup) (hok : ∀ p ∈ es, p.1.ok) : ks.Perm (es.map Prod.fst) := by
  refine (List.perm_ext_iff_of_nodup h.nd hnd).2 (fun k => ?_)
  constructor
  · intro hk
    obtain ⟨x1, _⟩ := (h.mem k (h.ok k hk)).1 hk
    obtain ⟨p, hp⟩ := Option.isSome_iff_exists.1 x1
    exact List.mem_map.2 ⟨(k, p), fndG_mem hp, rfl⟩
  · intro hk
    obtain ⟨⟨k', p⟩, hp, rfl⟩ := List.mem_map.1 hk
    exact (h.mem k' (hok _ hp)).2 ⟨by rw [fndG_of_mem hnd hp]; rfl, hl _⟩

set_option maxRecDepth 100000 in
set_option maxHeartbeats 1000000 in
theorem keys183 (l Bm b nn : Nat) (D0 : DataW Value) (es : Es) (hD : DatG Ky.ok klit evE D0 es) (hnd : (es.map Prod.fst).Nodup) (hok : ∀ p ∈ es, p.1.ok) (hsz : es.length ≤ 900) (J : List Ky → World → Prop)
    (hY : ∀ pre x W, J pre W → pre.length < 1000 → YieldAt Fence.wide 0 Tryz.prog l #[kval x] W fun e W' => e = .returned (.bool true) ∧ J (pre ++ [x]) W' ∧ KeepsWalks W W')
    (W : World) (hJ : AbidesFrom W.heap.size J) (hm : W.cell? ⟨Bm, 0, none⟩ = some (.map (some b))) (hown : W.ownsMap Tryz.prog 63 heldE b nn D0) (h0 : J [] W) :
    CallsIn Fence.wide 0 Tryz.prog 183 #[.func (.yield l) #[] #[], .pointer (some ⟨Bm, 0, none⟩)] W fun e W' => (∃ v, e = .returned v) ∧ ∃ ks : List Ky, ks.Perm (es.map Prod.fst) ∧ J ks W' := by
  refine callsIn_of_wp Tryz.func183 rfl trivial ?_ rfl
  simp only [Tryz.ntmps183, List.size_toArray, List.length_cons, List.length_nil, Nat.reduceAdd, Nat.reduceSub, Array.replicate_succ, Array.replicate_zero, List.push_toArray, List.append_toArray, List.nil_append, List.cons_append]
  gi_wp2_with (first
    | (gi_at_range; refine wpListIn_range_own _ rfl _ 121 rfl 63 177 keyedK undE _ b nn _ rfl hown ?_; intro w0 hrg0 hg0 hs0)
    | gi_in)
  go_frame
  gi_loopw [6] (fun _ wr => ∃ (left : Lit → Bool) (cnt : Nat) (ks : List Ky), wr.ranges Tryz.prog 63 heldE b W.heap.size nn D0 left cnt ∧ ks.length + cnt ≤ Maps.size D0 ∧ CollK es left ks ∧ J ks wr ∧ W.heap.size ≤ wr.heap.size)
    (fun _ wr => wr.rangeLeft b W.heap.size)
  case atStart =>
    exact ⟨_, _, [], hrg0, by simp, CollK.start D0 es hD, hJ [] W w0 none h0 hg0 (fun r e => by cases e), hg0.size⟩
  case round =>
    obtain ⟨left, cnt, ks, hrg, hcs, hC, hJs, hws⟩ := hrel
    gi_wp2_with (first
      | (gi_at_next; refine wpListIn_next_G (P := Tryz.prog) (kt := 63) _ mkey rfl _ rfl b W.heap.size nn D0 es hD left cnt rfl hrg ?_ ?_)
      | gi_in)
    · intro hc0 hl0
      gi_wp2
      go_end0
      exact ⟨⟨_, rfl⟩, ks, hC.perm hl0 hnd hok, hJs⟩
    · intro k p1 p2 w2 cnt2 hkok hp hlk hrg2 hlt hg2 hs2 hen
      have hJ2 : J ks w2 := hJ ks wr w2 (some W.heap.size) hJs hg2 (fun r e => by cases e; exact ⟨Nat.le_refl _, hrg.iter_walk⟩)
      have hJ3 : J ks (w2.alloc (.cells (kcells k) 63)) := hJ ks w2 _ none hJ2 (World.grownBy_alloc _ _ _) (fun r e => by cases e)
      obtain ⟨fn, tmps, assign, body, hy, hR⟩ := hY ks k _ hJ3 (by have := hD.size; omega)
      simp only [kval, evE] at hen hy ⊢
      have hrg3 := hrg2.alloc (.cells (kcells k) 63)
      clear hs2
      gi_wp2
      refine ⟨rfl, hR.mono ?_⟩
      rintro e W3 ⟨rfl, hJ4, hk3⟩
      gi_wp2
      have hrg4 := hrg3.of_walks hk3
      go_roundw
      case rel => exact ⟨_, cnt2, ks ++ [k], hrg4, by simp; omega, hC.step hkok hp hlk, hJ4, Nat.le_trans hws (Nat.le_trans hg2.size (Nat.le_trans (by simp) hk3.size))⟩
      case measure => rw [hrg4.left_eq, hrg.left_eq]; exact hlt

/-- maps.Keys hands back an iterator over the keys. -/
theorem keys_gives (Bm b nn : Nat) (D0 : DataW Value) (es : Es) (hD : DatG Ky.ok klit evE D0 es) (hnd : (es.map Prod.fst).Nodup) (hok : ∀ p ∈ es, p.1.ok) (hsz : es.length ≤ 900) (w : World) (hBm : Bm < w.heap.size)
    (hm : w.cell? ⟨Bm, 0, none⟩ = some (.map (some b))) (hown : w.ownsMap Tryz.prog 63 heldE b nn D0) :
    SeqGives Fence.wide 0 Tryz.prog 183 #[.pointer (some ⟨Bm, 0, none⟩)] kval (fun ks => ks.Perm (es.map Prod.fst)) 1000 w := fun l J W hW hJ hY h0 => by
  have hown' : W.ownsMap Tryz.prog 63 heldE b nn D0 := by
    have hbl := hown.lt
    obtain ⟨es', clock, hb, Ft, hs, hD'⟩ := hown
    exact ⟨es', clock, (hW.block b hbl).trans hb, Ft, hs, hD'⟩
  exact keys183 l Bm b nn D0 es hD hnd hok hsz J hY W hJ ((hW.cell (p := ⟨Bm, 0, none⟩) hBm).trans hm) hown' h0

theorem callKeys1 (vs : Array Value) (w : World) : Sem.run Tryz.prog (callFunc 183 vs) w = .ok (.enter 183 vs) w := by simp [go_sem]

set_option maxRecDepth 100000 in
theorem keys164 (b : Nat) (w : World) :
    Calls Tryz.prog 164 #[.map (some b)] w fun e w' => e = .returned (.func (.func 183) #[] #[.pointer (some ⟨w.heap.size, 0, none⟩)]) ∧ w' = w.alloc (.cells #[.map (some b)] 121) := by
  have hmf : ∀ (fn : Fn) (first cap : Array Value) (w : World), (Instr.makeFunc fn first cap).run Tryz.prog w = .ok (.func fn first cap) w := fun _ _ _ _ => rfl
  go_enter Tryz.func164, Tryz.ntmps164
  go_wp2
  go_ret
  exact ⟨rfl, rfl⟩

set_option maxRecDepth 100000 in
set_option maxHeartbeats 1000000 in
/-- slices.Collect of a map's keys. -/
theorem collect181 (Bm b : Nat) (es : Es) (w : World) (hE : MapE w b es) (hnd : (es.map Prod.fst).Nodup) (hok : ∀ p ∈ es, p.1.ok) (hsz : es.length ≤ 900) (hm : w.heap[Bm]? = some (.cells #[.map (some b)] 121)) :
    Calls Tryz.prog 181 #[.func (.func 183) #[] #[.pointer (some ⟨Bm, 0, none⟩)]] w fun e w' => ∃ (v : Value) (ks : List Ky), e = .returned v ∧ ks.Perm (es.map Prod.fst) ∧ w'.ownsRow w.heap.size 63 8 v ks.length (krow ks) ∧ Below w.heap.size w w' := by
  obtain ⟨n, D0, ho, hD⟩ := hE
  have H := hide (callsIn_wide.1 (appendSeq195 _ #[.pointer (some ⟨Bm, 0, none⟩)] callKeys1 (fun ks => ks.Perm (es.map Prod.fst)) w (keys_gives Bm b n D0 es hD hnd hok hsz w (ltB hm) (cellB hm 0) ho)))
  clear ho hD hm hnd hok
  go_enter Tryz.func181, Tryz.ntmps181
  go_wp2_with fail
  refine H.out.mono ?_
  rintro e w2 ⟨v, ks, rfl, h1, h2, h3⟩
  have HX := hide (And.intro h1 (And.intro h2 h3))
  clear h1 h2 h3
  go_wp2
  go_ret
  exact ⟨v, ks, rfl, HX.out⟩
end Go.Proofs.YtnlgndpcddngoaaGreatDoor

namespace Go.Proofs.YtnlgndpcddngoaaGreatDoor
open Go.RowKit Go.Maps Go.Sort
variable [dK] [iK]

theorem krow_get : ∀ (ks : List Ky) (t : Nat), t < ks.length * 8 → (krow ks)[t]? = some ((encK ks[t / 8]!)[t % 8]!)
  | [], t, h => by simp at h
  | k :: r, t, h => by
    show ((encK k) ++ krow r)[t]? = _
    have hl : (encK k).length = 8 := rfl
    by_cases h8 : t < 8
    · rw [List.getElem?_append_left (by rw [hl]; exact h8), Nat.div_eq_of_lt h8, Nat.mod_eq_of_lt h8]
      show (encK k)[t]? = some ((encK k)[t]!)
      rw [List.getElem?_eq_getElem (by rw [hl]; exact h8), List.getElem!_eq_getElem?_getD, List.getElem?_eq_getElem (by rw [hl]; exact h8)]
      rfl
    · rw [List.getElem?_append_right (by rw [hl]; omega), hl, krow_get r (t - 8) (by simp at h; omega)]
      have e1 : t / 8 = (t - 8) / 8 + 1 := by omega
      have e2 : t % 8 = (t - 8) % 8 := by omega
      rw [e1, e2]
      rfl
theorem own_holds {w : World} {base g cap n : Nat} {ks : List Ky} (h : w.ownsRow base 63 8 (.slice (some ⟨g, 0, none⟩) n cap) n (krow ks)) (hn : ks.length = n) : HoldsK encK 8 w g 0 ks.toArray := by
  intro j hj
  rw [size_flatK] at hj
  rcases h.2 with ⟨h, _⟩ | ⟨g', cap', cur, h, _, hh, _, _, _, ht⟩
  · simp at h
  · simp at h
    obtain ⟨e1, e2⟩ := h
    subst e1 e2
    refine ⟨?_, by rw [Nat.zero_add]; exact frozenB hh j⟩
    have hj' : j < ks.length * 8 := by simpa using hj
    rw [Nat.zero_add, cellB hh, get_flatK encK 8 _ j hj]
    have h1 := krow_get ks j hj'
    rw [← ht, List.getElem?_take, if_pos (by omega), Array.getElem?_toList] at h1
    rw [h1]
    simp
/-- Keys in a row that was sorted. -/
def KRow (w : World) (base : Nat) (v : Value) (ks : List Ky) : Prop :=
  (v = .slice none 0 0 ∧ ks = []) ∨ ∃ g cap, v = .slice (some ⟨g, 0, none⟩) ks.length cap ∧ ks.length ≤ cap ∧ base ≤ g ∧ g < w.heap.size ∧ HoldsK encK 8 w g 0 ks.toArray
/-- A key of such a row, cell by cell. -/
theorem holds_cell {w : World} {g : Nat} {ks : List Ky} (h : HoldsK encK 8 w g 0 ks.toArray) (i : Nat) (hi : i < ks.length) (j : Nat) (hj : j < 8) : w.cell? ⟨g, i * 8 + j, none⟩ = (kcells ks[i])[j]? := by
  have h1 := (h (i * 8 + j) (by rw [size_flatK]; simp; omega)).1
  rw [Nat.zero_add, get_flatK encK 8 _ _ (by simp; omega)] at h1
  have e1 : (i * 8 + j) / 8 = i := by omega
  have e2 : (i * 8 + j) % 8 = j := by omega
  rw [h1, e1, e2]
  have e3 : ks.toArray[i]! = ks[i] := by simp [hi]
  rw [e3]
  match j, hj with
  | 0, _ => rfl
  | 1, _ => rfl
  | 2, _ => rfl
  | 3, _ => rfl
  | 4, _ => rfl
  | 5, _ => rfl
  | 6, _ => rfl
  | 7, _ => rfl

set_option maxRecDepth 100000 in
theorem ins_nil (fv : Value) (w : World) : Calls Tryz.prog 207 #[.slice none 0 0, .int .i64 0, .int .i64 0, fv] w fun e w' => e = .returned (.tuple #[]) ∧ w' = w := by
  go_enter Tryz.func207, Tryz.ntmps207
  go_wp2
  refine wp_loop_rounds 1 ?_
  rw [rounds_succ]
  go_wp2
  go_end0
  exact ⟨rfl, rfl⟩
set_option maxRecDepth 100000 in
set_option maxHeartbeats 1000000 in
theorem pdq_nil (l : Int) (fv : Value) (w : World) : Calls Tryz.prog 196 #[.slice none 0 0, .int .i64 0, .int .i64 0, .int .i64 l, fv] w fun e w' => e = .returned (.tuple #[]) ∧ w' = w := by
  go_enter Tryz.func196, Tryz.ntmps196
  go_wp2
  refine wp_loop_rounds 1 ?_
  rw [rounds_succ]
  go_wp2_with (go_at_call 207; refine (ins_nil fv w).mono ?_; rintro e w' ⟨rfl, rfl⟩)
  (try simp only [Exit.inBlock, Exit.then]); refine bodyPost_ret (results_none rfl _ _ _) rfl ?_
  exact ⟨rfl, rfl⟩
set_option maxRecDepth 100000 in
theorem sortf_nil (fv : Value) (w : World) : Calls Tryz.prog 182 #[.slice none 0 0, fv] w fun e w' => e = .returned (.tuple #[]) ∧ w' = w := by
  go_enter Tryz.func182, Tryz.ntmps182
  go_wp2_with fail
  refine (len64 0 w (by omega)).mono ?_
  rintro e w1 ⟨⟨l, rfl⟩, he⟩
  rw [he]
  clear he
  go_wp2_with fail
  refine (pdq_nil l fv w).mono ?_
  rintro e w2 ⟨rfl, he⟩
  rw [he]
  clear he
  go_wp2
  go_end0
  exact ⟨rfl, rfl⟩

set_option maxRecDepth 100000 in
set_option maxHeartbeats 1000000 in
/-- slices.SortedFunc of a map's keys. -/
theorem sorted163 (Bm b : Nat) (es : Es) (w : World) (hE : MapE w b es) (hnd : (es.map Prod.fst).Nodup) (hok : ∀ p ∈ es, p.1.ok) (hsz : es.length ≤ 12) (hm : w.heap[Bm]? = some (.cells #[.map (some b)] 121)) :
    Calls Tryz.prog 163 #[.func (.func 183) #[] #[.pointer (some ⟨Bm, 0, none⟩)], .func (.func 165) #[] #[]] w fun e w' => ∃ (v : Value) (ks : List Ky), e = .returned v ∧ ks.Perm (es.map Prod.fst) ∧ KRow w' w.heap.size v ks ∧ Below w.heap.size w w' := by
  have H := hide (collect181 Bm b es w hE hnd hok (by omega) hm)
  clear hE hnd hok hm
  go_enter Tryz.func163, Tryz.ntmps163
  go_wp2_with fail
  refine H.out.mono ?_
  rintro e w2 ⟨v, ks, rfl, hp, ho, hb⟩
  have hln : ks.length = es.length := by rw [hp.length_eq, List.length_map]
  rcases ho.2 with ⟨rfl, h0⟩ | ⟨g, cap, cur, rfl, hbg, hh, hnc, _⟩
  · have hk0 : ks = [] := List.length_eq_zero_iff.1 h0
    subst hk0
    have HP := hide hp
    have HB := hide hb
    clear hp ho hb H h0
    go_wp2_with fail
    refine (sortf_nil _ w2).mono ?_
    rintro e w3 ⟨rfl, he⟩
    rw [he]
    clear he
    go_wp2
    go_ret
    exact ⟨_, [], rfl, HP.out, Or.inl ⟨rfl, rfl⟩, HB.out⟩
  · have hH := own_holds ho rfl
    have hgl := ltB hh
    obtain ⟨n, hn⟩ : ∃ n, n = ks.length := ⟨_, rfl⟩
    rw [← hn]
    have HS := hide (sortf182 g cap n ks.toArray w2 hH hgl (by simpa using hn.symm) (by omega))
    have hpm := insSort_perm (ltOf cmpK) ks.toArray
    have HP := hide hp
    have HB := hide hb
    have HH := hide hH
    have HN := hide hn
    clear hp ho hb H hH hh hn
    go_wp2_with fail
    refine HS.out.mono ?_
    rintro e w3 ⟨rfl, m, os, he⟩
    have HE := hide he
    clear he
    go_wp2
    go_ret
    obtain ⟨D, hD⟩ : ∃ D, D = insertionSort (ltOf cmpK) ks.toArray 0 ks.toArray.size := ⟨_, rfl⟩
    have he := HE.out
    rw [← hD] at he hpm
    have hDs : D.size = ks.length := by simpa using hpm.2
    have hk := sorted_keep w2 g m D os
    have hh := sorted_holds w2 g m ks.toArray D os HH.out hgl (by simpa using hDs)
    rw [← he] at hk hh
    refine ⟨_, D.toList, rfl, (by simpa using hpm.1 : D.toList.Perm ks).trans HP.out, Or.inr ⟨g, cap, ?_, ?_, hbg, Nat.lt_of_lt_of_le hgl hk.size, by simpa using hh⟩, ?_⟩
    · rw [HN.out]; simp [hDs]
    · simp [hDs]; exact hnc
    · exact HB.out.trans (hk.below HB.out.size (fun c hc => by rw [hc]; exact hbg))
end Go.Proofs.YtnlgndpcddngoaaGreatDoor

namespace Go.Proofs.YtnlgndpcddngoaaGreatDoor
open Go.RowKit Go.Maps Go.Sort
variable [dK] [iK]

def heldOf (es : Es) (k : Ky) : Qt := ((fndG k es).map Prod.snd).getD ⟨0, 0, 0, 0, 0⟩
/-- The records of keys, one behind the other. -/
def recs (es : Es) (ks : List Ky) : List Int := ks.flatMap fun k => kby k ++ qby (heldOf es k)
theorem recs_len (es : Es) (ks : List Ky) : (recs es ks).length = 41 * ks.length := by
  unfold recs
  induction ks with
  | nil => rfl
  | cons k r ih => rw [List.flatMap_cons, List.length_append, ih, List.length_append, qby_length]; simp [kby]; omega
theorem recs_take (es : Es) (ks : List Ky) (i : Nat) (hi : i < ks.length) : recs es (ks.take (i + 1)) = recs es (ks.take i) ++ kby ks[i] ++ qby (heldOf es ks[i]) := by
  rw [List.take_add_one, List.getElem?_eq_getElem hi]
  unfold recs
  rw [List.flatMap_append]
  simp [List.append_assoc]

/-- A call of a function value, by its contract, in a region that draws. -/
theorem step_fv {ops : Array Oper} {o : Oper} {a : Act} {w : World} {K : Act → World → Prop} {Q : Exit → Act → World → Prop} {E : Prop} {R : Ending → World → Prop} (hg : o.guard = none) (f : FuncId) (cap : Array Value) (hcf : ∀ vs w, Sem.run Tryz.prog (callFunc f vs) w = .ok (.enter f vs) w) (s : Operand) (xs : Array Operand) (tys : Array TypeId)
    (hop : o.op = .call { callee := .value s, args := xs, argTypes := tys }) (hs : a.eval s = .func (.func f) #[] cap) (vs : Array Value) (hx : xs.map a.eval = vs) (hC : Calls Tryz.prog f (vs ++ cap) w R)
    (hR : ∀ e w', R e w' → ∃ v, e = .returned v ∧ K (a.put o.dst v) w') :
    if Region.wanted o (yielded ops a.tmps) = true then Oper.wp Tryz.prog o a w K Q else E := by
  have hw : Region.wanted o (yielded ops a.tmps) = true := by simp [Region.wanted, hg]
  rw [if_pos hw]
  have hr : (execOp a.eval o).run Tryz.prog w = .ok (.enter f (vs ++ cap)) w := by
    subst hx
    simp only [execOp, hop, resolve, hs, Deferred.ofValue]
    simp [invoke, hcf]
  unfold Oper.wp
  rw [hr, Oper.upon_enter]
  refine hC.mono ?_
  intro e w' h
  obtain ⟨v, rfl, h2⟩ := hR e w' h
  exact h2
theorem fldE1 (p1 p2 : Qt) (w : World) : (Instr.field 177 (.agg #[.int .u8 p1.kd, .int .u64 p1.x, .int .u64 p1.y, .int .u64 p1.lv, .int .u64 p1.wn, .int .u8 p2.kd, .int .u64 p2.x, .int .u64 p2.y, .int .u64 p2.lv, .int .u64 p2.wn]) 1).run Tryz.prog w = .ok (.agg #[.int .u8 p2.kd, .int .u64 p2.x, .int .u64 p2.y, .int .u64 p2.lv, .int .u64 p2.wn]) w := by kernel_rfl
theorem bldR (k : Ky) (p2 : Qt) (w : World) : (Instr.build 175 #[(0, .agg #[.int .u8 k.k0, .int .u8 k.k1, .int .u8 k.k2, .int .u8 k.k3, .int .u8 k.k4, .int .u8 k.k5, .int .u8 k.k6, .int .u8 k.k7]), (1, .agg #[.int .u8 p2.kd, .int .u64 p2.x, .int .u64 p2.y, .int .u64 p2.lv, .int .u64 p2.wn])]).run Tryz.prog w = .ok (.agg #[.int .u8 k.k0, .int .u8 k.k1, .int .u8 k.k2, .int .u8 k.k3, .int .u8 k.k4, .int .u8 k.k5, .int .u8 k.k6, .int .u8 k.k7, .int .u8 p2.kd, .int .u64 p2.x, .int .u64 p2.y, .int .u64 p2.lv, .int .u64 p2.wn]) w := by kernel_rfl
theorem callTell (vs : Array Value) (w : World) : Sem.run Tryz.prog (callFunc 193 vs) w = .ok (.enter 193 vs) w := by simp [go_sem]

/-- What is written while records are told. -/
structure Tld (w1 wr : World) (bb base : Nat) (v0 : Value) (bs : List Int) : Prop where
  box : ∃ b, wr.heap[bb]? = some (.cells #[b] 76) ∧ wr.ownsRow base 5 1 b bs.length (bs.map (Value.int .u8)) ∧ (b.ownBlock = v0.ownBlock ∨ ∃ g, b.ownBlock = some g ∧ w1.heap.size ≤ g)
  keep : Keep (fun c => c = bb ∨ v0.ownBlock = some c) w1 wr

set_option maxRecDepth 100000 in
set_option maxHeartbeats 4000000 in
theorem records143 (b bb base : Nat) (es : Es) (x0 : Int) (xs : List Int) (v0 : Value) (w : World) (hE : MapE w b es) (hnd : (es.map Prod.fst).Nodup) (hok : ∀ p ∈ es, p.1.ok) (hq : ∀ p ∈ es, p.2.2.fit) (hsz : es.length ≤ 12) (hx : 0 ≤ x0 ∧ x0 ≤ 100) (hxl : xs.length ≤ 100) (hbase : base ≤ w.heap.size)
    (hT : Tld w w bb base v0 (x0 :: xs)) :
    Calls Tryz.prog 143 #[.map (some b), .func (.func 193) #[] #[.pointer (some ⟨bb, 0, none⟩)]] w fun e w' => e = .returned (.tuple #[]) ∧ ∃ ks : List Ky, ks.Perm (es.map Prod.fst) ∧ Tld w w' bb base v0 ((x0 + ks.length) :: (xs ++ recs es ks)) := by
  have hbl := MapG.lt hE
  obtain ⟨b0, hb0, ho0, ha0⟩ := hT.box
  have hbbl := ltB hb0
  have hb0v : b0.ownBlock = v0.ownBlock := by
    rcases ha0 with h | ⟨g, h, hg⟩
    · exact h
    · have := (own_ltE ho0 h).2
      omega
  clear ha0
  have HE := hide hE
  have HT := hide hT
  have HND := hide hnd
  have HOK := hide hok
  have HQ := hide hq
  clear hE hT hnd hok hq
  go_enter Tryz.func143, Tryz.ntmps143
  go_wp2_with fail
  refine (keys164 b w).mono ?_
  rintro e w1 ⟨rfl, hw1⟩
  have hm1 : w1.heap[w.heap.size]? = some (.cells #[.map (some b)] 121) := hw1 ▸ heapNew _ _
  have hB1 : Below w.heap.size w w1 := hw1 ▸ (Below.refl _ w).alloc (Nat.le_refl _) _
  have hE1 : MapE w1 b es := MapG.kept HE.out (hB1.block b hbl)
  have HS := hide (sorted163 w.heap.size b es w1 hE1 HND.out HOK.out hsz hm1)
  have HB1 := hide hB1
  clear hw1 hm1 hB1 hE1
  go_wp2_with fail
  refine HS.out.mono ?_
  rintro e w2 ⟨v, ks, rfl, hp, hK, hB2⟩
  have hs1 := HB1.out.size
  have hs2 := hB2.size
  have hBB : Below w.heap.size w w2 := HB1.out.trans (hB2.mono hs1)
  have hE2 : MapE w2 b es := MapG.kept HE.out (hBB.block b hbl)
  have hln : ks.length = es.length := by rw [hp.length_eq, List.length_map]
  have hT2 : Tld w2 w2 bb base v0 (x0 :: xs) :=
    ⟨⟨b0, (hBB.block bb hbbl).trans hb0, own_keptE ho0 (fun g hg => hBB.block g (own_ltE ho0 hg).2), Or.inl hb0v⟩, Keep.refl _ _⟩
  have hmem : ∀ i (h : i < ks.length), ∃ p, fndG ks[i] es = some p ∧ ks[i].ok ∧ p.2.fit := fun i h => by
    have h1 : ks[i] ∈ es.map Prod.fst := hp.mem_iff.1 (List.getElem_mem h)
    obtain ⟨⟨k', p⟩, h2, h3⟩ := List.mem_map.1 h1
    dsimp only at h3
    subst h3
    exact ⟨p, fndG_of_mem HND.out h2, HOK.out _ h2, HQ.out _ h2⟩
  have HP := hide hp
  have HM := hide hmem
  have HT2 := hide hT2
  have HE2 := hide hE2
  have HBB := hide hBB
  clear hp hmem hT2 hE2 hBB hB2 HS
  obtain ⟨n, hn⟩ : ∃ n, n = ks.length := ⟨_, rfl⟩
  obtain ⟨av, cv, hv⟩ : ∃ av cv, v = .slice av n cv := by
    rcases hK with ⟨rfl, rfl⟩ | ⟨g, cap, rfl, _⟩
    · exact ⟨_, _, by rw [hn]; rfl⟩
    · exact ⟨_, _, by rw [hn]⟩
  have hKc : ∀ i, i < n → ∃ g, av = some ⟨g, 0, none⟩ ∧ n ≤ cv ∧ w.heap.size ≤ g ∧ g < w2.heap.size ∧ ∀ j, j < 8 → w2.cell? ⟨g, i * 8 + j, none⟩ = (kcells (ks.getD i default))[j]? := fun i hi => by
    rcases hK with ⟨rfl, rfl⟩ | ⟨g, cap, h1, h2, h3, h4, h5⟩
    · simp at hn; omega
    · rw [h1] at hv
      injection hv with e1 e2 e3
      subst e1 e3
      refine ⟨g, rfl, by omega, by omega, h4, fun j hj => ?_⟩
      rw [holds_cell h5 i (by omega) j hj]
      simp [List.getD, List.getElem?_eq_getElem (show i < ks.length by omega)]
  subst hv
  have HKC := hide hKc
  have HN := hide hn
  clear hKc hK hn
  go_wp2_with fail
  go_loopw [12] (fun s12 wr => ∃ i : Nat, i ≤ n ∧ s12 = .int .i64 i ∧ Tld w2 wr bb base v0 ((x0 + i) :: (xs ++ recs es (ks.take i)))) (fun s12 _ => n - (intOf s12).toNat)
  case atStart => exact ⟨0, by omega, rfl, by simpa [recs] using HT2.out⟩
  case round =>
    obtain ⟨i, hi, rfl, hTi⟩ := hrel
    have hki := hTi.keep
    have hsi := hki.size
    by_cases hlt : i < n
    · have hltI : (i : Int) < (n : Int) := by omega
      have hi0 : (0 : Int) ≤ (i : Int) := by omega
      obtain ⟨g, rfl, hgc, hwg, hgl, hcell⟩ := HKC.out i hlt
      obtain ⟨p, hp, hkok, hfit⟩ := HM.out i (by have := HN.out; omega)
      obtain ⟨k, hk⟩ : ∃ k, k = ks.getD i default := ⟨_, rfl⟩
      have hke : ks[i]'(by have := HN.out; omega) = k := by rw [hk]; simp [List.getD, List.getElem?_eq_getElem (show i < ks.length by have := HN.out; omega)]
      rw [hke] at hp hkok
      rw [← hk] at hcell
      obtain ⟨bi, hbi, hoi, hai⟩ := hTi.box
      have hgi : wr.heap[g]? = w2.heap[g]? := hki.block g hgl (fun h => h.elim (fun e => by omega) (fun e => by rw [← hb0v] at e; have := (own_ltE ho0 e).2; omega))
      have hci : ∀ j, j < 8 → wr.cell? ⟨g, i * 8 + j, none⟩ = (kcells k)[j]? := fun j hj => (World.cell?_of_block (w := w2) hgi).trans (hcell j hj)
      have hEi : MapE wr b es := MapG.kept HE2.out (hki.block b (MapG.lt HE2.out) (fun h => h.elim (fun e => MapG.ne HE.out hb0 e) (fun e => by
        rw [← hb0v] at e
        rcases ho0.2 with ⟨h2, _⟩ | ⟨g', cap', cur, h2, _, hh, _⟩
        · rw [h2] at e; simp [Value.ownBlock] at e
        · rw [h2] at e; simp [Value.ownBlock] at e; subst e; exact MapG.ne HE.out hh rfl)))
      have k0 := hci 0 (by omega)
      have k1 := hci 1 (by omega)
      have k2 := hci 2 (by omega)
      have k3 := hci 3 (by omega)
      have k4 := hci 4 (by omega)
      have k5 := hci 5 (by omega)
      have k6 := hci 6 (by omega)
      have k7 := hci 7 (by omega)
      rw [Nat.add_zero] at k0
      obtain ⟨V, hV⟩ : ∃ V, V = wr.alloc (.cells (kcells k) 63) := ⟨_, rfl⟩
      obtain ⟨X, hX⟩ : ∃ X, X = wr.heap.size := ⟨_, rfl⟩
      have hxV : V.heap[X]? = some (.cells (kcells k) 63) := by rw [hX, hV]; exact heapNew _ _
      have hbV : V.heap[bb]? = some (.cells #[bi] 76) := hV ▸ upB hbi _
      have hoV := hV ▸ hoi.alloc (.cells (kcells k) 63)
      have hEV : MapE V b es := MapG.kept hEi (hV ▸ heapOld _ _ (MapG.lt hEi))
      have hbsV : base ≤ V.heap.size := by rw [hV]; simp; have := HBB.out.size; omega
      obtain ⟨p1, p2⟩ := p
      have hlk : (Instr.lookup 121 (.map (some b)) (.agg #[.int .u8 k.k0, .int .u8 k.k1, .int .u8 k.k2, .int .u8 k.k3, .int .u8 k.k4, .int .u8 k.k5, .int .u8 k.k6, .int .u8 k.k7]) false).run Tryz.prog V.drew = .ok (.agg #[.int .u8 p1.kd, .int .u64 p1.x, .int .u64 p1.y, .int .u64 p1.lv, .int .u64 p1.wn, .int .u8 p2.kd, .int .u64 p2.x, .int .u64 p2.y, .int .u64 p2.lv, .int .u64 p2.wn]) V.drew := by
        have := MapG.look1 mkey (w := V.drew) (hEV.kept rfl) hkok undE (zeroE _)
        rw [hp] at this
        exact this
      have hll : (xs ++ recs es (ks.take i)).length ≤ 1000 := by
        rw [List.length_append, recs_len, List.length_take]
        have := HN.out
        omega
      have hn12 : n ≤ 12 := by have := HN.out; omega
      have HTE := hide (tell193 bb base (xs ++ recs es (ks.take i)).length (x0 + i) (xs ++ recs es (ks.take i)) bi k p2 V.drew rfl hbV hoV (by omega) (by omega) hbsV hfit)
      have HRT : Hid (recs es (ks.take (i + 1)) = recs es (ks.take i) ++ kby k ++ qby p2) := hide (by rw [recs_take es ks i (by have := HN.out; omega), hke]; unfold heldOf; rw [hp]; rfl)
      have hf1 := fldE1 p1 p2
      have hf2 := bldR k p2
      have HTI := hide hTi
      have HKI := hide hki
      have HAI := hide hai
      have HVV := hide hV
      have HOI := hide hoi
      have HSI := hide hsi
      have cX := cellB hxV
      clear hTi hki hoV hEV hEi hci hcell hgi hp hke hk hll hbsV hoi hai hbi hxV hfit hsi
      go_upto_region 4 with fail
      rw [← hV, ← hX]
      have HXX := hide hX
      clear hX hV k0 k1 k2 k3 k4 k5 k6 k7
      go_region_law (refine step_fv (by rfl) 193 #[.pointer (some ⟨bb, 0, none⟩)] callTell _ _ _ (by rfl) (by rfl) #[.agg #[.int .u8 k.k0, .int .u8 k.k1, .int .u8 k.k2, .int .u8 k.k3, .int .u8 k.k4, .int .u8 k.k5, .int .u8 k.k6, .int .u8 k.k7, .int .u8 p2.kd, .int .u64 p2.x, .int .u64 p2.y, .int .u64 p2.lv, .int .u64 p2.wn]] (by simp only [List.map_toArray, List.map_cons, List.map_nil]; rfl) HTE.out ?_; rintro e w5 ⟨rfl, b5, h51, h52, h53, h54⟩; refine ⟨_, rfl, ?_⟩; have H51 := hide h51; have H52 := hide h52; have H53 := hide h53; have H54 := hide h54; clear h51 h52 h53 h54)
      all_goals (
        go_wp2
        go_roundw
        case rel =>
          have hV := HVV.out
          have hsV : V.heap.size = wr.heap.size + 1 := by rw [hV]; simp
          have eL : (x0 + ((i + 1 : Nat) : Int)) :: (xs ++ recs es (ks.take (i + 1))) = (x0 + i + 1) :: (xs ++ recs es (ks.take i) ++ kby k ++ qby p2) := by
            rw [HRT.out]
            simp [List.append_assoc]
            omega
          have eN : ((x0 + ((i + 1 : Nat) : Int)) :: (xs ++ recs es (ks.take (i + 1)))).length = (xs ++ recs es (ks.take i)).length + 42 := by
            rw [eL]
            simp [qby_length, kby]
            omega
          have hs2 := HKI.out.size
          refine ⟨i + 1, by omega, by go_num, ⟨_, H51.out, ?_, ?_⟩, ?_⟩
          · rw [eN, eL]
            exact H52.out
          · rcases H54.out with e | ⟨g', e, h'⟩
            · rcases HAI.out with e2 | ⟨g', e2, h'⟩
              · exact Or.inl (e.trans e2)
              · exact Or.inr ⟨g', e.trans e2, h'⟩
            · exact Or.inr ⟨g', e, by have h2 : V.heap.size ≤ g' := h'; omega⟩
          · refine (HKI.out.then (T := fun _ => False) (b := wr) (c := V) (by rw [hV]; exact (Keep.refl _ wr).alloc _) (fun _ _ h => h.elim)).then (b := V) ⟨H53.out.os, H53.out.tape, H53.out.output, H53.out.size, H53.out.block⟩ (fun j hj h => ?_)
            rcases h with h | h
            · exact Or.inl h
            · rcases HAI.out with e2 | ⟨g', e2, h'⟩
              · exact Or.inr (e2 ▸ h)
              · rw [e2] at h; injection h with h; omega
        case measure => simp [intOf]; omega)
    · obtain rfl : i = n := by omega
      have HTI := hide hTi
      clear hTi hki hsi
      go_wp2
      go_end0
      have etk : ks.take i = ks := List.take_of_length_le (by rw [← HN.out]; exact Nat.le_refl _)
      have hT := HTI.out
      rw [etk] at hT
      obtain ⟨bi, hbi, hoi, hai⟩ := hT.box
      have hsz := HBB.out.size
      refine ⟨rfl, ks, HP.out, ⟨bi, hbi, ?_, hai.imp id (fun ⟨g', e, h⟩ => ⟨g', e, by omega⟩)⟩, (Keep.of_below HBB.out).trans hT.keep⟩
      rw [← HN.out]
      exact hoi
end Go.Proofs.YtnlgndpcddngoaaGreatDoor

namespace Go.Proofs.YtnlgndpcddngoaaGreatDoor
open Go.RowKit
variable [dK] [iK]

set_option maxRecDepth 100000 in
theorem boolLoad (g o : Nat) (x : Int) (w : World) (h : w.cell? ⟨g, o, none⟩ = some (.int .u32 x)) :
    Calls Tryz.prog 221 #[.pointer (some ⟨g, o, none⟩)] w fun e w' => e = .returned (.bool (x != 0)) ∧ w' = w := by
  have hl := run_call_load (P := Tryz.prog) Tryz.func232 (by kernel_rfl) (by kernel_rfl) (by kernel_rfl) .u32 (by kernel_rfl) (a := ⟨g, o, none⟩) (x := x) h
  go_enter Tryz.func221, Tryz.ntmps221
  go_wp2
  go_ret
  exact ⟨rfl, rfl⟩
set_option maxRecDepth 100000 in
theorem once_done (g o : Nat) (fv : Value) (w : World) (h : w.cell? ⟨g, o, none⟩ = some (.int .u32 1)) :
    Calls Tryz.prog 202 #[.pointer (some ⟨g, o, none⟩), fv] w fun e w' => e = .returned (.tuple #[]) ∧ w' = w := by
  go_enter Tryz.func202, Tryz.ntmps202
  go_wp2_with (go_at_call 221; refine (boolLoad g o 1 _ h).mono ?_; rintro e w' ⟨rfl, rfl⟩)
  go_end0
  exact ⟨rfl, rfl⟩

def crcS (rest c : Int) : Int := bits BinOp.xor IntKind.u64 (rowM (bits BinOp.xor IntKind.u8 (rest % 256) c).toNat) (rest / 256)
def crcL : Int → List Int → Int
  | r, [] => r
  | r, c :: t => crcL (crcS r c) t
theorem bits_u8 (op : BinOp) (a b : Int) : 0 ≤ bits op .u8 a b ∧ bits op .u8 a b ≤ 255 := by
  have h := bounds_u8 (Go.wf_bits op .u8 a b)
  exact ⟨h.1, by omega⟩

theorem crcS_ok (r c : Int) : 0 ≤ crcS r c ∧ crcS r c ≤ 18446744073709551615 := bits_u64 _ _ _
theorem crcL_ok : ∀ (bs : List Int) (r : Int), 0 ≤ r → r ≤ 18446744073709551615 → 0 ≤ crcL r bs ∧ crcL r bs ≤ 18446744073709551615
  | [], _, h0, h1 => ⟨h0, h1⟩
  | c :: t, r, _, _ => crcL_ok t _ (crcS_ok r c).1 (crcS_ok r c).2
theorem crcL_snoc : ∀ (bs : List Int) (r c : Int), crcL r (bs ++ [c]) = crcS (crcL r bs) c
  | [], _, _ => rfl
  | b :: t, r, c => crcL_snoc t (crcS r b) c
/-- The sum of bytes. -/
def sumM (bs : List Int) : Int := bits BinOp.xor IntKind.u64 IntKind.u64.max (crcL 18446744073709551615 bs)

set_option maxRecDepth 100000 in
set_option maxHeartbeats 1000000 in
/-- Table.Of, of a table that is filled. -/
theorem of_done (g o b so n cap : Nat) (bs : List Int) (w : World) (hT : TabI w g o 256 w) (hd : w.cell? ⟨g, o, none⟩ = some (.int .u32 1)) (hn : bs.length = n) (hnc : n ≤ cap) (hn1 : n ≤ 1048576) (hgl : g < w.heap.size) (hbl : b < w.heap.size)
    (hc : ∀ j, j < n → w.cell? ⟨b, so + j, none⟩ = some (.int .u8 (bs.getD j 0))) (hr : ∀ j, 0 ≤ bs.getD j 0 ∧ bs.getD j 0 ≤ 255) (v : Int) (hv : v = sumM bs) :
    Calls Tryz.prog 187 #[.pointer (some ⟨g, o, none⟩), .slice (some ⟨b, so, none⟩) n cap] w fun e w' => e = .returned (.agg #[.int .u8 (nb v 0), .int .u8 (nb v 1), .int .u8 (nb v 2), .int .u8 (nb v 3), .int .u8 (nb v 4), .int .u8 (nb v 5), .int .u8 (nb v 6), .int .u8 (nb v 7)]) ∧ Below w.heap.size w w' := by
  have HT := hide hT
  have HC := hide hc
  have HR := hide hr
  have HN := hide hn
  have HD := hide hd
  have HVV := hide hv
  clear hT hc hr hn hd hv
  go_enter Tryz.func187, Tryz.ntmps187
  go_wp2_with fail
  obtain ⟨V, hV⟩ : ∃ V, V = w.alloc (.cells #[.int .u8 0, .int .u8 0, .int .u8 0, .int .u8 0, .int .u8 0, .int .u8 0, .int .u8 0, .int .u8 0] 322) := ⟨_, rfl⟩
  have hVb : Below w.heap.size w V := by rw [hV]; exact (Below.refl _ w).alloc (Nat.le_refl _) _
  have hVn : V.heap[w.heap.size]? = some (.cells #[.int .u8 0, .int .u8 0, .int .u8 0, .int .u8 0, .int .u8 0, .int .u8 0, .int .u8 0, .int .u8 0] 322) := by rw [hV]; exact heapNew _ _
  rw [← hV]
  clear hV
  have HVB := hide hVb
  have HVN := hide hVn
  clear hVb hVn
  refine (once_done g o _ V ((HVB.out.cell (p := ⟨g, o, none⟩) hgl).trans HD.out)).mono ?_
  rintro e w1 ⟨rfl, he1⟩
  rw [he1]
  clear he1
  go_wp2_with fail
  go_loopw [5, 16] (fun s5 s16 wr => ∃ j : Nat, j ≤ n ∧ s16 = .int .i64 j ∧ s5 = .int .u64 (crcL 18446744073709551615 (bs.take j)) ∧ wr = V) (fun _ s16 _ => n - (intOf s16).toNat)
  case atStart => exact ⟨0, by omega, rfl, by first | rfl | simp [crcL], by first | rfl | trivial⟩
  case round =>
    obtain ⟨j, hj, rfl, rfl, hwe⟩ := hrel
    rw [hwe]
    clear hwe
    obtain ⟨R, hR⟩ : ∃ R, R = crcL 18446744073709551615 (bs.take j) := ⟨_, rfl⟩
    have hR0 := crcL_ok (bs.take j) 18446744073709551615 (by omega) (by omega)
    rw [← hR] at hR0 ⊢
    have HRR := hide hR
    clear hR
    by_cases hlt : j < n
    · have hltI : (j : Int) < (n : Int) := by omega
      have hj0 : (0 : Int) ≤ (j : Int) := by omega
      obtain ⟨c, hce⟩ : ∃ c, c = bs.getD j 0 := ⟨_, rfl⟩
      have q0 : V.cell? ⟨b, so + j, none⟩ = some (.int .u8 c) := (HVB.out.cell (p := ⟨b, so + j, none⟩) hbl).trans (by rw [hce]; exact HC.out j hlt)
      have hxr := bits_u8 BinOp.xor (R % 256) c
      obtain ⟨u, hu, hur⟩ := HT.out.row (bits BinOp.xor IntKind.u8 (R % 256) c).toNat (by omega)
      have q1 : V.cell? ⟨g, o + 3 + (bits BinOp.xor IntKind.u8 (R % 256) c).toNat, none⟩ = some (.int .u64 u) := (HVB.out.cell (p := ⟨g, o + 3 + (bits BinOp.xor IntKind.u8 (R % 256) c).toNat, none⟩) hgl).trans hu
      have hxI : (0 : Int) ≤ bits BinOp.xor IntKind.u8 (R % 256) c := hxr.1
      have hx2 : bits BinOp.xor IntKind.u8 (R % 256) c < 256 := by omega
      have HCE := hide hce
      have HUR := hide (hur (by omega))
      clear hce hur hu hxr
      go_wp2
      go_roundw
      case rel =>
        have hjl : j < bs.length := by rw [HN.out]; exact hlt
        have htk : bs.take (j + 1) = bs.take j ++ [c] := by
          rw [List.take_add_one, List.getElem?_eq_getElem hjl, HCE.out, List.getD_eq_getElem?_getD, List.getElem?_eq_getElem hjl]
          rfl
        refine ⟨j + 1, by omega, by go_num, ?_, by first | rfl | trivial⟩
        rw [htk, crcL_snoc, ← HRR.out, HUR.out]
        rfl
      case measure => simp [intOf]; omega
    · obtain rfl : j = n := by omega
      have etk : bs.take j = bs := List.take_of_length_le (by rw [HN.out]; exact Nat.le_refl _)
      have hve : v = bits BinOp.xor IntKind.u64 IntKind.u64.max R := by rw [HVV.out, HRR.out, etk]; rfl
      have hvr := bits_u64 BinOp.xor IntKind.u64.max R
      rw [← hve] at hvr
      go_wp2_with fail
      rw [← hve]
      have HVE := hide hve
      clear hve
      refine (spread_any v V hvr.1 hvr.2).mono ?_
      rintro e w2 ⟨rfl, hb2⟩
      have hn2 := (hb2.block w.heap.size (ltB HVN.out)).trans HVN.out
      have c1 := cellB hn2
      have c2 := frozenB hn2
      have HB2 : Hid (Below w.heap.size w w2) := hide (HVB.out.trans (hb2.mono HVB.out.size))
      clear hb2 hn2
      go_wp2
      refine bodyPost_ret (v := .agg #[.int .u8 (nb v 0), .int .u8 (nb v 1), .int .u8 (nb v 2), .int .u8 (nb v 3), .int .u8 (nb v 4), .int .u8 (nb v 5), .int .u8 (nb v 6), .int .u8 (nb v 7)]) (by simp [results, Tryz.results187, go_sem, c1]) rfl ⟨rfl, ?_⟩
      exact (((((((HB2.out.setCell (Nat.le_refl _) _).setCell (Nat.le_refl _) _).setCell (Nat.le_refl _) _).setCell (Nat.le_refl _) _).setCell (Nat.le_refl _) _).setCell (Nat.le_refl _) _).setCell (Nat.le_refl _) _).setCell (Nat.le_refl _) _
end Go.Proofs.YtnlgndpcddngoaaGreatDoor

namespace Go.Proofs.YtnlgndpcddngoaaGreatDoor
open Go.RowKit
variable [dK] [iK]

/-- A table of sums in memory, filled or not. -/
structure TabOk (w : World) (g o : Nat) : Prop where
  once : ∃ d : Bool, w.cell? ⟨g, o, none⟩ = some (.int .u32 (if d then 1 else 0)) ∧ ∀ j, j < 256 → ∃ u, w.cell? ⟨g, o + 3 + j, none⟩ = some (.int .u64 u) ∧ (d = true → u = rowM j)
  mu : w.cell? ⟨g, o + 1, none⟩ = some (.int .i32 0)
  fro : ∀ j, j < 259 → w.frozen? ⟨g, o + j, none⟩ = false

set_option maxRecDepth 100000 in
set_option maxHeartbeats 1600000 in
theorem boolStoreD (a : Addr) (v : Value) (u : FrameMode) (w : World) (h : w.cell? a = some v) (hf : w.frozen? a = false) :
    CallsD Tryz.prog 233 #[.pointer (some a), .bool true] u w fun e u' w' => u' = u ∧ (e = .returned (.tuple #[]) ∧ w' = w.drew.setCell a (.int .u32 1)) := by
  have hc' : w.drew.cell? a = some v := by go_simp
  have hz' : w.drew.frozen? a = false := by go_simp
  have hst := run_call_store (P := Tryz.prog) Tryz.func235 (by kernel_rfl) (by kernel_rfl) (by kernel_rfl) (by kernel_rfl) (k := .u32) (y := 1) hc' hz'
  go_enter_d Tryz.func233, Tryz.ntmps233
  go_wp2
  go_region_calls
  all_goals (go_end0; exact ⟨rfl, rfl⟩)

set_option maxRecDepth 100000 in
set_option maxHeartbeats 1600000 in
theorem once_slow (g o : Nat) (w : World) (h0 : w.cell? ⟨g, o, none⟩ = some (.int .u32 0)) (h1 : w.cell? ⟨g, o + 1, none⟩ = some (.int .i32 0)) (f0 : w.frozen? ⟨g, o, none⟩ = false) (f1 : w.frozen? ⟨g, o + 1, none⟩ = false)
    (hT : TabI (w.setCell ⟨g, o + 1, none⟩ (.int .i32 1)) g o 0 (w.setCell ⟨g, o + 1, none⟩ (.int .i32 1))) :
    Calls Tryz.prog 222 #[.pointer (some ⟨g, o, none⟩), .func (.func 203) #[.pointer (some ⟨g, o, none⟩)] #[]] w fun e w' => e = .returned (.tuple #[]) ∧ ∃ w2, TabI (w.setCell ⟨g, o + 1, none⟩ (.int .i32 1)) g o 256 w2 ∧ w' = (w2.drew.setCell ⟨g, o, none⟩ (.int .u32 1)).setCell ⟨g, o + 1, none⟩ (.int .i32 0) := by
  have HT := hide hT
  clear hT
  obtain ⟨W, hW⟩ : ∃ W, W = w.setCell ⟨g, o + 1, none⟩ (.int .i32 1) := ⟨_, rfl⟩
  have a0 : W.cell? ⟨g, o, none⟩ = some (.int .u32 0) := by rw [hW]; exact (World.cell?_setCell_other _ ⟨g, o + 1, none⟩ ⟨g, o, none⟩ _ (by simp)).trans h0
  have a1 : W.cell? ⟨g, o + 1, none⟩ = some (.int .i32 1) := by rw [hW]; exact World.cell?_setCell_same w _ _ h1
  have b0 : W.frozen? ⟨g, o, none⟩ = false := by rw [hW, World.frozen?_setCell]; exact f0
  have b1 : W.frozen? ⟨g, o + 1, none⟩ = false := by rw [hW, World.frozen?_setCell]; exact f1
  rw [← hW] at HT ⊢
  have HA1 := hide a1
  have HB0 := hide b0
  have HB1 := hide b1
  clear a1 b0 b1
  go_enter_defers Tryz.func222, Tryz.ntmps222
  go_wp2_with fail
  refine (lockA ⟨g, o + 1, none⟩ _ h1 f1).mono ?_
  rintro e w' ⟨rfl, he⟩
  rw [he, ← hW]
  clear he hW
  go_wp2_with fail
  refine (boolLoad g o 0 _ a0).mono ?_
  rintro e w' ⟨rfl, he⟩
  rw [he]
  clear he
  go_wp2_with fail
  refine (fill_any g o W HT.out).mono ?_
  rintro e w2 ⟨rfl, T2⟩
  have HT2 := hide T2
  clear T2
  go_wp2
  refine leaves_cons (f := 233) (args := #[.pointer (some ⟨g, o, none⟩), .bool true]) (by simp) (by simp [go_sem]) ?_
  have c0 := HT2.out.cel o (Or.inl (by omega))
  have c1 := HT2.out.cel (o + 1) (Or.inl (by omega))
  refine (boolStoreD ⟨g, o, none⟩ (.int .u32 0) .returning _ (c0.1.trans a0) (c0.2.trans HB0.out)).mono ?_
  rintro e u' w'' ⟨rfl, rfl, rfl⟩
  refine leaves_cons (f := 46) (args := #[.pointer (some ⟨g, o + 1, none⟩)]) (by simp [settle]) (by simp [go_sem]) ?_
  refine (unlockA ⟨g, o + 1, none⟩ _ _ ?_ ?_).mono ?_
  · refine (World.cell?_setCell_other _ ⟨g, o, none⟩ ⟨g, o + 1, none⟩ _ (by simp)).trans ?_
    rw [World.cell?_drew]
    exact c1.1.trans HA1.out
  · rw [World.frozen?_setCell, World.frozen?_drew]
    exact c1.2.trans HB1.out
  rintro e u' w'' ⟨rfl, rfl, rfl⟩
  exact ⟨_, results_none rfl _ _ _, rfl, w2, HT2.out, rfl⟩

set_option maxRecDepth 100000 in
theorem once_first (g o : Nat) (w : World) (h0 : w.cell? ⟨g, o, none⟩ = some (.int .u32 0)) (h1 : w.cell? ⟨g, o + 1, none⟩ = some (.int .i32 0)) (f0 : w.frozen? ⟨g, o, none⟩ = false) (f1 : w.frozen? ⟨g, o + 1, none⟩ = false)
    (hT : TabI (w.setCell ⟨g, o + 1, none⟩ (.int .i32 1)) g o 0 (w.setCell ⟨g, o + 1, none⟩ (.int .i32 1))) :
    Calls Tryz.prog 202 #[.pointer (some ⟨g, o, none⟩), .func (.func 203) #[.pointer (some ⟨g, o, none⟩)] #[]] w fun e w' => e = .returned (.tuple #[]) ∧ ∃ w2, TabI (w.setCell ⟨g, o + 1, none⟩ (.int .i32 1)) g o 256 w2 ∧ w' = (w2.drew.setCell ⟨g, o, none⟩ (.int .u32 1)).setCell ⟨g, o + 1, none⟩ (.int .i32 0) := by
  have HC := hide (once_slow g o w h0 h1 f0 f1 hT)
  clear hT
  go_enter Tryz.func202, Tryz.ntmps202
  go_wp2_with fail
  refine (boolLoad g o 0 _ h0).mono ?_
  rintro e w' ⟨rfl, he⟩
  rw [he]
  clear he
  go_wp2_with fail
  refine HC.out.mono ?_
  rintro e w' ⟨rfl, HE⟩
  have HE := hide HE
  go_wp2
  go_end0
  exact ⟨rfl, HE.out⟩
end Go.Proofs.YtnlgndpcddngoaaGreatDoor

namespace Go.Proofs.YtnlgndpcddngoaaGreatDoor
open Go.RowKit
variable [dK] [iK]

/-- A table that is filled, in X; what was beside it in V is as it was. -/
structure TabTo (V X : World) (g o : Nat) : Prop where
  d : X.cell? ⟨g, o, none⟩ = some (.int .u32 1)
  mu : X.cell? ⟨g, o + 1, none⟩ = some (.int .i32 0)
  row : ∀ j, j < 256 → X.cell? ⟨g, o + 3 + j, none⟩ = some (.int .u64 (rowM j))
  fro : ∀ j, j < 259 → X.frozen? ⟨g, o + j, none⟩ = false
  cel : ∀ j, (j < o ∨ o + 259 ≤ j) → X.cell? ⟨g, j, none⟩ = V.cell? ⟨g, j, none⟩ ∧ X.frozen? ⟨g, j, none⟩ = V.frozen? ⟨g, j, none⟩
  keep : Keep (fun c => c = g) V X
theorem once_any (g o : Nat) (w : World) (h : TabOk w g o) :
    Calls Tryz.prog 202 #[.pointer (some ⟨g, o, none⟩), .func (.func 203) #[.pointer (some ⟨g, o, none⟩)] #[]] w fun e X => e = .returned (.tuple #[]) ∧ TabTo w X g o := by
  obtain ⟨d, hd, hr⟩ := h.once
  have f0 : w.frozen? ⟨g, o, none⟩ = false := h.fro 0 (by omega)
  have f1 := h.fro 1 (by omega)
  cases d with
  | true =>
    refine (once_done g o _ w hd).mono ?_
    rintro e X ⟨rfl, rfl⟩
    refine ⟨rfl, hd, h.mu, fun j hj => ?_, h.fro, fun _ _ => ⟨rfl, rfl⟩, Keep.refl _ _⟩
    obtain ⟨u, hu, hur⟩ := hr j hj
    rw [hu, hur rfl]
  | false =>
    refine (once_first g o w hd h.mu f0 f1 ?_).mono ?_
    · refine ⟨fun j hj => ?_, fun j hj => ?_, fun _ _ => ⟨rfl, rfl⟩, Keep.refl _ _⟩
      · obtain ⟨u, hu, _⟩ := hr j hj
        refine ⟨u, ?_, fun h => by omega⟩
        rw [World.cell?_setCell_other _ _ _ _ (by intro e; injection e with _ e2 _; omega)]
        exact hu
      · rw [World.frozen?_setCell, Nat.add_assoc]
        exact h.fro (3 + j) (by omega)
    · rintro e X ⟨rfl, w2, T2, rfl⟩
      have c : ∀ j, (j < o + 3 ∨ o + 259 ≤ j) → j ≠ o → j ≠ o + 1 → ((w2.drew.setCell ⟨g, o, none⟩ (.int .u32 1)).setCell ⟨g, o + 1, none⟩ (.int .i32 0)).cell? ⟨g, j, none⟩ = w.cell? ⟨g, j, none⟩ := fun j hj h1 h2 => by
        rw [World.cell?_setCell_other _ _ _ _ (by intro e; injection e with _ e2 _; omega), World.cell?_setCell_other _ _ _ _ (by intro e; injection e with _ e2 _; omega), World.cell?_drew, (T2.cel j hj).1, World.cell?_setCell_other _ _ _ _ (by intro e; injection e with _ e2 _; omega)]
      have f : ∀ j, (j < o + 3 ∨ o + 259 ≤ j) → ((w2.drew.setCell ⟨g, o, none⟩ (.int .u32 1)).setCell ⟨g, o + 1, none⟩ (.int .i32 0)).frozen? ⟨g, j, none⟩ = w.frozen? ⟨g, j, none⟩ := fun j hj => by
        rw [World.frozen?_setCell, World.frozen?_setCell, World.frozen?_drew, (T2.cel j hj).2, World.frozen?_setCell]
      have z0 : w2.drew.cell? ⟨g, o, none⟩ = some (.int .u32 0) := by
        rw [World.cell?_drew, (T2.cel o (Or.inl (by omega))).1, World.cell?_setCell_other _ _ _ _ (by intro e; injection e with _ e2 _; omega)]
        exact hd
      have z1 : (w2.drew.setCell ⟨g, o, none⟩ (.int .u32 1)).cell? ⟨g, o + 1, none⟩ = some (.int .i32 1) := by
        rw [World.cell?_setCell_other _ _ _ _ (by intro e; injection e with _ e2 _; omega), World.cell?_drew, (T2.cel (o + 1) (Or.inl (by omega))).1]
        exact World.cell?_setCell_same w _ _ h.mu
      refine ⟨rfl, ?_, World.cell?_setCell_same _ _ _ z1, fun j hj => ?_, fun j hj => ?_, fun j hj => ⟨c j (by omega) (by omega) (by omega), f j (by omega)⟩, ?_⟩
      · rw [World.cell?_setCell_other _ _ _ _ (by intro e; injection e with _ e2 _; omega)]
        exact World.cell?_setCell_same _ _ _ z0
      · rw [World.cell?_setCell_other _ _ _ _ (by intro e; injection e with _ e2 _; omega), World.cell?_setCell_other _ _ _ _ (by intro e; injection e with _ e2 _; omega), World.cell?_drew]
        obtain ⟨u, hu, hur⟩ := T2.row j hj
        rw [hu, hur hj]
      · by_cases hj3 : j < 3
        · rw [f (o + j) (by omega)]
          exact h.fro j hj
        · rw [World.frozen?_setCell, World.frozen?_setCell, World.frozen?_drew]
          have := T2.fro (j - 3) (by omega)
          rwa [show o + 3 + (j - 3) = o + j by omega] at this
      · refine Keep.set (S := fun c => c = g) (b := g) (Keep.set (S := fun c => c = g) (b := g) ?_ (Or.inl rfl) _ _) (Or.inl rfl) _ _
        exact ((Keep.set (S := fun c => c = g) (b := g) (Keep.refl _ w) (Or.inl rfl) _ _).trans T2.keep).drew
/-- What stands beside a table of sums is as it was. -/
structure TabPost (w w' : World) (g o : Nat) : Prop where
  tab : TabOk w' g o
  cel : ∀ j, (j < o ∨ o + 259 ≤ j) → w'.cell? ⟨g, j, none⟩ = w.cell? ⟨g, j, none⟩ ∧ w'.frozen? ⟨g, j, none⟩ = w.frozen? ⟨g, j, none⟩
  keep : Keep (fun c => c = g) w w'

set_option maxRecDepth 100000 in
set_option maxHeartbeats 1000000 in
/-- Table.Of. -/
theorem tabOf (g o b so n cap : Nat) (bs : List Int) (w : World) (hT : TabOk w g o) (hn : bs.length = n) (hnc : n ≤ cap) (hn1 : n ≤ 1048576) (hgl : g < w.heap.size) (hbl : b < w.heap.size) (hbg : b ≠ g)
    (hc : ∀ j, j < n → w.cell? ⟨b, so + j, none⟩ = some (.int .u8 (bs.getD j 0))) (hr : ∀ j, 0 ≤ bs.getD j 0 ∧ bs.getD j 0 ≤ 255) (v : Int) (hv : v = sumM bs) :
    Calls Tryz.prog 187 #[.pointer (some ⟨g, o, none⟩), .slice (some ⟨b, so, none⟩) n cap] w fun e w' => e = .returned (.agg #[.int .u8 (nb v 0), .int .u8 (nb v 1), .int .u8 (nb v 2), .int .u8 (nb v 3), .int .u8 (nb v 4), .int .u8 (nb v 5), .int .u8 (nb v 6), .int .u8 (nb v 7)]) ∧ TabPost w w' g o := by
  have HT := hide hT
  have HC := hide hc
  have HR := hide hr
  have HN := hide hn
  have HVV := hide hv
  clear hT hc hr hn hv
  have hmf : ∀ (fn : Fn) (first cap : Array Value) (w : World), (Instr.makeFunc fn first cap).run Tryz.prog w = .ok (.func fn first cap) w := fun _ _ _ _ => rfl
  go_enter Tryz.func187, Tryz.ntmps187
  go_wp2_with fail
  obtain ⟨V0, hV⟩ : ∃ V, V = w.alloc (.cells #[.int .u8 0, .int .u8 0, .int .u8 0, .int .u8 0, .int .u8 0, .int .u8 0, .int .u8 0, .int .u8 0] 322) := ⟨_, rfl⟩
  have hVb : Below w.heap.size w V0 := by rw [hV]; exact (Below.refl _ w).alloc (Nat.le_refl _) _
  have hVn : V0.heap[w.heap.size]? = some (.cells #[.int .u8 0, .int .u8 0, .int .u8 0, .int .u8 0, .int .u8 0, .int .u8 0, .int .u8 0, .int .u8 0] 322) := by rw [hV]; exact heapNew _ _
  rw [← hV]
  clear hV
  have hTV : TabOk V0 g o := by
    obtain ⟨d, h1, h2⟩ := HT.out.once
    exact ⟨⟨d, (hVb.cell (p := ⟨g, o, none⟩) hgl).trans h1, fun j hj => by obtain ⟨u, hu, hx⟩ := h2 j hj; exact ⟨u, (hVb.cell (p := ⟨g, o + 3 + j, none⟩) hgl).trans hu, hx⟩⟩, (hVb.cell (p := ⟨g, o + 1, none⟩) hgl).trans HT.out.mu, fun j hj => (hVb.frozen (p := ⟨g, o + j, none⟩) hgl).trans (HT.out.fro j hj)⟩
  refine (once_any g o V0 hTV).mono ?_
  rintro e V ⟨rfl, TV⟩
  have HTV := hide TV
  have HVB := hide hVb
  have hsz := TV.keep.size
  have hne : ¬ w.heap.size = g := by omega
  have HVN := hide ((TV.keep.block w.heap.size (ltB hVn) hne).trans hVn)
  have HCV : Hid (∀ j, j < n → V.cell? ⟨b, so + j, none⟩ = some (.int .u8 (bs.getD j 0))) := hide (fun j hj => (World.cell?_of_block (w := V0) (TV.keep.block b (Nat.lt_of_lt_of_le hbl hVb.size) hbg)).trans ((hVb.cell (p := ⟨b, so + j, none⟩) hbl).trans (HC.out j hj)))
  clear TV hVb hVn hTV hsz hne
  go_wp2_with fail
  go_loopw [5, 16] (fun s5 s16 wr => ∃ j : Nat, j ≤ n ∧ s16 = .int .i64 j ∧ s5 = .int .u64 (crcL 18446744073709551615 (bs.take j)) ∧ wr = V) (fun _ s16 _ => n - (intOf s16).toNat)
  case atStart => exact ⟨0, by omega, rfl, by first | rfl | simp [crcL], by first | rfl | trivial⟩
  case round =>
    obtain ⟨j, hj, rfl, rfl, hwe⟩ := hrel
    rw [hwe]
    clear hwe
    obtain ⟨R, hR⟩ : ∃ R, R = crcL 18446744073709551615 (bs.take j) := ⟨_, rfl⟩
    have hR0 := crcL_ok (bs.take j) 18446744073709551615 (by omega) (by omega)
    rw [← hR] at hR0 ⊢
    have HRR := hide hR
    clear hR
    by_cases hlt : j < n
    · have hltI : (j : Int) < (n : Int) := by omega
      have hj0 : (0 : Int) ≤ (j : Int) := by omega
      obtain ⟨c, hce⟩ : ∃ c, c = bs.getD j 0 := ⟨_, rfl⟩
      have q0 : V.cell? ⟨b, so + j, none⟩ = some (.int .u8 c) := by rw [hce]; exact HCV.out j hlt
      have hxr := bits_u8 BinOp.xor (R % 256) c
      have q1 := HTV.out.row (bits BinOp.xor IntKind.u8 (R % 256) c).toNat (by omega)
      have hxI : (0 : Int) ≤ bits BinOp.xor IntKind.u8 (R % 256) c := hxr.1
      have hx2 : bits BinOp.xor IntKind.u8 (R % 256) c < 256 := by omega
      have HCE := hide hce
      clear hce hxr
      obtain ⟨u, hu⟩ : ∃ u, u = rowM (bits BinOp.xor IntKind.u8 (R % 256) c).toNat := ⟨_, rfl⟩
      rw [← hu] at q1
      have HU := hide hu
      clear hu
      go_wp2
      go_roundw
      case rel =>
        have hjl : j < bs.length := by rw [HN.out]; exact hlt
        have htk : bs.take (j + 1) = bs.take j ++ [c] := by
          rw [List.take_add_one, List.getElem?_eq_getElem hjl, HCE.out, List.getD_eq_getElem?_getD, List.getElem?_eq_getElem hjl]
          rfl
        refine ⟨j + 1, by omega, by go_num, ?_, by first | rfl | trivial⟩
        rw [htk, crcL_snoc, ← HRR.out, HU.out]
        rfl
      case measure => simp [intOf]; omega
    · obtain rfl : j = n := by omega
      have etk : bs.take j = bs := List.take_of_length_le (by rw [HN.out]; exact Nat.le_refl _)
      have hve : v = bits BinOp.xor IntKind.u64 IntKind.u64.max R := by rw [HVV.out, HRR.out, etk]; rfl
      have hvr := bits_u64 BinOp.xor IntKind.u64.max R
      rw [← hve] at hvr
      go_wp2_with fail
      rw [← hve]
      have HVE := hide hve
      clear hve
      refine (spread_any v V hvr.1 hvr.2).mono ?_
      rintro e w2 ⟨rfl, hb2⟩
      have hn2 := (hb2.block w.heap.size (ltB HVN.out)).trans HVN.out
      have c1 := cellB hn2
      have c2 := frozenB hn2
      have HB2 := hide hb2
      clear hb2 hn2
      go_wp2
      refine bodyPost_ret (v := .agg #[.int .u8 (nb v 0), .int .u8 (nb v 1), .int .u8 (nb v 2), .int .u8 (nb v 3), .int .u8 (nb v 4), .int .u8 (nb v 5), .int .u8 (nb v 6), .int .u8 (nb v 7)]) (by simp [results, Tryz.results187, go_sem, c1]) rfl ⟨rfl, ?_⟩
      have hgV : g < V.heap.size := Nat.lt_of_lt_of_le hgl (Nat.le_trans HVB.out.size HTV.out.keep.size)
      have hgw : ¬ g = w.heap.size := by omega
      obtain ⟨X, hX⟩ : ∃ X, X = (((((((w2.setCell ⟨w.heap.size, 0, none⟩ (.int .u8 (nb v 0))).setCell ⟨w.heap.size, 1, none⟩ (.int .u8 (nb v 1))).setCell ⟨w.heap.size, 2, none⟩ (.int .u8 (nb v 2))).setCell ⟨w.heap.size, 3, none⟩ (.int .u8 (nb v 3))).setCell ⟨w.heap.size, 4, none⟩ (.int .u8 (nb v 4))).setCell ⟨w.heap.size, 5, none⟩ (.int .u8 (nb v 5))).setCell ⟨w.heap.size, 6, none⟩ (.int .u8 (nb v 6))).setCell ⟨w.heap.size, 7, none⟩ (.int .u8 (nb v 7)) := ⟨_, rfl⟩
      rw [← hX]
      have hXg : X.heap[g]? = V.heap[g]? := by
        rw [hX, heapSetO hgw, heapSetO hgw, heapSetO hgw, heapSetO hgw, heapSetO hgw, heapSetO hgw, heapSetO hgw, heapSetO hgw]
        exact HB2.out.block g hgV
      have hXc : ∀ j, X.cell? ⟨g, j, none⟩ = V.cell? ⟨g, j, none⟩ := fun j => World.cell?_of_block (w := V) hXg
      have hXf : ∀ j, X.frozen? ⟨g, j, none⟩ = V.frozen? ⟨g, j, none⟩ := fun j => World.frozen?_of_block (w := V) hXg
      refine ⟨⟨⟨true, (hXc o).trans HTV.out.d, fun j hj => ⟨_, (hXc _).trans (HTV.out.row j hj), fun _ => rfl⟩⟩, (hXc _).trans HTV.out.mu, fun j hj => (hXf _).trans (HTV.out.fro j hj)⟩, fun j hj => ⟨(hXc j).trans ((HTV.out.cel j hj).1.trans (HVB.out.cell (p := ⟨g, j, none⟩) hgl)), (hXf j).trans ((HTV.out.cel j hj).2.trans (HVB.out.frozen (p := ⟨g, j, none⟩) hgl))⟩, ?_⟩
      have k0 : Keep (fun c => c = g) w w2 := ((Keep.of_below HVB.out).trans HTV.out.keep).trans (Keep.of_below HB2.out)
      rw [hX]
      exact (((((((k0.set (Or.inr (Nat.le_refl _)) _ _).set (Or.inr (Nat.le_refl _)) _ _).set (Or.inr (Nat.le_refl _)) _ _).set (Or.inr (Nat.le_refl _)) _ _).set (Or.inr (Nat.le_refl _)) _ _).set (Or.inr (Nat.le_refl _)) _ _).set (Or.inr (Nat.le_refl _)) _ _).set (Or.inr (Nat.le_refl _)) _ _
end Go.Proofs.YtnlgndpcddngoaaGreatDoor

namespace Go.Proofs.YtnlgndpcddngoaaGreatDoor
open Go.RowKit
variable [dK] [iK]

theorem nb_range (v : Int) (j : Nat) : 0 ≤ nb v j ∧ nb v j ≤ 255 := by unfold nb; omega
theorem rd_be8 (v : Int) (h0 : 0 ≤ v) (h1 : v ≤ 18446744073709551615) : rdTo (fun j => (be8 v).getD j 0) 8 = v := by
  simp only [rdTo, be8, List.getD_cons_succ, List.getD_cons_zero, nb]
  omega

/-- The bytes of a request, of its numbers. -/
def Rq.encm (q : Rq) : List Int := encReq q.op q.k0 q.k1 q.k2 q.k3 q.k4 q.k5 q.k6 q.k7 q.kd q.x q.y q.n
structure Rq.okm (q : Rq) : Prop where
  op : 0 ≤ q.op ∧ q.op ≤ 255
  k0 : 0 ≤ q.k0 ∧ q.k0 ≤ 255
  k1 : 0 ≤ q.k1 ∧ q.k1 ≤ 255
  k2 : 0 ≤ q.k2 ∧ q.k2 ≤ 255
  k3 : 0 ≤ q.k3 ∧ q.k3 ≤ 255
  k4 : 0 ≤ q.k4 ∧ q.k4 ≤ 255
  k5 : 0 ≤ q.k5 ∧ q.k5 ≤ 255
  k6 : 0 ≤ q.k6 ∧ q.k6 ≤ 255
  k7 : 0 ≤ q.k7 ∧ q.k7 ≤ 255
  kd : 0 ≤ q.kd ∧ q.kd ≤ 255
  x : 0 ≤ q.x ∧ q.x ≤ 18446744073709551615
  y : 0 ≤ q.y ∧ q.y ≤ 18446744073709551615
  n : 0 ≤ q.n ∧ q.n ≤ 18446744073709551615

/-- What is read of a request's own bytes, whatever stands behind. -/
structure Back (q r : Rq) (bs t : List Int) : Prop where
  err : rdErr (bs ++ t) = 0
  n : rdN (bs ++ t) = bs.length
  op : r.op = q.op
  enc : r.encm = bs

theorem back1 (q : Rq) (h : q.okm) (t : List Int) (h1 : q.op = 1) : Back q (rdQ (q.encm ++ t)) q.encm t := by
  have e : q.encm = [26, 1, q.k0, q.k1, q.k2, q.k3, q.k4, q.k5, q.k6, q.k7, q.kd] ++ be8 q.x ++ be8 q.y := by unfold Rq.encm encReq; rw [if_pos h1]
  have eE : rdErr (q.encm ++ t) = 0 := by
    rw [e]; simp [rdErr, be8, reqLen]; omega
  have hx := rd_be8 q.x h.x.1 h.x.2
  have hy := rd_be8 q.y h.y.1 h.y.2
  have eQ := rdQ_1 (q.encm ++ t) eE (by rw [e]; rfl)
  have ex : num8 (q.encm ++ t) 11 = q.x := by rw [e]; exact hx
  have ey : num8 (q.encm ++ t) 19 = q.y := by rw [e]; exact hy
  rw [ex, ey] at eQ
  refine ⟨eE, ?_, ?_, ?_⟩
  · unfold rdN; rw [if_pos eE, e]; simp [be8]
  · rw [eQ, h1]
  · rw [eQ, e]; rfl

theorem back2 (q : Rq) (h : q.okm) (t : List Int) (h1 : q.op = 2) : Back q (rdQ (q.encm ++ t)) q.encm t := by
  have e : q.encm = [17, 2, q.k0, q.k1, q.k2, q.k3, q.k4, q.k5, q.k6, q.k7] ++ be8 q.n := by unfold Rq.encm encReq; rw [if_neg (by omega), if_pos h1]
  have eE : rdErr (q.encm ++ t) = 0 := by
    rw [e]; simp [rdErr, be8, reqLen]; omega
  have hx := rd_be8 q.n h.n.1 h.n.2
  have eQ := rdQ_2 (q.encm ++ t) eE (by rw [e]; rfl)
  have ex : num8 (q.encm ++ t) 10 = q.n := by rw [e]; exact hx
  rw [ex] at eQ
  refine ⟨eE, ?_, ?_, ?_⟩
  · unfold rdN; rw [if_pos eE, e]; simp [be8]
  · rw [eQ, h1]
  · rw [eQ, e]; rfl

theorem back3 (q : Rq) (t : List Int) (h1 : q.op = 3 ∨ q.op = 4) : Back q (rdQ (q.encm ++ t)) q.encm t := by
  have e : q.encm = [9, q.op, q.k0, q.k1, q.k2, q.k3, q.k4, q.k5, q.k6, q.k7] := by unfold Rq.encm encReq; rw [if_neg (by omega), if_neg (by omega), if_pos h1]
  have eE : rdErr (q.encm ++ t) = 0 := by
    rw [e]; rcases h1 with h1 | h1 <;> simp [rdErr, reqLen, h1] <;> omega
  have eQ := rdQ_3 (q.encm ++ t) eE (by rw [e]; exact h1)
  refine ⟨eE, ?_, ?_, ?_⟩
  · unfold rdN; rw [if_pos eE, e]; simp
  · rw [eQ, e]; rfl
  · rw [eQ, e]; unfold Rq.encm encReq; simp only [List.cons_append, List.getD_cons_succ, List.getD_cons_zero]; rw [if_neg (by omega), if_neg (by omega), if_pos h1]

theorem back5 (q : Rq) (t : List Int) (h1 : q.op = 5 ∨ q.op = 6) : Back q (rdQ (q.encm ++ t)) q.encm t := by
  have e : q.encm = [1, q.op] := by unfold Rq.encm encReq; rw [if_neg (by omega), if_neg (by omega), if_neg (by omega), if_pos h1]
  have eE : rdErr (q.encm ++ t) = 0 := by
    rw [e]; rcases h1 with h1 | h1 <;> simp [rdErr, reqLen, h1] <;> omega
  have eQ := rdQ_5 (q.encm ++ t) eE (by rw [e]; exact h1)
  refine ⟨eE, ?_, ?_, ?_⟩
  · unfold rdN; rw [if_pos eE, e]; simp
  · rw [eQ, e]; rfl
  · rw [eQ, e]; unfold Rq.encm encReq; simp only [List.cons_append, List.getD_cons_succ, List.getD_cons_zero]; rw [if_neg (by omega), if_neg (by omega), if_neg (by omega), if_pos h1]

theorem reqLen_cases (op : Int) (h : reqLen op ≠ 0) : op = 1 ∨ op = 2 ∨ (op = 3 ∨ op = 4) ∨ op = 5 ∨ op = 6 := by
  unfold reqLen at h
  repeat' split at h
  all_goals omega
theorem back (q : Rq) (h : q.okm) (t : List Int) (h1 : reqLen q.op ≠ 0) : Back q (rdQ (q.encm ++ t)) q.encm t := by
  rcases reqLen_cases q.op h1 with h1 | h1 | h1 | h1
  · exact back1 q h t h1
  · exact back2 q h t h1
  · exact back3 q t h1
  · exact back5 q t h1

theorem rdErr_short (b0 b1 : Int) (t : List Int) (hor : ¬ (b0 < 1 ∨ 26 < b0)) (heq : b0 = reqLen b1) (hle : (((b0 :: b1 :: t).length : Nat) : Int) ≤ b0) : rdErr (b0 :: b1 :: t) = 1 := by
  simp only [rdErr]; rw [if_neg hor, if_pos heq, if_pos hle]
/-- Of less than all of a frame nothing is read. -/
theorem short_of (q : Rq) (h1 : reqLen q.op ≠ 0) (j : Nat) (hj : j < q.encm.length) : rdErr (q.encm.take j) = 1 := by
  have hl := encReq_length q.op q.k0 q.k1 q.k2 q.k3 q.k4 q.k5 q.k6 q.k7 q.kd q.x q.y q.n
  rw [if_neg h1] at hl
  have hcons : ∃ t, q.encm = reqLen q.op :: q.op :: t := by
    unfold Rq.encm encReq reqLen
    rcases reqLen_cases q.op h1 with h | h | h | h
    · simp [h]
    · simp [h]
    · rcases h with h | h <;> simp [h]
    · rcases h with h | h <;> simp [h]
  obtain ⟨t, ht⟩ := hcons
  have hlen : ((q.encm.length : Nat) : Int) = reqLen q.op + 1 := hl
  have hb : 1 ≤ reqLen q.op ∧ reqLen q.op ≤ 26 := by
    rcases reqLen_cases q.op h1 with h | h | h | h
    · simp [h, reqLen]
    · simp [h, reqLen]
    · rcases h with h | h <;> simp [h, reqLen]
    · rcases h with h | h <;> simp [h, reqLen]
  have hor : ¬ (reqLen q.op < 1 ∨ 26 < reqLen q.op) := by omega
  match j, hj with
  | 0, _ => rfl
  | 1, _ => rw [ht]; simp only [List.take_succ_cons, List.take_zero, rdErr]; rw [if_neg hor]
  | j + 2, hj =>
    rw [ht] at hlen hj ⊢
    simp only [List.take_succ_cons]
    refine rdErr_short _ _ _ hor rfl ?_
    simp only [List.length_cons, List.length_take] at hlen hj ⊢
    omega
end Go.Proofs.YtnlgndpcddngoaaGreatDoor

namespace Go.Proofs.YtnlgndpcddngoaaGreatDoor
open Go.RowKit Go.Maps
variable [dK] [iK]

/-- An image without its sum; an image. -/
def imgA (turn time : Int) (es : Es) (ks : List Ky) : List Int := (ks.length : Int) :: (be8 turn ++ be8 time ++ recs es ks)
def imgB (turn time : Int) (es : Es) (ks : List Ky) : List Int := imgA turn time es ks ++ be8 (sumM (imgA turn time es ks))
theorem be8_bytes (v : Int) : Bytes (be8 v) := by
  intro x hx
  simp [be8] at hx
  rcases hx with h | h | h | h | h | h | h | h <;> subst h <;> exact nb_range v _
theorem recs_bytes (es : Es) (ks : List Ky) (hk : ∀ k ∈ ks, k.ok ∧ (heldOf es k).fit) : Bytes (recs es ks) := by
  intro x hx
  obtain ⟨k, hk1, hx⟩ := List.mem_flatMap.1 hx
  obtain ⟨h1, h2⟩ := hk k hk1
  rcases List.mem_append.1 hx with hx | hx
  · simp [kby] at hx
    rcases hx with h | h | h | h | h | h | h | h <;> subst h
    · exact h1.h0
    · exact h1.h1
    · exact h1.h2
    · exact h1.h3
    · exact h1.h4
    · exact h1.h5
    · exact h1.h6
    · exact h1.h7
  · unfold qby at hx
    simp only [List.mem_append] at hx
    rcases hx with (((hx | hx) | hx) | hx) | hx
    · simp at hx; subst hx; exact h2.kd
    · exact be8_bytes _ x hx
    · exact be8_bytes _ x hx
    · exact be8_bytes _ x hx
    · exact be8_bytes _ x hx
theorem imgA_bytes (turn time : Int) (es : Es) (ks : List Ky) (hl : ks.length ≤ 12) (hk : ∀ k ∈ ks, k.ok ∧ (heldOf es k).fit) : Bytes (imgA turn time es ks) := by
  intro x hx
  rcases List.mem_cons.1 hx with hx | hx
  · subst hx; omega
  · rcases List.mem_append.1 hx with hx | hx
    · rcases List.mem_append.1 hx with hx | hx
      · exact be8_bytes _ x hx
      · exact be8_bytes _ x hx
    · exact recs_bytes es ks hk x hx
theorem imgA_len (turn time : Int) (es : Es) (ks : List Ky) : (imgA turn time es ks).length = 17 + 41 * ks.length := by
  unfold imgA
  rw [List.length_cons, List.length_append, List.length_append, recs_len]
  simp [be8]
  omega
theorem cell_slice {w : World} {base g n cap : Nat} {bs : List Int} (h : w.ownsRow base 5 1 (.slice (some ⟨g, 0, none⟩) n cap) n (bs.map (Value.int .u8))) (hn : bs.length = n) : ∀ j, j < n → w.cell? ⟨g, 0 + j, none⟩ = some (.int .u8 (bs.getD j 0)) := fun j hj => by
  rw [Nat.zero_add, h.cellAt j (by omega)]
  simp [List.getD, List.getElem?_eq_getElem (show j < bs.length by omega)]

/-- A box that holds bytes of one's own, all of it new since w0. -/
structure Bx (w0 W : World) (bb : Nat) (v : Value) (bs : List Int) : Prop where
  box : W.heap[bb]? = some (.cells #[v] 76)
  own : W.ownsRow w0.heap.size 5 1 v bs.length (bs.map (Value.int .u8))
  below : Below w0.heap.size w0 W
  bb0 : w0.heap.size ≤ bb
theorem Bx.ne {w0 W : World} {bb : Nat} {v : Value} {bs : List Int} (h : Bx w0 W bb v bs) : v.ownBlock ≠ some bb := fun e => own_neE h.own e h.box (by decide) rfl
theorem Bx.put {w0 W w1 : World} {bb : Nat} {v v1 : Value} {bs bs1 : List Int} (h : Bx w0 W bb v bs) (G : Grw W w1 v v1) (o1 : w1.ownsRow w0.heap.size 5 1 v1 bs1.length (bs1.map (Value.int .u8))) : Bx w0 (w1.setCell ⟨bb, 0, none⟩ v1) bb v1 bs1 := by
  have hb1 := G.block h.box h.ne
  have n1 := G.ne (ltB h.box) h.ne
  refine ⟨by simpa using heapSet hb1 0 v1, ownsRow_setCell_other o1 n1 _, ?_, h.bb0⟩
  refine Below.setCell ?_ h.bb0 _
  exact h.below.trans (G.below h.below.size (fun b hb => (own_ltE h.own hb).1))
theorem Bx.mid {w0 W w1 : World} {bb : Nat} {v v1 : Value} {bs : List Int} (h : Bx w0 W bb v bs) (G : Grw W w1 v v1) : w1.heap[bb]? = some (.cells #[v] 76) := G.block h.box h.ne
theorem Bx.tld {w0 W : World} {bb : Nat} {v : Value} {bs : List Int} (h : Bx w0 W bb v bs) : Tld W W bb w0.heap.size v bs := ⟨⟨v, h.box, h.own, Or.inl rfl⟩, Keep.refl _ _⟩
theorem Bx.told {w0 W w1 : World} {bb : Nat} {v : Value} {bs bs1 : List Int} (h : Bx w0 W bb v bs) (T : Tld W w1 bb w0.heap.size v bs1) : ∃ v1, Bx w0 w1 bb v1 bs1 := by
  obtain ⟨v1, h1, h2, _⟩ := T.box
  exact ⟨v1, h1, h2, h.below.trans (T.keep.below h.below.size (fun k hk => hk.elim (fun e => e ▸ h.bb0) (fun e => (own_ltE h.own e).1))), h.bb0⟩

set_option maxRecDepth 100000 in
set_option maxHeartbeats 4000000 in
theorem write180 (g o b : Nat) (es : Es) (turn time : Int) (w : World) (hE : MapE w b es) (hnd : (es.map Prod.fst).Nodup) (hok : ∀ p ∈ es, p.1.ok) (hq : ∀ p ∈ es, p.2.2.fit) (hsz : es.length ≤ 12) (ht0 : 0 ≤ turn) (ht1 : turn ≤ 18446744073709551615) (hm0 : 0 ≤ time) (hm1 : time ≤ 18446744073709551615) (hT : TabOk w g o) (hgl : g < w.heap.size) (_hbg : b ≠ g) :
    Calls Tryz.prog 180 #[.pointer (some ⟨g, o, none⟩), .int .u64 turn, .int .u64 time, .func (.func 143) #[.map (some b)] #[]] w fun e w' => ∃ (gv cap : Nat) (ks : List Ky), e = .returned (.slice (some ⟨gv, 0, none⟩) (imgB turn time es ks).length cap) ∧ ks.Perm (es.map Prod.fst) ∧ w.heap.size ≤ gv ∧ w'.ownsRow w.heap.size 5 1 (.slice (some ⟨gv, 0, none⟩) (imgB turn time es ks).length cap) (imgB turn time es ks).length ((imgB turn time es ks).map (Value.int .u8)) ∧ TabPost w w' g o := by
  obtain ⟨i0, hi, hz0, hz1, hz2⟩ := info_parts Tryz.info5
  have hbl := MapG.lt hE
  have hmf : ∀ (fn : Fn) (first cap : Array Value) (w : World), (Instr.makeFunc fn first cap).run Tryz.prog w = .ok (.func fn first cap) w := fun _ _ _ _ => rfl
  have HE := hide hE
  have HND := hide hnd
  have HOK := hide hok
  have HQ := hide hq
  have HT := hide hT
  clear hE hnd hok hq hT
  obtain ⟨V, hV⟩ : ∃ V, V = (w.alloc (.cells #[.int .u8 0] 5)).alloc (.cells #[.slice (some ⟨w.heap.size, 0, none⟩) 1 1] 76) := ⟨_, rfl⟩
  obtain ⟨bb, hbb⟩ : ∃ bb, bb = w.heap.size + 1 := ⟨_, rfl⟩
  have hbV : V.heap[bb]? = some (.cells #[.slice (some ⟨w.heap.size, 0, none⟩) 1 1] 76) := by rw [hbb, hV]; exact heapN (by simp)
  have hsV0 : V.heap[w.heap.size]? = some (.cells #[.int .u8 0] 5) := hV ▸ upB (heapNew _ _) _
  have hoV : V.ownsRow w.heap.size 5 1 (.slice (some ⟨w.heap.size, 0, none⟩) 1 1) 1 (([0] : List Int).map (Value.int .u8)) :=
    ⟨rfl, Or.inr ⟨w.heap.size, 1, _, rfl, Nat.le_refl _, hsV0, Nat.le_refl _, by unfold maxLen; omega, rfl, rfl⟩⟩
  have hBV : Below w.heap.size w V := hV ▸ ((Below.refl _ w).alloc (Nat.le_refl _) _).alloc (by simp) _
  have hsz0 : V.heap.size = w.heap.size + 2 := by rw [hV]; simp
  have hX0 : Bx w V bb (.slice (some ⟨w.heap.size, 0, none⟩) 1 1) [0] := ⟨hbV, hoV, hBV, by omega⟩
  have HX0 := hide hX0
  have HBB := hide hbb
  clear hBV hoV hsV0 hX0 hsz0
  go_enter Tryz.func180, Tryz.ntmps180
  go_upto_region 2 with fail
  rw [← hV, ← hbb]
  clear hV hbb
  have c0 := cellB hbV
  go_wp2_with fail
  refine (numG w.heap.size 1 [0] _ turn V rfl HX0.out.own (by omega) HX0.out.below.size ht0 ht1).mono ?_
  rintro e w1 ⟨v1, rfl, o1, G1⟩
  obtain ⟨a1, c1, e1⟩ := own_sliceE o1
  subst e1
  have m1 := HX0.out.mid G1
  have d1 := cellB m1
  have d2 := frozenB m1
  obtain ⟨U1, hU1⟩ : ∃ U1, U1 = w1.setCell ⟨bb, 0, none⟩ (.slice a1 (1 + 8) c1) := ⟨_, rfl⟩
  have hX1 : Bx w U1 bb (.slice a1 (1 + 8) c1) ([0] ++ be8 turn) := hU1 ▸ HX0.out.put G1 (by simpa [be8] using o1)
  have HX1 := hide hX1
  clear o1 G1 hX1 c0 hbV m1
  go_upto_region 3 with fail
  rw [← hU1]
  clear hU1 d1 d2
  have hb1 := HX1.out.box
  have c1' := cellB hb1
  go_wp2_with fail
  refine (numG w.heap.size 9 ([0] ++ be8 turn) _ time U1 (by simp [be8]) (by have := HX1.out.own; simpa [be8] using this) (by omega) HX1.out.below.size hm0 hm1).mono ?_
  rintro e w2 ⟨v2, rfl, o2, G2⟩
  obtain ⟨a2, c2, e2⟩ := own_sliceE o2
  subst e2
  have m2 := HX1.out.mid G2
  have d1 := cellB m2
  have d2 := frozenB m2
  obtain ⟨U2, hU2⟩ : ∃ U2, U2 = w2.setCell ⟨bb, 0, none⟩ (.slice a2 (9 + 8) c2) := ⟨_, rfl⟩
  have hX2 : Bx w U2 bb (.slice a2 (9 + 8) c2) (0 :: (be8 turn ++ be8 time)) := hU2 ▸ HX1.out.put G2 (by simpa [be8] using o2)
  have HX2 := hide hX2
  clear o2 G2 hX2 c1' hb1 m2
  go_upto_region 4 with fail
  rw [← hU2]
  clear hU2 d1 d2
  have hsU := HX2.out.below.size
  have hEU : MapE U2 b es := MapG.kept HE.out (HX2.out.below.block b hbl)
  have HR := hide (records143 b bb w.heap.size es 0 (be8 turn ++ be8 time) (.slice a2 (9 + 8) c2) U2 hEU HND.out HOK.out HQ.out hsz (by omega) (by simp [be8]) hsU HX2.out.tld)
  clear hEU
  go_wp2_with fail
  refine HR.out.mono ?_
  rintro e w3 ⟨rfl, ks, hp, T3⟩
  obtain ⟨v3, X3⟩ := HX2.out.told T3
  have eA : ((0 : Int) + (ks.length : Int)) :: (be8 turn ++ be8 time ++ recs es ks) = imgA turn time es ks := by unfold imgA; rw [Int.zero_add]
  rw [eA] at X3
  have hln : ks.length = es.length := by rw [hp.length_eq, List.length_map]
  have hby : Bytes (imgA turn time es ks) := imgA_bytes turn time es ks (by omega) (fun k hk => by
    obtain ⟨⟨k', p⟩, h2, h3⟩ := List.mem_map.1 (hp.mem_iff.1 hk)
    dsimp only at h3
    subst h3
    refine ⟨HOK.out _ h2, ?_⟩
    unfold heldOf
    rw [fndG_of_mem HND.out h2]
    exact HQ.out _ h2)
  have hlA := imgA_len turn time es ks
  obtain ⟨N, hN⟩ : ∃ N, N = (imgA turn time es ks).length := ⟨_, rfl⟩
  obtain ⟨g3, c3, e3, hg3⟩ : ∃ g3 c3, v3 = .slice (some ⟨g3, 0, none⟩) N c3 ∧ w.heap.size ≤ g3 := by
    rcases X3.own.2 with ⟨_, h⟩ | ⟨g', cap', cur, h, hg', _⟩
    · omega
    · exact ⟨g', cap', by rw [hN]; exact h, hg'⟩
  subst e3
  have hnc : N ≤ c3 := by
    rcases X3.own.2 with ⟨_, h⟩ | ⟨g', cap', cur, h, hg', _, h2, _⟩
    · omega
    · rw [← hN] at h h2; simp at h; omega
  have hT3 : TabOk w3 g o := by
    have hb := X3.below
    obtain ⟨d, h1, h2⟩ := HT.out.once
    exact ⟨⟨d, (hb.cell (p := ⟨g, o, none⟩) hgl).trans h1, fun j hj => by obtain ⟨u, hu, hx⟩ := h2 j hj; exact ⟨u, (hb.cell (p := ⟨g, o + 3 + j, none⟩) hgl).trans hu, hx⟩⟩, (hb.cell (p := ⟨g, o + 1, none⟩) hgl).trans HT.out.mu, fun j hj => (hb.frozen (p := ⟨g, o + j, none⟩) hgl).trans (HT.out.fro j hj)⟩
  have hs3 := X3.below.size
  have ho3 : w3.ownsRow w.heap.size 5 1 (.slice (some ⟨g3, 0, none⟩) N c3) N ((imgA turn time es ks).map (Value.int .u8)) := by have := X3.own; rw [← hN] at this; exact this
  have hg3l : g3 < w3.heap.size := (own_ltE ho3 (g := g3) rfl).2
  obtain ⟨sv, hsv⟩ : ∃ sv, sv = sumM (imgA turn time es ks) := ⟨_, rfl⟩
  have HO := hide (tabOf g o g3 0 N c3 (imgA turn time es ks) w3 hT3 hN.symm hnc (by omega) (by omega) hg3l (by omega) (cell_slice ho3 hN.symm) (fun j => hby.getD j) sv hsv)
  have c5 := cellB X3.box
  have HX3 := hide X3
  have HO3 := hide ho3
  have HP := hide hp
  have HSVV := hide hsv
  have HNN := hide hN
  have hbb3 := X3.box
  clear T3 X3 hp eA hby hT3 ho3 hsv hN HR hlA
  go_wp2_with fail
  refine HO.out.mono ?_
  rintro e w4 ⟨rfl, P4⟩
  obtain ⟨U4, hU4⟩ : ∃ U4, U4 = w4.alloc (.cells #[.int .u8 (nb sv 0), .int .u8 (nb sv 1), .int .u8 (nb sv 2), .int .u8 (nb sv 3), .int .u8 (nb sv 4), .int .u8 (nb sv 5), .int .u8 (nb sv 6), .int .u8 (nb sv 7)] 322) := ⟨_, rfl⟩
  obtain ⟨S, hS⟩ : ∃ S, S = w4.heap.size := ⟨_, rfl⟩
  have hb4 : U4.heap[bb]? = some (.cells #[.slice (some ⟨g3, 0, none⟩) N c3] 76) := hU4 ▸ upB ((P4.keep.block bb (ltB hbb3) (by have := HBB.out; omega)).trans hbb3) _
  have hS4 : U4.heap[S]? = some (.cells #[.int .u8 (nb sv 0), .int .u8 (nb sv 1), .int .u8 (nb sv 2), .int .u8 (nb sv 3), .int .u8 (nb sv 4), .int .u8 (nb sv 5), .int .u8 (nb sv 6), .int .u8 (nb sv 7)] 322) := by rw [hS, hU4]; exact heapNew _ _
  have ho4 : U4.ownsRow w.heap.size 5 1 (.slice (some ⟨g3, 0, none⟩) N c3) N ((imgA turn time es ks).map (Value.int .u8)) := by
    rw [hU4]
    exact (own_keptE HO3.out (fun g' hg' => P4.keep.block g' (own_ltE HO3.out hg').2 (by simp [Value.ownBlock] at hg'; omega))).alloc _
  have hsU4 : w3.heap.size ≤ U4.heap.size := by rw [hU4]; have := P4.keep.size; simp; omega
  have hcS : ∀ j u, ((be8 sv).map (Value.int .u8))[j]? = some u → U4.drew.cell? ((⟨S, 0, none⟩ : Addr).add j) = some u := by
    intro j u hj
    rw [Addr.add_lit, Nat.zero_add]
    show U4.cell? ⟨S, j, none⟩ = _
    rw [cellB hS4]
    match j, hj with
    | 0, hj => exact hj
    | 1, hj => exact hj
    | 2, hj => exact hj
    | 3, hj => exact hj
    | 4, hj => exact hj
    | 5, hj => exact hj
    | 6, hj => exact hj
    | 7, hj => exact hj
    | j + 8, hj => simp [be8] at hj
  have HP4 := hide P4
  have HO4 := hide ho4
  have HCS := hide hcS
  have HU4 := hide hU4
  have HHS := hide hS
  have HS4 := hide hsU4
  have hN3 : N ≤ 600 := by have h1 := HNN.out; have h2 := imgA_len turn time es ks; omega
  have f4 := cellB hb4
  clear P4 ho4 hcS hsU4 c5 hbb3
  go_upto_region 6 with fail
  rw [← hU4, ← hS]
  clear hU4 hS
  go_region_law (refine step_append_any (by rfl) _ _ 76 5 i0 (.int .u8 0) 1 1 Tryz.underlying76 hi hz0 hz1 hz2 rfl (by decide) (by rfl) w.heap.size (.slice (some ⟨g3, 0, none⟩) N c3) N _ (by rfl) HO4.out ⟨S, 0, none⟩ 8 8 ((be8 sv).map (Value.int .u8)) (by rfl) (by rfl) HCS.out (ints_oneCell _ _) (by omega) (by omega) (by have := HS4.out; show w.heap.size ≤ U4.heap.size; omega) ?_; intro v6 w6 hown6 hgrow6 hat6; have HO6 := hide hown6; have HG6 := hide hgrow6; clear hown6 hgrow6 hat6)
  all_goals go_wp2
  all_goals go_ret
  all_goals (
    have eB : imgA turn time es ks ++ be8 sv = imgB turn time es ks := by unfold imgB; rw [HSVV.out]
    have eN : N + 8 = (imgB turn time es ks).length := by rw [← eB, List.length_append, ← HNN.out]; rfl
    have ho6 := HO6.out
    rw [← List.map_append, eB, eN] at ho6
    obtain ⟨g6, c6, e6, hg6⟩ : ∃ g6 c6, v6 = .slice (some ⟨g6, 0, none⟩) (imgB turn time es ks).length c6 ∧ w.heap.size ≤ g6 := by
      rcases ho6.2 with ⟨_, h⟩ | ⟨g', cap', cur, h, hg', _⟩
      · omega
      · exact ⟨g', cap', h, hg'⟩
    subst e6
    refine ⟨g6, c6, ks, rfl, HP.out, hg6, ho6, ?_⟩
    have hB3 := HX3.out.below
    have hgU : g < U4.heap.size := by have := HS4.out; omega
    have hU4 := HU4.out
    have hg4 : g < w4.heap.size := Nat.lt_of_lt_of_le (Nat.lt_of_lt_of_le hgl hB3.size) HP4.out.keep.size
    have hkk : w6.heap[g]? = w4.heap[g]? := (HG6.out.block g hgU (by intro e; simp [Value.ownBlock] at e; omega)).trans (by rw [hU4]; exact heapOld _ _ hg4)
    have hcc : ∀ j, w6.cell? ⟨g, j, none⟩ = w4.cell? ⟨g, j, none⟩ := fun j => World.cell?_of_block (w := w4) hkk
    have hff : ∀ j, w6.frozen? ⟨g, j, none⟩ = w4.frozen? ⟨g, j, none⟩ := fun j => World.frozen?_of_block (w := w4) hkk
    have T4 := HP4.out.tab
    obtain ⟨d, q1, q2⟩ := T4.once
    refine ⟨⟨⟨d, (hcc _).trans q1, fun j hj => by obtain ⟨u, hu, hx⟩ := q2 j hj; exact ⟨u, (hcc _).trans hu, hx⟩⟩, (hcc _).trans T4.mu, fun j hj => (hff _).trans (T4.fro j hj)⟩, fun j hj => ⟨(hcc j).trans ((HP4.out.cel j hj).1.trans (hB3.cell (p := ⟨g, j, none⟩) hgl)), (hff j).trans ((HP4.out.cel j hj).2.trans (hB3.frozen (p := ⟨g, j, none⟩) hgl))⟩, ?_⟩
    have k1 : Keep (fun c => c = g) w U4 := by rw [hU4]; exact ((Keep.of_below hB3).trans HP4.out.keep).alloc _
    refine k1.then (T := fun c => c = g3) ⟨HG6.out.os, HG6.out.tape, HG6.out.output, HG6.out.size, fun i hi hn => HG6.out.block i hi (by intro e; simp [Value.ownBlock] at e; exact hn e)⟩ (fun i hi h => by omega))
end Go.Proofs.YtnlgndpcddngoaaGreatDoor

namespace Go.Proofs.YtnlgndpcddngoaaGreatDoor
open Go.RowKit
variable [dK] [iK]

/-- What is left of some bytes, in block g, is still to be read by the reader at block F. -/
structure FdAt (w : World) (F g : Nat) (bs : List Int) : Prop where
  mem : ∃ o c, w.cell? ⟨F, 0, none⟩ = some (.slice (some ⟨g, o, none⟩) bs.length c) ∧ bs.length ≤ c ∧ ∀ j, j < bs.length → w.cell? ⟨g, o + j, none⟩ = some (.int .u8 (bs.getD j 0))
  fro : w.frozen? ⟨F, 0, none⟩ = false
  byt : Bytes bs
  ne : g ≠ F
  gl : g < w.heap.size
  Fl : F < w.heap.size
theorem FdAt.kept {w w' : World} {F g : Nat} {bs : List Int} (h : FdAt w F g bs) (hs : w.heap.size ≤ w'.heap.size) (hF : w'.heap[F]? = w.heap[F]?) (hg : w'.heap[g]? = w.heap[g]?) : FdAt w' F g bs := by
  obtain ⟨o, c, h1, h2, h3⟩ := h.mem
  have cF : ∀ j, w'.cell? ⟨F, j, none⟩ = w.cell? ⟨F, j, none⟩ := fun j => World.cell?_of_block (w := w) hF
  have cG : ∀ j, w'.cell? ⟨g, j, none⟩ = w.cell? ⟨g, j, none⟩ := fun j => World.cell?_of_block (w := w) hg
  exact ⟨⟨o, c, (cF 0).trans h1, h2, fun j hj => (cG _).trans (h3 j hj)⟩, (World.frozen?_of_block (w := w) hF).trans h.fro, h.byt, h.ne, Nat.lt_of_lt_of_le h.gl hs, Nat.lt_of_lt_of_le h.Fl hs⟩
theorem FdAt.keep {w w' : World} {F g : Nat} {bs : List Int} (h : FdAt w F g bs) {S : Nat → Prop} (hk : Keep S w w') (h1 : ¬ S F) (h2 : ¬ S g) : FdAt w' F g bs := h.kept hk.size (hk.block F h.Fl h1) (hk.block g h.gl h2)
theorem getD_app_r (a b : List Int) (j : Nat) : (a ++ b).getD (a.length + j) 0 = b.getD j 0 := by
  simp only [List.getD]
  rw [List.getElem?_append_right (by omega), Nat.add_sub_cancel_left]
theorem getD_app_l (a b : List Int) (j : Nat) (h : j < a.length) : (a ++ b).getD j 0 = a.getD j 0 := by
  simp [List.getD, List.getElem?_append_left h]
/-- The reader went on by some bytes. -/
theorem FdAt.on {w : World} {F g o c : Nat} {a bs : List Int} (h : FdAt w F g (a ++ bs)) (h1 : w.cell? ⟨F, 0, none⟩ = some (.slice (some ⟨g, o, none⟩) (a ++ bs).length c)) (h2 : (a ++ bs).length ≤ c) (h3 : ∀ j, j < (a ++ bs).length → w.cell? ⟨g, o + j, none⟩ = some (.int .u8 ((a ++ bs).getD j 0))) : FdAt (w.setCell ⟨F, 0, none⟩ (.slice (some ⟨g, o + a.length, none⟩) ((a ++ bs).length - a.length) (c - a.length))) F g bs := by
  have hl : (a ++ bs).length = a.length + bs.length := List.length_append
  refine ⟨⟨o + a.length, c - a.length, ?_, by omega, fun j hj => ?_⟩, by rw [World.frozen?_setCell]; exact h.fro, fun b hb => h.byt b (List.mem_append_right _ hb), h.ne, by rw [World.size_setCell]; exact h.gl, by rw [World.size_setCell]; exact h.Fl⟩
  · rw [World.cell?_setCell_same _ _ _ h1, hl, Nat.add_sub_cancel_left]
  · rw [cell_off _ _ _ _ _ _ h.ne, Nat.add_assoc, h3 _ (by omega), getD_app_r]

theorem rdByte (F g : Nat) (b : Int) (bs : List Int) (w : World) (h : FdAt w F g (b :: bs)) (hne : 0 < bs.length) :
    Calls Tryz.prog 105 #[.pointer (some ⟨F, 0, none⟩)] w fun e w' => e = .returned (.int .u8 b) ∧ FdAt w' F g bs ∧ Keep (fun c => c = F) w w' := by
  obtain ⟨o, c, h1, h2, h3⟩ := h.mem
  have hl : (b :: bs).length = bs.length + 1 := rfl
  refine (small_c F g o _ c b w h1 h.fro (by omega) h2 (h3 0 (by omega))).mono ?_
  rintro e w' ⟨rfl, rfl⟩
  exact ⟨rfl, FdAt.on (a := [b]) h h1 h2 h3, Keep.set (S := fun c => c = F) (b := F) (Keep.refl _ w) (Or.inl rfl) _ _⟩

theorem rdNum (F g : Nat) (v : Int) (bs : List Int) (w : World) (h : FdAt w F g (be8 v ++ bs)) (hne : 0 < bs.length) (h0 : 0 ≤ v) (h9 : v ≤ 18446744073709551615) :
    Calls Tryz.prog 108 #[.pointer (some ⟨F, 0, none⟩)] w fun e w' => e = .returned (.int .u64 v) ∧ FdAt w' F g bs ∧ Keep (fun c => c = F) w w' := by
  obtain ⟨o, c, h1, h2, h3⟩ := h.mem
  have hb8 : (be8 v).length = 8 := rfl
  have hl : (be8 v ++ bs).length = 8 + bs.length := by rw [List.length_append, hb8]
  have hr : ∀ j, 0 ≤ (be8 v).getD j 0 ∧ (be8 v).getD j 0 ≤ 255 := fun j => (be8_bytes v).getD j
  refine (number_c F g o _ c (fun j => (be8 v).getD j 0) w h1 h.fro (by omega) h2 (fun j hj => by rw [h3 j (by omega), getD_app_l _ _ _ (by omega)]) hr).mono ?_
  rintro e w' ⟨rfl, rfl⟩
  rw [rd_be8 v h0 h9]
  exact ⟨rfl, FdAt.on (a := be8 v) h h1 h2 h3, Keep.set (S := fun c => c = F) (b := F) (Keep.refl _ w) (Or.inl rfl) _ _⟩

theorem rdKey (F g : Nat) (k : Ky) (bs : List Int) (w : World) (h : FdAt w F g (kby k ++ bs)) (hne : 0 < bs.length) :
    Calls Tryz.prog 106 #[.pointer (some ⟨F, 0, none⟩)] w fun e w' => e = .returned (.agg #[.int .u8 k.k0, .int .u8 k.k1, .int .u8 k.k2, .int .u8 k.k3, .int .u8 k.k4, .int .u8 k.k5, .int .u8 k.k6, .int .u8 k.k7]) ∧ FdAt w' F g bs ∧ Keep (fun c => c = F) w w' := by
  obtain ⟨o, c, h1, h2, h3⟩ := h.mem
  have hb8 : (kby k).length = 8 := rfl
  have hl : (kby k ++ bs).length = 8 + bs.length := by rw [List.length_append, hb8]
  have hx : ∀ j, j < 8 → w.cell? ⟨g, o + j, none⟩ = some (.int .u8 ((kby k).getD j 0)) := fun j hj => by rw [h3 j (by omega), getD_app_l _ _ _ (by omega)]
  refine (key_c F g o _ c k.k0 k.k1 k.k2 k.k3 k.k4 k.k5 k.k6 k.k7 w h.Fl h.gl (by omega) h2 h1 h.fro (hx 0 (by omega)) (hx 1 (by omega)) (hx 2 (by omega)) (hx 3 (by omega)) (hx 4 (by omega)) (hx 5 (by omega)) (hx 6 (by omega)) (hx 7 (by omega))).mono ?_
  rintro e w' ⟨rfl, hb⟩
  have hk := Keep.set (S := fun c => c = F) (b := F) (Keep.refl _ w) (Or.inl rfl) 0 (.slice (some ⟨g, o + 8, none⟩) ((kby k ++ bs).length - 8) (c - 8))
  have hF : FdAt (w.setCell ⟨F, 0, none⟩ (.slice (some ⟨g, o + 8, none⟩) ((kby k ++ bs).length - 8) (c - 8))) F g bs := FdAt.on (a := kby k) h h1 h2 h3
  have hbs := hb.size
  refine ⟨rfl, hF.kept hbs (hb.block F h.Fl) (hb.block g h.gl), hk.os ▸ hb.os, hk.tape ▸ hb.tape, hk.output ▸ hb.output, Nat.le_trans hk.size hbs, fun x hx hne => (hb.block x hx).trans (hk.block x hx hne)⟩

set_option maxRecDepth 100000 in
set_option maxHeartbeats 1000000 in
theorem rdPol (F g : Nat) (kd x y : Int) (bs : List Int) (w : World) (h : FdAt w F g (kd :: (be8 x ++ (be8 y ++ bs)))) (hne : 0 < bs.length) (hx : 0 ≤ x ∧ x ≤ 18446744073709551615) (hy : 0 ≤ y ∧ y ≤ 18446744073709551615) :
    Calls Tryz.prog 107 #[.pointer (some ⟨F, 0, none⟩)] w fun e w' => e = .returned (.agg #[.int .u8 kd, .int .u64 x, .int .u64 y]) ∧ FdAt w' F g bs ∧ Keep (fun c => c = F) w w' := by
  obtain ⟨V, hV⟩ : ∃ V, V = w.alloc (.cells #[.int .u8 0, .int .u64 0, .int .u64 0] 30) := ⟨_, rfl⟩
  have hKV : Keep (fun c => c = F) w V := hV ▸ (Keep.refl _ w).alloc _
  have h0 : V.heap[w.heap.size]? = some (.cells #[.int .u8 0, .int .u64 0, .int .u64 0] 30) := hV ▸ heapNew _ _
  have hFV : FdAt V F g (kd :: (be8 x ++ (be8 y ++ bs))) := h.kept hKV.size (hV ▸ heapOld _ _ h.Fl) (hV ▸ heapOld _ _ h.gl)
  have hnF : w.heap.size ≠ F := by have := h.Fl; omega
  have HR1 := hide (rdByte F g kd _ V hFV (by rw [List.length_append]; have : (be8 x).length = 8 := rfl; omega))
  have HK := hide hKV
  have HGl := hide h.gl
  clear h hFV hKV
  go_enter Tryz.func107, Tryz.ntmps107
  go_wp2_with fail
  rw [← hV]
  clear hV
  refine HR1.out.mono ?_
  rintro e w1 ⟨rfl, h1, k1⟩
  have g1 := (k1.block w.heap.size (ltB h0) hnF).trans h0
  have HR2 := hide (rdNum F g x _ w1 h1 (by rw [List.length_append]; have : (be8 y).length = 8 := rfl; omega) hx.1 hx.2)
  have HK1 := hide (HK.out.then k1 (fun i _ h => h))
  clear h1 k1
  go_wp2_with fail
  refine HR2.out.mono ?_
  rintro e w2 ⟨rfl, h2, k2⟩
  have g2 := (k2.block w.heap.size (ltB g1) hnF).trans g1
  have HR3 := hide (rdNum F g y _ w2 h2 hne hy.1 hy.2)
  have HK2 := hide (HK1.out.then k2 (fun i _ h => h))
  clear h2 k2
  go_wp2_with fail
  refine HR3.out.mono ?_
  rintro e w3 ⟨rfl, h3, k3⟩
  have g3 := (k3.block w.heap.size (ltB g2) hnF).trans g2
  have HF3 := hide h3
  have HK3 := hide (HK2.out.then k3 (fun i _ h => h))
  have e1 := cellB g3
  have e2 := frozenB g3
  clear h3 k3
  go_wp2
  refine bodyPost_ret (v := .agg #[.int .u8 kd, .int .u64 x, .int .u64 y]) (by simp [results, Tryz.results107, go_sem, e1]) rfl ⟨rfl, ?_, ?_⟩
  · have hF := HF3.out
    have n1 : F ≠ w.heap.size := fun e => hnF e.symm
    have n2 : g ≠ w.heap.size := fun e => by have := HGl.out; omega
    exact hF.kept (by simp) ((heapSetO n1 _ _).trans ((heapSetO n1 _ _).trans (heapSetO n1 _ _))) ((heapSetO n2 _ _).trans ((heapSetO n2 _ _).trans (heapSetO n2 _ _)))
  · exact Keep.set (S := fun c => c = F) (b := w.heap.size) (Keep.set (S := fun c => c = F) (b := w.heap.size) (Keep.set (S := fun c => c = F) (b := w.heap.size) HK3.out (Or.inr (Nat.le_refl _)) _ _) (Or.inr (Nat.le_refl _)) _ _) (Or.inr (Nat.le_refl _)) _ _
end Go.Proofs.YtnlgndpcddngoaaGreatDoor

namespace Go.Proofs.YtnlgndpcddngoaaGreatDoor
open Go.RowKit
variable [dK] [iK]

set_option maxRecDepth 100000 in
set_option maxHeartbeats 1000000 in
/-- A quota is read. -/
theorem qread170 (F g : Nat) (q : Qt) (bs : List Int) (w : World) (h : FdAt w F g (qby q ++ bs)) (hne : 0 < bs.length) (hq : q.ok) :
    Calls Tryz.prog 170 #[.pointer (some ⟨F, 0, none⟩)] w fun e w' => e = .returned (.tuple #[.agg #[.int .u8 q.kd, .int .u64 q.x, .int .u64 q.y, .int .u64 q.lv, .int .u64 q.wn], .bool true]) ∧ FdAt w' F g bs ∧ Keep (fun c => c = F) w w' := by
  have he : qby q ++ bs = q.kd :: (be8 q.x ++ (be8 q.y ++ (be8 q.lv ++ (be8 q.wn ++ bs)))) := by simp [qby]
  rw [he] at h
  have b8 : ∀ v, (be8 v).length = 8 := fun _ => rfl
  obtain ⟨V, hV⟩ : ∃ V, V = w.alloc (.cells #[.int .u8 0, .int .u64 0, .int .u64 0, .int .u64 0, .int .u64 0] 173) := ⟨_, rfl⟩
  have hKV : Keep (fun c => c = F) w V := hV ▸ (Keep.refl _ w).alloc _
  have h0 : V.heap[w.heap.size]? = some (.cells #[.int .u8 0, .int .u64 0, .int .u64 0, .int .u64 0, .int .u64 0] 173) := hV ▸ heapNew _ _
  have hFV := h.kept hKV.size (hV ▸ heapOld _ _ h.Fl) (hV ▸ heapOld _ _ h.gl)
  have hnF : w.heap.size ≠ F := by have := h.Fl; omega
  have hng : w.heap.size ≠ g := by have := h.gl; omega
  have HR1 := hide (rdPol F g q.kd q.x q.y _ V hFV (by rw [List.length_append, b8]; omega) hq.x hq.y)
  have HK := hide hKV
  have HGl := hide (And.intro h.gl h.Fl)
  have HQ := hide hq
  clear h hFV hKV hq
  go_enter Tryz.func170, Tryz.ntmps170
  go_wp2_with fail
  rw [← hV]
  clear hV
  refine HR1.out.mono ?_
  rintro e w1 ⟨rfl, h1, k1⟩
  have g1 := (k1.block w.heap.size (ltB h0) hnF).trans h0
  have HK1 := hide (HK.out.then k1 (fun i _ h => h))
  have HF1 := hide h1
  clear h1 k1
  go_wp2_with fail
  refine (qnew_ok q.kd q.x q.y w1 HQ.out.kd).mono ?_
  rintro e w2 ⟨rfl, hb2⟩
  obtain ⟨Y, hY⟩ : ∃ Y, Y = w2.alloc (.cells #[.int .u8 q.kd, .int .u64 q.x, .int .u64 q.y, .int .u64 0, .int .u64 0] 173) := ⟨_, rfl⟩
  obtain ⟨Q, hQ⟩ : ∃ Q, Q = w2.heap.size := ⟨_, rfl⟩
  have g2 : Y.heap[w.heap.size]? = some (.cells #[.int .u8 0, .int .u64 0, .int .u64 0, .int .u64 0, .int .u64 0] 173) := hY ▸ upB ((hb2.block _ (ltB g1)).trans g1) _
  have q2 : Y.heap[Q]? = some (.cells #[.int .u8 q.kd, .int .u64 q.x, .int .u64 q.y, .int .u64 0, .int .u64 0] 173) := by rw [hQ, hY]; exact heapNew _ _
  have s1 := hb2.size
  have sk := HK1.out.size
  have lg1 := ltB g1
  have hFY : FdAt Y F g (be8 q.lv ++ (be8 q.wn ++ bs)) := HF1.out.kept (by rw [hY]; simp; omega) (by rw [hY, heapOld _ _ (Nat.lt_of_lt_of_le HF1.out.Fl s1)]; exact hb2.block F HF1.out.Fl) (by rw [hY, heapOld _ _ (Nat.lt_of_lt_of_le HF1.out.gl s1)]; exact hb2.block g HF1.out.gl)
  have hKY : Keep (fun c => c = F) w Y := by rw [hY]; exact (HK1.out.then (T := fun _ => False) (Keep.of_below hb2) (fun _ _ h => h.elim)).alloc _
  have nQF : Q ≠ F := by have := HF1.out.Fl; omega
  have nQg : Q ≠ g := by have := HF1.out.gl; omega
  have nQr : Q ≠ w.heap.size := by omega
  have HR2 := hide (rdNum F g q.lv _ Y hFY (by rw [List.length_append, b8]; omega) HQ.out.lv.1 HQ.out.lv.2)
  have HQQ := hide hQ
  have HKY := hide hKY
  have HSS := hide (And.intro s1 (And.intro sk lg1))
  clear hb2 hFY hKY s1 sk lg1 HF1
  go_upto_region 2 with fail
  rw [← hY, ← hQ]
  clear hY hQ
  go_wp2_with fail
  refine HR2.out.mono ?_
  rintro e w3 ⟨rfl, h3, k3⟩
  have HR3 := hide (rdNum F g q.wn _ w3 h3 hne HQ.out.wn.1 HQ.out.wn.2)
  have g3 := (k3.block w.heap.size (ltB g2) hnF).trans g2
  have q3 := (k3.block Q (ltB q2) nQF).trans q2
  have HK3 := hide (HKY.out.then k3 (fun _ _ h => h))
  clear h3 k3
  go_wp2_with fail
  refine HR3.out.mono ?_
  rintro e w4 ⟨rfl, h4, k4⟩
  have g4 := (k4.block w.heap.size (ltB g3) hnF).trans g3
  have q4 := (k4.block Q (ltB q3) nQF).trans q3
  have HK4 := hide (HK3.out.then k4 (fun _ _ h => h))
  have HF4 := hide h4
  have e1 := cellB g4
  have e2 := frozenB g4
  have e3 := cellB q4
  have e4 := frozenB q4
  clear h4 k4
  have nrQ : ¬ w.heap.size = Q := fun e => nQr e.symm
  go_wp2
  refine bodyPost_ret (v := .tuple #[.agg #[.int .u8 q.kd, .int .u64 q.x, .int .u64 q.y, .int .u64 q.lv, .int .u64 q.wn], .bool true]) (by simp [results, Tryz.results170, go_sem, e1]) rfl ⟨rfl, ?_, ?_⟩
  · have n1 : ∀ x, x = F ∨ x = g → x ≠ Q ∧ x ≠ w.heap.size := fun x hx => by
      rcases hx with h | h
      · exact ⟨fun e => nQF (e.symm.trans h), fun e => hnF (e.symm.trans h)⟩
      · exact ⟨fun e => nQg (e.symm.trans h), fun e => hng (e.symm.trans h)⟩
    have hX : ∀ x, x = F ∨ x = g → (((((((w4.setCell ⟨Q, 3, none⟩ (.int .u64 q.lv)).setCell ⟨Q, 4, none⟩ (.int .u64 q.wn)).setCell ⟨w.heap.size, 0, none⟩ (.int .u8 q.kd)).setCell ⟨w.heap.size, 1, none⟩ (.int .u64 q.x)).setCell ⟨w.heap.size, 2, none⟩ (.int .u64 q.y)).setCell ⟨w.heap.size, 3, none⟩ (.int .u64 q.lv)).setCell ⟨w.heap.size, 4, none⟩ (.int .u64 q.wn)).heap[x]? = w4.heap[x]? := fun x hx => by
      obtain ⟨a, b⟩ := n1 x hx
      rw [heapSetO b, heapSetO b, heapSetO b, heapSetO b, heapSetO b, heapSetO a, heapSetO a]
    exact HF4.out.kept (by simp) (hX F (Or.inl rfl)) (hX g (Or.inr rfl))
  · have hQw : w.heap.size ≤ Q := by have := HQQ.out; have := HSS.out; omega
    refine Keep.set ?_ (Or.inr (Nat.le_refl _)) _ _
    refine Keep.set ?_ (Or.inr (Nat.le_refl _)) _ _
    refine Keep.set ?_ (Or.inr (Nat.le_refl _)) _ _
    refine Keep.set ?_ (Or.inr (Nat.le_refl _)) _ _
    refine Keep.set ?_ (Or.inr (Nat.le_refl _)) _ _
    refine Keep.set ?_ (Or.inr hQw) _ _
    refine Keep.set ?_ (Or.inr hQw) _ _
    exact HK4.out
end Go.Proofs.YtnlgndpcddngoaaGreatDoor

namespace Go.Proofs.YtnlgndpcddngoaaGreatDoor
open Go.RowKit Go.Maps
variable [dK] [iK]

set_option maxRecDepth 100000 in
set_option maxHeartbeats 2000000 in
theorem put263w (db nb base gv n cap : Nat) (m0 : Value) (fs : Fs) (b : Bool) (bs : List Int) (l f : Int) (w : World) (hd : w.heap[db]? = some (.cells #[m0, .map (some nb), .slice none 0 0, .int .i64 l, .int .i64 f, .bool false] 88)) (hD : DirAt w nb fs) (hl : -9223372036854775808 < l ∧ l < 0) (hf : -9223372036854775808 < f ∧ f < 0)
    (hn : bs.length = n) (hn1 : n ≤ 4000000) (hown : w.ownsRow base 5 1 (.slice (some ⟨gv, 0, none⟩) n cap) n (bs.map (Value.int .u8))) :
    Calls Tryz.prog 263 #[.pointer (some ⟨db, 0, none⟩), .int .i64 1, .string (nameB b), .slice (some ⟨gv, 0, none⟩) n cap] w fun e w' => e = .returned .nilIface ∧ ∃ pv g, w'.heap[db]? = some (.cells #[m0, .map (some nb), pv, .int .i64 (l - 1), .int .i64 (f - 1), .bool false] 88) ∧ w.heap.size ≤ g ∧ DirAt w' nb (putG b (g, strOfNums bs) fs) ∧ w'.ownsRow w.heap.size 146 3 pv 1 [.int .i64 1, .string (nameB b), .string (strOfNums bs)] ∧ Keep (fun c => c = db ∨ c = nb ∨ c = gv) w w' := by
  have hcv := conv_own hown hn
  obtain ⟨s, hs⟩ : ∃ s, s = strOfNums bs := ⟨_, rfl⟩
  rw [← hs] at hcv ⊢
  have hvd : gv ≠ db := own_neE hown rfl hd (by decide)
  have hvl : gv < w.heap.size := (own_ltE hown (g := gv) rfl).2
  have hvn : gv ≠ nb := by
    intro e
    rcases hown.2 with ⟨h, _⟩ | ⟨g', cap', cur, h, _, hh, _⟩
    · simp at h
    · simp at h
      rw [← h.1] at hh
      exact hD.map.ne hh e.symm
  obtain ⟨cur0, hc0, hcs⟩ : ∃ cur, w.heap[gv]? = some (.cells cur 5 (0, 0)) ∧ n ≤ cur.size := by
    rcases hown.2 with ⟨h, _⟩ | ⟨g', cap', cur, h, _, hh, h1, _, h2, _⟩
    · simp at h
    · simp at h
      obtain ⟨e1, e2⟩ := h
      subst e1 e2
      exact ⟨cur, hh, by omega⟩
  have HD := hide hD
  have HHD := hide hd
  have HC0 := hide hc0
  have HNN := hide hn
  clear hown hD hd hc0 hn hs
  go_enter Tryz.func263, Tryz.ntmps263
  go_wp2_with fail
  refine (tell261w db nb m0 fs b s l f w HHD.out HD.out hl hf).mono ?_
  rintro e w2 ⟨rfl, pv, g, hd2, hg2, hD2, ho2, hk2⟩
  have hv2 : w2.heap[gv]? = some (.cells cur0 5 (0, 0)) := (hk2.block gv hvl (fun h => h.elim hvd hvn)).trans HC0.out
  have HX := hide (And.intro hd2 (And.intro hg2 (And.intro hD2 (And.intro ho2 hk2))))
  have HB : Hid (Bang w2 w2 gv n) := hide ⟨Keep.refl _ _, cur0, hv2, hcs⟩
  clear hd2 hg2 hD2 ho2 hk2 hcv
  go_wp2_with fail
  go_loopw [20] (fun s20 wr => ∃ j : Nat, j ≤ n ∧ s20 = .int .i64 j ∧ Bang w2 wr gv n) (fun s20 _ => n - (intOf s20).toNat)
  case atStart => exact ⟨0, by omega, rfl, HB.out⟩
  case round =>
    obtain ⟨j, hj, rfl, hB⟩ := hrel
    by_cases hlt : j < n
    · have hltI : (j : Int) < (n : Int) := by omega
      have hj0 : (0 : Int) ≤ (j : Int) := by omega
      obtain ⟨⟨u, hu⟩, hfz⟩ := hB.cell j hlt
      have HBB := hide hB
      clear hB
      go_wp2
      go_roundw
      case rel => exact ⟨j + 1, by omega, by go_num, HBB.out.step j _⟩
      case measure => simp [intOf]; omega
    · obtain rfl : j = n := by omega
      have HBB := hide hB
      clear hB
      go_wp2
      go_ret
      obtain ⟨hd2, hg2, hD2, ho2, hk2⟩ := HX.out
      have hk := HBB.out.keep
      refine ⟨rfl, pv, g, (hk.block db (ltB hd2) (fun e => hvd e.symm)).trans hd2, hg2, hD2.keep hk (fun e => hvn e.symm) (fun p hp e => ?_), ?_, ?_⟩
      · have := hD2.str p hp
        rw [e, hv2] at this
        simp at this
      · exact own_keptE ho2 (fun g' hg' => hk.block g' (own_ltE ho2 hg').2 (fun e => by have := (own_ltE ho2 hg').1; omega))
      · exact (hk2.mono (fun k h _ => h.elim Or.inl (fun h => Or.inr (Or.inl h)))).then hk (fun i _ h => Or.inr (Or.inr h))

set_option maxRecDepth 100000 in
theorem write259 (db nb base gv n cap : Nat) (m0 : Value) (fs : Fs) (b : Bool) (bs : List Int) (l f : Int) (w : World) (hd : w.heap[db]? = some (.cells #[m0, .map (some nb), .slice none 0 0, .int .i64 l, .int .i64 f, .bool false] 88)) (hD : DirAt w nb fs) (hl : -9223372036854775808 < l ∧ l < 0) (hf : -9223372036854775808 < f ∧ f < 0)
    (hn : bs.length = n) (hn1 : n ≤ 4000000) (hown : w.ownsRow base 5 1 (.slice (some ⟨gv, 0, none⟩) n cap) n (bs.map (Value.int .u8))) :
    Calls Tryz.prog 259 #[.pointer (some ⟨db, 0, none⟩), .string (nameB b), .slice (some ⟨gv, 0, none⟩) n cap] w fun e w' => e = .returned .nilIface ∧ ∃ pv g, w'.heap[db]? = some (.cells #[m0, .map (some nb), pv, .int .i64 (l - 1), .int .i64 (f - 1), .bool false] 88) ∧ w.heap.size ≤ g ∧ DirAt w' nb (putG b (g, strOfNums bs) fs) ∧ w'.ownsRow w.heap.size 146 3 pv 1 [.int .i64 1, .string (nameB b), .string (strOfNums bs)] ∧ Keep (fun c => c = db ∨ c = nb ∨ c = gv) w w' := by
  have H := hide (put263w db nb base gv n cap m0 fs b bs l f w hd hD hl hf hn hn1 hown)
  clear hd hD hl hf hown hn
  go_enter Tryz.func259, Tryz.ntmps259
  go_wp2_with fail
  refine H.out.mono ?_
  rintro e w2 ⟨rfl, HX⟩
  have HX := hide HX
  go_wp2
  go_ret
  exact ⟨rfl, HX.out⟩

set_option maxRecDepth 100000 in
set_option maxHeartbeats 2000000 in
/-- What was told is made durable. -/
theorem sync258w (db mb base : Nat) (m1 pv : Value) (fs : Fs) (b : Bool) (s : ByteArray) (l f : Int) (w : World) (hd : w.heap[db]? = some (.cells #[.map (some mb), m1, pv, .int .i64 l, .int .i64 f, .bool false] 88)) (hD : DirAt w mb fs) (hl : -9223372036854775808 < l ∧ l < 0) (hf : -9223372036854775808 < f ∧ f < 0)
    (hown : w.ownsRow base 146 3 pv 1 [.int .i64 1, .string (nameB b), .string s]) :
    Calls Tryz.prog 258 #[.pointer (some ⟨db, 0, none⟩)] w fun e w' => e = .returned .nilIface ∧ ∃ g, w'.heap[db]? = some (.cells #[.map (some mb), m1, .slice none 0 0, .int .i64 (l - 1), .int .i64 (f - 1), .bool false] 88) ∧ w.heap.size ≤ g ∧ DirAt w' mb (putG b (g, s) fs) ∧ Keep (fun c => c = db ∨ c = mb) w w' := by
  obtain ⟨gp, cap, cur, rfl, hpd, hpl, hpc, hpt⟩ : ∃ gp cap cur, pv = .slice (some ⟨gp, 0, none⟩) 1 cap ∧ gp ≠ db ∧ gp < w.heap.size ∧ w.heap[gp]? = some (.cells cur 146 (0, 0)) ∧ cur.toList.take 3 = [.int .i64 1, .string (nameB b), .string s] := by
    rcases hown.2 with ⟨_, h⟩ | ⟨g', cap', cur, h, _, hh, _, _, _, h2⟩
    · omega
    · subst h
      exact ⟨g', cap', cur, rfl, own_neE hown rfl hd (by decide), ltB hh, hh, by simpa using h2⟩
  have hmd : mb ≠ db := hD.map.ne hd
  have hmg : mb ≠ gp := hD.map.ne hpc
  have hcc : ∀ j, j < 3 → cur[j]? = ([.int .i64 1, .string (nameB b), .string s] : List Value)[j]? := fun j hj => by
    rw [← hpt, List.getElem?_take, if_pos hj, Array.getElem?_toList]
  have HNP : ∀ p ∈ fs, ¬ p.2.1 = db := fun p hp e => by have := hD.str p hp; rw [e, hd] at this; simp at this
  have HD := hide hD
  have HP := hide HNP
  have HPC := hide hpc
  have HCC := hide hcc
  clear hown hD HNP hpc hcc hpt
  go_enter Tryz.func258, Tryz.ntmps258
  go_wp2_with fail
  refine (writes262 db _ _ _ l f w hd hl hf).mono ?_
  rintro e w1 ⟨rfl, hd1, hk1⟩
  have hp1 := (hk1.block gp hpl hpd).trans HPC.out
  have hD1 : DirAt w1 mb fs := HD.out.keep hk1 hmd HP.out
  have k0 : w1.cell? ⟨gp, 0, none⟩ = some (.int .i64 1) := (cellB hp1 0).trans (HCC.out 0 (by omega))
  have k1 : w1.cell? ⟨gp, 1, none⟩ = some (.string (nameB b)) := (cellB hp1 1).trans (HCC.out 1 (by omega))
  have k2 : w1.cell? ⟨gp, 2, none⟩ = some (.string s) := (cellB hp1 2).trans (HCC.out 2 (by omega))
  have a1 := cellB hd1
  have HD1 := hide hD1
  have HK1 := hide hk1
  clear hD1 hk1
  go_wp2_with fail
  refine wp_loop_rounds 2 ?_
  rw [rounds_succ]
  obtain ⟨V, hV⟩ : ∃ V, V = w1.alloc (.cells #[.int .i64 1, .string (nameB b), .string s] 146) := ⟨_, rfl⟩
  obtain ⟨O, hO⟩ : ∃ O, O = w1.heap.size := ⟨_, rfl⟩
  have h0 : V.heap[O]? = some (.cells #[.int .i64 1, .string (nameB b), .string s] 146) := by rw [hO, hV]; exact heapNew _ _
  have hdV : V.heap[db]? = _ := hV ▸ upB hd1 _
  have hDV : DirAt V.drew mb fs := HD1.out.kept (hV ▸ heapOld _ _ HD1.out.map.lt) (fun p hp => hV ▸ heapOld _ _ (ltB (HD1.out.str p hp)))
  have hKV : Keep (fun _ => False) w1 V := hV ▸ (Keep.refl _ w1).alloc _
  have HDV := hide hDV
  have HKV := hide hKV
  have HO := hide hO
  clear hDV hKV
  go_upto_region 7 with fail
  rw [← hV, ← hO]
  clear hV hO k0 k1 k2 a1
  have b1 := cellB hdV
  have b2 := cellB h0
  go_region_law (refine step_fn (by rfl) 59 callDo _ _ (by rfl) #[.map (some mb), .agg #[.int .i64 1, .string (nameB b), .string s]] (by simp only [List.map_toArray, List.map_cons, List.map_nil]; rfl) (do59w mb fs b s _ HDV.out) ?_; rintro e w2 ⟨rfl, hD2, hk2⟩; refine ⟨_, rfl, ?_⟩; have HD2 := hide hD2; have HK2 := hide hk2; clear hD2 hk2)
  all_goals (
    have hg3 : Hid (w1.heap.size ≤ V.heap.size + 1) := hide (Nat.le_trans HKV.out.size (Nat.le_succ _))
    have HK3 : Hid (Keep (fun c => c = mb) w1 w2) := hide ((HKV.out.mono (fun _ h _ => h.elim)).then (b := V) ⟨HK2.out.os, HK2.out.tape, HK2.out.output, HK2.out.size, HK2.out.block⟩ (fun i _ h => h))
    have hd3 := (HK3.out.block db (ltB hd1) (fun e => hmd e.symm)).trans hd1
    have c1 := cellB hd3
    have c2 := frozenB hd3
    clear b1 b2 HK2
    go_wp2
    rw [rounds_succ]
    go_wp2
    go_ret
    have hs1 := HK1.out.size
    refine ⟨rfl, _, by simpa using heapSet hd3 2 (.slice none 0 0), ?_, HD2.out.kept (heapSetO hmd _ _) (fun p hp => heapSetO (fun e => by have := HD2.out.str p hp; rw [e, hd3] at this; simp at this) _ _), ?_⟩
    · have := hg3.out
      show w.heap.size ≤ V.heap.size + 1
      omega
    · refine Keep.set ?_ (Or.inl (Or.inl rfl)) _ _
      exact (HK1.out.mono (fun k h _ => Or.inl h)).then HK3.out (fun i _ h => Or.inr h))
end Go.Proofs.YtnlgndpcddngoaaGreatDoor

namespace Go.Proofs.YtnlgndpcddngoaaGreatDoor
open Go.RowKit Go.Maps
variable [dK] [iK]

set_option maxRecDepth 1000000 in
theorem len64_small (n : Int) (h : n = 0 ∨ n = 1 ∨ n = 2) (w : World) : Calls Tryz.prog 216 #[.int .u64 n] w fun e w' => e = .returned (.int .i64 n) ∧ w' = w := by
  rcases h with rfl | rfl | rfl
  · go_enter Tryz.func216, Tryz.ntmps216
    go_wp2
    go_ret
    exact ⟨by kernel_rfl, rfl⟩
  · go_enter Tryz.func216, Tryz.ntmps216
    go_wp2
    go_ret
    exact ⟨by kernel_rfl, rfl⟩
  · go_enter Tryz.func216, Tryz.ntmps216
    go_wp2
    go_ret
    exact ⟨by kernel_rfl, rfl⟩

set_option maxRecDepth 100000 in
theorem nan_str (s : ByteArray) (w : World) : Calls Tryz.prog 278 #[.string s] w fun e w' => e = .returned (.bool false) ∧ w' = w := by
  go_enter Tryz.func278, Tryz.ntmps278
  go_wp2
  go_ret
  exact ⟨rfl, rfl⟩

set_option maxRecDepth 100000 in
theorem less_names (a b : ByteArray) (w : World) : Calls Tryz.prog 272 #[.string a, .string b] w fun e w' => e = .returned (.bool (Op.bytesLess a.toList b.toList)) ∧ w' = w := by
  go_enter Tryz.func272, Tryz.ntmps272
  go_wp2_with (go_at_call 278; refine (nan_str _ _).mono ?_; rintro e w' ⟨rfl, rfl⟩)
  all_goals go_ret
  all_goals exact ⟨rfl, rfl⟩

set_option maxRecDepth 100000 in
theorem insertion_short (x : Option Addr) (m c : Nat) (n : Int) (h : n = 0 ∨ n = 1) (w : World) : Calls Tryz.prog 266 #[.slice x m c, .int .i64 0, .int .i64 n] w fun e w' => e = .returned (.tuple #[]) ∧ w' = w := by
  have hn : ¬ (1 : Int) < n := by omega
  clear h
  go_enter Tryz.func266, Tryz.ntmps266
  go_wp2
  refine wp_loop_rounds 1 ?_
  rw [rounds_succ]
  go_wp2
  go_end0
  exact ⟨rfl, rfl⟩

set_option maxRecDepth 100000 in
set_option maxHeartbeats 1000000 in
theorem insertion_two (g c : Nat) (a b : Bool) (w : World) (h0 : w.cell? ⟨g, 0, none⟩ = some (.string (nameB a))) (h1 : w.cell? ⟨g, 1, none⟩ = some (.string (nameB b))) (f0 : w.frozen? ⟨g, 0, none⟩ = false) (f1 : w.frozen? ⟨g, 1, none⟩ = false) :
    Calls Tryz.prog 266 #[.slice (some ⟨g, 0, none⟩) 2 c, .int .i64 0, .int .i64 2] w fun e w' => e = .returned (.tuple #[]) ∧ ((w'.cell? ⟨g, 0, none⟩ = some (.string (nameB a)) ∧ w'.cell? ⟨g, 1, none⟩ = some (.string (nameB b))) ∨ (w'.cell? ⟨g, 0, none⟩ = some (.string (nameB b)) ∧ w'.cell? ⟨g, 1, none⟩ = some (.string (nameB a)))) ∧ Keep (fun x => x = g) w w' := by
  have HL := hide (less_names (nameB b) (nameB a))
  obtain ⟨t, ht⟩ : ∃ t, t = Op.bytesLess (nameB b).toList (nameB a).toList := ⟨_, rfl⟩
  rw [← ht] at HL
  clear ht
  generalize nameB a = na at *
  generalize nameB b = nb at *
  go_enter Tryz.func266, Tryz.ntmps266
  go_wp2
  refine wp_loop_rounds 2 ?_
  rw [rounds_succ]
  go_wp2
  refine wp_loop_rounds 2 ?_
  rw [rounds_succ]
  go_upto_region 4 with fail
  cases t
  · go_quiet ((go_at_call 272; refine Calls.quiet_of_same (HL.out _)))
    go_wp2
    rw [rounds_succ]
    go_wp2
    go_end0
    exact ⟨rfl, Or.inl ⟨h0, h1⟩, ⟨rfl, rfl, rfl, Nat.le_refl _, fun _ _ _ => rfl⟩⟩
  · go_quiet ((go_at_call 272; refine Calls.quiet_of_same (HL.out _)))
    go_wp2
    go_region
    all_goals go_wp2
    all_goals rw [rounds_succ]
    all_goals go_upto_region 4 with fail
    all_goals go_quiet (fail)
    all_goals go_wp2
    all_goals rw [rounds_succ]
    all_goals go_wp2
    all_goals go_end0
    all_goals refine ⟨rfl, Or.inr ?_, ?_⟩
    all_goals first
      | (refine ⟨?_, ?_⟩ <;> simp [World.cell?_setCell_same, World.cell?_setCell_other, h0, h1])
      | (refine ⟨rfl, rfl, rfl, by simp, fun k hk hne => ?_⟩; simp [World.drewN, heapSetO hne])

set_option maxRecDepth 100000 in
theorem sort_of (v : Value) (x : Option Addr) (m c : Nat) (hv : v = .slice x m c) (hm : m ≤ 2) (R : World → Prop) (w : World) (hI : Calls Tryz.prog 266 #[v, .int .i64 0, .int .i64 m] w fun e w' => e = .returned (.tuple #[]) ∧ R w') :
    Calls Tryz.prog 260 #[v] w fun e w' => e = .returned (.tuple #[]) ∧ R w' := by
  subst hv
  have hL := len64_small m (by omega)
  have hw : IntKind.u64.wrap (m : Int) = m := by rw [IntKind.wrap_u64]; omega
  have h12 : (m : Int) ≤ 12 := by omega
  have HI := hide hI
  have HL := hide hL
  clear hI hL hm
  have HP : Hid (∀ lim : Int, Calls Tryz.prog 265 #[.slice x m c, .int .i64 0, .int .i64 m, .int .i64 lim] w fun e w' => e = .returned (.tuple #[]) ∧ R w') := hide (fun lim => by
    have ws : IntKind.i64.wrap ((m : Int) - 0) = m := by rw [IntKind.wrap_i64]; omega
    go_enter Tryz.func265, Tryz.ntmps265
    go_wp2
    refine wp_loop_rounds 1 ?_
    rw [rounds_succ]
    go_wp2_with fail
    refine HI.out.mono ?_
    rintro e w' ⟨rfl, hR⟩
    have HR := hide hR
    clear hR
    go_wp2
    exact bodyPost_ret (results_none rfl _ _ _) rfl ⟨rfl, HR.out⟩)
  go_enter Tryz.func260, Tryz.ntmps260
  go_wp2_with (first | (go_at_call 265; refine (HP.out _).mono ?_; rintro e w' ⟨rfl, hR⟩; have HR := hide hR; clear hR) | (go_at_call 216; refine (HL.out _).mono ?_; rintro e w' ⟨rfl, rfl⟩) | (go_at_call 264; go_in) | (go_at_call 197; go_in))
  go_end0
  go_wp2
  go_end0
  exact ⟨rfl, HR.out⟩

/-- A slice of names. -/
def NmAt (w : World) (v : Value) (bs : List Bool) : Prop := ∃ a c, v = .slice a bs.length c ∧ (bs = [] ∨ ∃ g, a = some ⟨g, 0, none⟩ ∧ ∀ j, j < bs.length → w.cell? ⟨g, j, none⟩ = some (nkv bs[j]!))
def nrow (bs : List Bool) : List Value := bs.map nkv

/-- sort.Strings of at most two names. -/
theorem sort_names (base : Nat) (v : Value) (bs : List Bool) (w : World) (hl : bs.length ≤ 2) (h : w.ownsRow base 9 1 v bs.length (nrow bs)) :
    Calls Tryz.prog 260 #[v] w fun e w' => e = .returned (.tuple #[]) ∧ ∃ bs', bs'.Perm bs ∧ NmAt w' v bs' ∧ Keep (fun x => v.ownBlock = some x) w w' := by
  obtain ⟨a, c, hv⟩ := own_sliceE h
  by_cases h0 : bs.length = 0
  · have hb : bs = [] := List.length_eq_zero_iff.1 h0
    subst hb
    refine (sort_of v a 0 c hv (by omega) (fun w' => w' = w) w (by subst hv; exact insertion_short a 0 c 0 (Or.inl rfl) w)).mono ?_
    rintro e w' ⟨rfl, rfl⟩
    exact ⟨rfl, [], List.Perm.refl _, ⟨a, c, hv, Or.inl rfl⟩, Keep.refl _ _⟩
  · obtain ⟨g, cap, cur, hv', hg, hpt⟩ : ∃ g cap cur, v = .slice (some ⟨g, 0, none⟩) bs.length cap ∧ w.heap[g]? = some (.cells cur 9 (0, 0)) ∧ cur.toList.take bs.length = nrow bs := by
      rcases h.2 with ⟨_, h⟩ | ⟨g', cap', cur, h, _, hh, _, _, _, h2⟩
      · omega
      · exact ⟨g', cap', cur, h, hh, by simpa using h2⟩
    have hcc : ∀ j, j < bs.length → w.cell? ⟨g, j, none⟩ = some (nkv bs[j]!) := fun j hj => by
      rw [cellB hg j, ← Array.getElem?_toList, ← List.getElem?_take_of_lt hj, hpt]
      unfold nrow
      rw [List.getElem?_map, List.getElem!_eq_getElem?_getD, List.getElem?_eq_getElem hj]
      rfl
    match bs, h0, hl, hv', hcc, hpt with
    | [x], _, _, hv', hcc, _ =>
      refine (sort_of v (some ⟨g, 0, none⟩) 1 cap hv' (by omega) (fun w' => w' = w) w (by rw [hv']; exact insertion_short (some ⟨g, 0, none⟩) 1 cap 1 (Or.inr rfl) w)).mono ?_
      rintro e w' ⟨rfl, rfl⟩
      exact ⟨rfl, [x], List.Perm.refl _, ⟨_, cap, hv', Or.inr ⟨g, rfl, hcc⟩⟩, Keep.refl _ _⟩
    | [x, y], _, _, hv', hcc, hpt =>
      have fr := frozenB hg
      have e : v.ownBlock = some g := by rw [hv']; rfl
      refine (sort_of v (some ⟨g, 0, none⟩) 2 cap hv' (by omega) _ w (by rw [hv']; exact insertion_two g cap x y w (hcc 0 (by simp)) (hcc 1 (by simp)) (fr 0) (fr 1))).mono ?_
      rintro e w' ⟨rfl, hc, hk⟩
      have hk' : Keep (fun x => v.ownBlock = some x) w w' := hk.mono (fun x h _ => by rw [h]; assumption)
      rcases hc with ⟨k0, k1⟩ | ⟨k0, k1⟩
      · refine ⟨rfl, [x, y], List.Perm.refl _, ⟨_, cap, hv', Or.inr ⟨g, rfl, fun j hj => ?_⟩⟩, hk'⟩
        match j, hj with
        | 0, _ => exact k0
        | 1, _ => exact k1
      · refine ⟨rfl, [y, x], List.Perm.swap _ _ _, ⟨_, cap, hv', Or.inr ⟨g, rfl, fun j hj => ?_⟩⟩, hk'⟩
        match j, hj with
        | 0, _ => exact k0
        | 1, _ => exact k1
end Go.Proofs.YtnlgndpcddngoaaGreatDoor

namespace Go.Proofs.YtnlgndpcddngoaaGreatDoor
open Go.RowKit Go.Maps
variable [dK] [iK]

theorem same_nkl (a b : Bool) : (nkl a).sameKey (nkl b) = (a == b) := by cases a <;> cases b <;> rfl
theorem Tryz.infoStr : (Tryz.prog.info? 9).map (fun i => (i.zero, i.size, i.bytes)) = some (some (.string ⟨#[]⟩), 1, 16) := by kernel_rfl
theorem undN : Tryz.prog.underlying 85 = some (.map 9 95) := Tryz.underlying85
theorem bools_len : ∀ (l : List Bool), l.Nodup → l.length ≤ 2
  | [], _ => by simp
  | [_], _ => by simp
  | [_, _], _ => by simp
  | a :: b :: c :: r, h => by cases a <;> cases b <;> cases c <;> simp at h

set_option maxRecDepth 100000 in
set_option maxHeartbeats 2000000 in
/-- The disk's names. -/
theorem names255 (db nb : Nat) (c0 c2 c3 c4 : Value) (fs : Fs) (w : World) (hd : w.heap[db]? = some (.cells #[c0, .map (some nb), c2, c3, c4, .bool false] 88)) (hD : DirAt w nb fs) :
    Calls Tryz.prog 255 #[.pointer (some ⟨db, 0, none⟩)] w fun e w' => ∃ v bs, e = .returned (.tuple #[v, .nilIface]) ∧ (∀ b, b ∈ bs ↔ (fndG b fs).isSome = true) ∧ bs.length ≤ 2 ∧ NmAt w' v bs ∧ Below w.heap.size w w' := by
  obtain ⟨i0, hi, hz0, hz1, hz2⟩ := info_parts Tryz.infoStr
  obtain ⟨n, D0, ho, hDat⟩ := hD.map
  have hsz : Maps.size D0 ≤ 2 := by rw [hDat.size]; exact hD.len
  have hbl := ho.lt
  have a1 := cellB hd
  have HD := hide hDat
  have HSZ := hide hsz
  clear hDat hD hsz
  go_enter Tryz.func255, Tryz.ntmps255
  go_wp2_with (first
    | (at_range; refine wpList_range_own _ rfl _ 85 rfl 9 95 mname.keyed undN _ nb n _ rfl ho ?_; intro w0 hrg0 hg0 hs0)
    | go_in)
  go_frame
  have hb0 : Below w.heap.size w w0 := (Below.refl _ w).grown hg0 (Nat.le_refl _) (fun k e => by cases e)
  have hs0' : w.heap.size + 1 ≤ w0.heap.size := by omega
  have HB0 := hide hb0
  have HR0 := hide hrg0
  have HS0 := hide hs0'
  clear ho hrg0 hg0 hs0 hb0 hs0' a1
  go_loopw [4] (fun v wr => ∃ (left : Lit → Bool) (cnt : Nat) (bs : List Bool), wr.ranges Tryz.prog 9 heldE nb w.heap.size n D0 left cnt ∧ wr.ownsRow (w.heap.size + 1) 9 1 v bs.length (nrow bs) ∧ (∀ b, b ∈ bs ↔ (fndG b fs).isSome = true ∧ left (nkl b) = false) ∧ bs.Nodup ∧ Below w.heap.size w wr ∧ w.heap.size + 1 ≤ wr.heap.size)
    (fun _ wr => wr.rangeLeft nb w.heap.size)
  case atStart =>
    refine ⟨_, _, [], HR0.out, World.ownsRow_nil _ _ _ _, fun b => ?_, List.nodup_nil, HB0.out, HS0.out⟩
    rw [HD.out.has b trivial]
    cases fndG b fs <;> simp
  case round =>
    obtain ⟨left, cnt, bs, hrg, hrow, hmem, hnd, hbel, hwr⟩ := hrel
    obtain ⟨a0, d0, e0⟩ := own_sliceE hrow
    subst e0
    have hnl := bools_len bs hnd
    have HROW := hide hrow
    have HM := hide hmem
    have HND := hide hnd
    have HBEL := hide hbel
    have HWR := hide hwr
    clear hrow hmem hnd hbel hwr
    go_wp2_with (first
      | (at_next; refine wpList_next_G (P := Tryz.prog) (kt := 9) _ mname rfl _ rfl nb w.heap.size n D0 fs HD.out left cnt rfl hrg ?_ ?_)
      | go_in)
    · intro hc0 hl0
      have HL0 := hide hl0
      clear hl0 hc0 hrg
      have HSO := hide (sort_names (w.heap.size + 1) (.slice a0 bs.length d0) bs wr hnl HROW.out)
      go_wp2_with (go_at_call 260; refine HSO.out.mono ?_; rintro e w2 ⟨rfl, bs', hp, hn, hk⟩; have HP := hide hp; have HN := hide hn; have HK := hide hk; clear hp hn hk)
      go_ret2
      refine ⟨_, bs', rfl, fun b => (HP.out.mem_iff).trans ((HM.out b).trans ⟨fun h => h.1, fun h => ⟨h, HL0.out _⟩⟩), by rw [HP.out.length_eq]; exact hnl, HN.out, HBEL.out.trans (HK.out.below HBEL.out.size (fun k hk => ?_))⟩
      have := (own_ltE HROW.out hk).1
      omega
    · refine ⟨?_, ?_⟩
      · intro p1 p2 w1 cnt1 hp hlk hat hrg1 hlt hg1 hs1 hen
        simp only [nkv, evF] at hen ⊢
        have hrow1 : w1.ownsRow (w.heap.size + 1) 9 1 (.slice a0 bs.length d0) bs.length (nrow bs) := own_keptE HROW.out (fun g hg => hg1.block g (own_ltE HROW.out hg).2 (fun e => by
          have h1 := (own_ltE HROW.out hg).1
          injection e with e
          omega))
        have hbel1 : Below w.heap.size w w1 := HBEL.out.grown hg1 HBEL.out.size (fun k e => by cases e; exact Nat.le_refl _)
        have hwr1 : w.heap.size + 1 ≤ w1.heap.size := by have := HWR.out; omega
        have HRG := hide hrg1
        have HRG0 := hide hrg
        have HLT := hide hlt
        have HLK := hide hlk
        have HP := hide hp
        have HB1 := hide hbel1
        have HW1 := hide hwr1
        clear hrg1 hrg hlt hlk hp hbel1 hwr1 hat hg1 hs1
        go_wp2_with (first
          | (at_builtin; refine wpList_append_own_at (w := _) rfl _ _ 279 rfl (w.heap.size + 1) 9 i0 (.string ⟨#[]⟩) 1 16 Tryz.underlying279 hi hz0 hz1 hz2 rfl (by decide) (.slice a0 bs.length d0) bs.length _ rfl (hrow1.alloc _) ⟨w1.heap.size, 0, none⟩ 1 1 [.string (nameB false)] rfl rfl (cell_one_new _ _ _) (by simp [Value.oneCell']) (by unfold maxLen; omega) (by omega) (by have := HW1.out; simp; omega) ?_; intro v2 w2 hown2 hgrow2 _ hat2; obtain ⟨a2, d2, e2⟩ := own_sliceE hown2; subst e2)
          | go_in)
        have hrow0 := HROW.out
        have hne : ∀ x, (Value.slice a0 bs.length d0).ownBlock = some x → w.heap.size + 1 ≤ x := fun x hx => (own_ltE hrow0 hx).1
        have hrg2 := (HRG.out.alloc (.cells #[.string (nameB false)] 9)).kept hgrow2 (fun e => by have := hne nb e.symm; omega) (fun e => by have := hne _ e.symm; omega)
        go_roundw
        case rel =>
          refine ⟨_, cnt1, bs ++ [false], hrg2, ?_, fun b => ?_, ?_, (HB1.out.alloc HB1.out.size _).grown hgrow2 (by have := HB1.out.size; simp; omega) (fun x e => by have := hne x e; omega), by have := hgrow2.size; have h1 := HW1.out; simp at this; omega⟩
          · simpa [nrow, nkv] using hown2
          · rw [same_nkl, List.mem_append, HM.out b, List.mem_singleton]
            by_cases hbk : b = false
            · subst hbk
              simp [HP.out]
            · simp [hbk]
          · refine List.nodup_append.2 ⟨HND.out, by simp, fun x hx y hy => ?_⟩
            rw [List.mem_singleton] at hy
            subst hy
            intro e
            subst e
            have := ((HM.out _).1 hx).2
            rw [HLK.out] at this
            cases this
        case measure => rw [hrg2.left_eq, HRG0.out.left_eq]; exact HLT.out
      · intro p1 p2 w1 cnt1 hp hlk hat hrg1 hlt hg1 hs1 hen
        simp only [nkv, evF] at hen ⊢
        have hrow1 : w1.ownsRow (w.heap.size + 1) 9 1 (.slice a0 bs.length d0) bs.length (nrow bs) := own_keptE HROW.out (fun g hg => hg1.block g (own_ltE HROW.out hg).2 (fun e => by
          have h1 := (own_ltE HROW.out hg).1
          injection e with e
          omega))
        have hbel1 : Below w.heap.size w w1 := HBEL.out.grown hg1 HBEL.out.size (fun k e => by cases e; exact Nat.le_refl _)
        have hwr1 : w.heap.size + 1 ≤ w1.heap.size := by have := HWR.out; omega
        have HRG := hide hrg1
        have HRG0 := hide hrg
        have HLT := hide hlt
        have HLK := hide hlk
        have HP := hide hp
        have HB1 := hide hbel1
        have HW1 := hide hwr1
        clear hrg1 hrg hlt hlk hp hbel1 hwr1 hat hg1 hs1
        go_wp2_with (first
          | (at_builtin; refine wpList_append_own_at (w := _) rfl _ _ 279 rfl (w.heap.size + 1) 9 i0 (.string ⟨#[]⟩) 1 16 Tryz.underlying279 hi hz0 hz1 hz2 rfl (by decide) (.slice a0 bs.length d0) bs.length _ rfl (hrow1.alloc _) ⟨w1.heap.size, 0, none⟩ 1 1 [.string (nameB true)] rfl rfl (cell_one_new _ _ _) (by simp [Value.oneCell']) (by unfold maxLen; omega) (by omega) (by have := HW1.out; simp; omega) ?_; intro v2 w2 hown2 hgrow2 _ hat2; obtain ⟨a2, d2, e2⟩ := own_sliceE hown2; subst e2)
          | go_in)
        have hrow0 := HROW.out
        have hne : ∀ x, (Value.slice a0 bs.length d0).ownBlock = some x → w.heap.size + 1 ≤ x := fun x hx => (own_ltE hrow0 hx).1
        have hrg2 := (HRG.out.alloc (.cells #[.string (nameB true)] 9)).kept hgrow2 (fun e => by have := hne nb e.symm; omega) (fun e => by have := hne _ e.symm; omega)
        go_roundw
        case rel =>
          refine ⟨_, cnt1, bs ++ [true], hrg2, ?_, fun b => ?_, ?_, (HB1.out.alloc HB1.out.size _).grown hgrow2 (by have := HB1.out.size; simp; omega) (fun x e => by have := hne x e; omega), by have := hgrow2.size; have h1 := HW1.out; simp at this; omega⟩
          · simpa [nrow, nkv] using hown2
          · rw [same_nkl, List.mem_append, HM.out b, List.mem_singleton]
            by_cases hbk : b = true
            · subst hbk
              simp [HP.out]
            · simp [hbk]
          · refine List.nodup_append.2 ⟨HND.out, by simp, fun x hx y hy => ?_⟩
            rw [List.mem_singleton] at hy
            subst hy
            intro e
            subst e
            have := ((HM.out _).1 hx).2
            rw [HLK.out] at this
            cases this
        case measure => rw [hrg2.left_eq, HRG0.out.left_eq]; exact HLT.out

namespace Con
def ren : Go.Shelf.Ren := ⟨fun n => if n = 29 then 167 else 146, fun n => if n = 0 then 0 else if n = 3 then 3 else if n = 4 then 4 else if n = 22 then 279 else 9, fun n => n⟩
theorem lays : SlLaysE.n31 Tryz.prog ren where
  mixed := by first | exact Tryz.mixed | kernel_rfl | decide
  f29 := ⟨Tryz.f167.name, by kernel_rfl, by kernel_rfl⟩
  f31 := ⟨Tryz.f146.name, by kernel_rfl, by kernel_rfl⟩
  t0 := by first | exact Tryz.underlying0 | kernel_rfl
  a0 := by first | exact Tryz.isAgg0 | (intro w; kernel_rfl)
  z0 := by first | exact Tryz.sizeOf0 | (intro w; kernel_rfl)
  v0 := by first | exact Tryz.zeroValue0 | (intro w; kernel_rfl)
  t3 := by first | exact Tryz.underlying3 | kernel_rfl
  a3 := by first | exact Tryz.isAgg3 | (intro w; kernel_rfl)
  z3 := by first | exact Tryz.sizeOf3 | (intro w; kernel_rfl)
  v3 := by first | exact Tryz.zeroValue3 | (intro w; kernel_rfl)
  t4 := by first | exact Tryz.underlying4 | kernel_rfl
  a4 := by first | exact Tryz.isAgg4 | (intro w; kernel_rfl)
  z4 := by first | exact Tryz.sizeOf4 | (intro w; kernel_rfl)
  v4 := by first | exact Tryz.zeroValue4 | (intro w; kernel_rfl)
  t22 := by first | exact Tryz.underlying279 | kernel_rfl
  a22 := by first | exact Tryz.isAgg279 | (intro w; kernel_rfl)
  z22 := by first | exact Tryz.sizeOf279 | (intro w; kernel_rfl)
  v22 := by first | exact Tryz.zeroValue279 | (intro w; kernel_rfl)
  a23 := by first | exact Tryz.isAgg9 | (intro w; kernel_rfl)
  z23 := by first | exact Tryz.sizeOf9 | (intro w; kernel_rfl)
theorem eql : EqlAt Tryz.prog 9 nkv (fun x y : Bool => x == y) := by
  have h := EqlAt.string Tryz.prog 9
  refine ⟨fun x y w => ?_, fun op a b x y w => h.2 op a b (nameB x) (nameB y) w⟩
  have := h.1 (nameB x) (nameB y) w
  refine this.trans ?_
  cases x <;> cases y <;> kernel_rfl
end Con

/-- slices.Contains of names. -/
theorem contains146 (v : Value) (bs : List Bool) (x : Bool) (w : World) (h : NmAt w v bs) (hl : bs.length ≤ 2) :
    Calls Tryz.prog 146 #[v, .string (nameB x)] w fun e w' => e = .returned (.bool (bs.any fun y => x == y)) ∧ w' = w := by
  obtain ⟨a, c, rfl, h⟩ := h
  rcases h with rfl | ⟨g, rfl, hc⟩
  · exact AnyE.slices_Contains_empty (P := Tryz.prog) (ρ := Con.ren) Con.lays a c (.string (nameB x)) w
  · have := AnyE.slices_Contains (P := Tryz.prog) (ρ := Con.ren) Con.lays nkv (fun x y : Bool => x == y) Con.eql g 0 bs.length c bs x w (Nat.le_refl _) (by omega) (fun j hj => by rw [Nat.zero_add]; exact hc j hj)
    rw [List.take_length] at this
    exact this

theorem methodNames (h : Value) (w : World) : (Go.method 510 78 h "Names").run Tryz.prog w = .ok (255, h) w := by kernel_rfl
end Go.Proofs.YtnlgndpcddngoaaGreatDoor

namespace Go.Proofs.YtnlgndpcddngoaaGreatDoor
open Go.RowKit
variable [dK] [iK]

def ptrs (cb : Nat → Nat) (m : Nat) : List Value := (List.range m).map fun i => .pointer (some ⟨cb i, 0, none⟩)
theorem Sl.of_bytes (w2 : World) (S : ByteArray) (c : Nat) (hc : S.size ≤ c) : Sl ((w2.alloc (.cells (bytesRow S c) 5 ((bytesRow S c).size, (bytesRow S c).size + 1))).drew) (.slice (some ⟨w2.heap.size, 0, none⟩) S.size c) (numsOf S) := by
  have hl := numsOf_length S
  by_cases h0 : S.size = 0
  · exact .inl ⟨List.eq_nil_of_length_eq_zero (by omega), .inr ⟨w2.heap.size, 0, c, by rw [h0]⟩⟩
  · refine .inr ⟨by omega, w2.heap.size, 0, c, by rw [hl], by omega, by simp, ?_⟩
    intro j hj
    show (w2.alloc _).cell? ⟨w2.heap.size, 0 + j, none⟩ = _
    rw [Nat.zero_add, World.cell?_alloc_mark]
    have hjs : j < S.data.size := by simpa [hl] using hj
    unfold bytesRow numsOf
    rw [Array.getElem?_append_left (by simpa using hjs)]
    simp only [List.getD, Array.getElem?_map, List.getElem?_map, Array.getElem?_toList, Array.getElem?_eq_getElem hjs, Option.map_some, Option.getD_some]
theorem bytesRow_size (S : ByteArray) (c : Nat) : S.size ≤ (bytesRow S c).size := by
  unfold bytesRow
  rw [Array.size_append]
  simp

/-- Bytes that are written into, the rest kept. -/
structure Wb (w3 wr : World) (b n : Nat) : Prop where
  os : wr.os = w3.os
  tape : wr.tape = w3.tape
  output : wr.output = w3.output
  size : wr.heap.size = w3.heap.size
  blk : ∀ k, k ≠ b → wr.heap[k]? = w3.heap[k]?
  cur : ∃ cur fz, wr.heap[b]? = some (.cells cur 5 (fz, fz + 1)) ∧ n ≤ cur.size ∧ n ≤ fz
theorem Wb.step {w3 wr : World} {b n : Nat} (h : Wb w3 wr b n) (j : Nat) (u : Value) : Wb w3 (wr.setCell ⟨b, j, none⟩ u) b n := by
  obtain ⟨cur, fz, h1, h2, h3⟩ := h.cur
  exact ⟨h.os, h.tape, h.output, by rw [World.size_setCell]; exact h.size, fun k hk => (heapSetO hk _ _).trans (h.blk k hk), _, fz, heapSet h1 j u, by simpa using h2, h3⟩
theorem Wb.cell {w3 wr : World} {b n : Nat} (h : Wb w3 wr b n) (j : Nat) (hj : j < n) : (∃ u, wr.cell? ⟨b, j, none⟩ = some u) ∧ wr.frozen? ⟨b, j, none⟩ = false := by
  obtain ⟨cur, fz, h1, h2, h3⟩ := h.cur
  refine ⟨⟨cur[j]'(by omega), by rw [cellB h1]; simp⟩, ?_⟩
  simp [World.frozen?, h1]
  omega
def pickM (c n : Int) : Int := (if c < 0 then -(c + 1) else c) % n
theorem pickM_ok (c n : Int) (hn : 0 < n) : 0 ≤ pickM c n ∧ pickM c n < n := by
  unfold pickM
  exact ⟨Int.emod_nonneg _ (by omega), Int.emod_lt_of_pos _ hn⟩
end Go.Proofs.YtnlgndpcddngoaaGreatDoor

namespace Go.Proofs.YtnlgndpcddngoaaGreatDoor
open Go.RowKit
variable [dK] [iK]

abbrev rqc (q : Rq) : Array Value := #[.int .u8 q.op, .int .u8 q.k0, .int .u8 q.k1, .int .u8 q.k2, .int .u8 q.k3, .int .u8 q.k4, .int .u8 q.k5, .int .u8 q.k6, .int .u8 q.k7, .int .u8 q.kd, .int .u64 q.x, .int .u64 q.y, .int .u64 q.n]
def sliceLen : Value → Nat
  | .slice _ n _ => n
  | _ => 0

theorem encs_length (rs : List Rp) : (encs rs).length = 18 * rs.length := by
  unfold encs
  induction rs with
  | nil => rfl
  | cons r t ih => rw [List.flatMap_cons, List.length_append, ih]; simp [encRep, be8]; omega
theorem encs_snoc (rs : List Rp) (r : Rp) : encs (rs ++ [r]) = encs rs ++ encRep r.c r.a r.b := by simp [encs]

theorem own_kept {w w' : World} {base : Nat} {v : Value} {n : Nat} {xs : List Value} (h : w.ownsRow base 5 1 v n xs) (hb : ∀ g, v.ownBlock = some g → w'.heap[g]? = w.heap[g]?) : w'.ownsRow base 5 1 v n xs := by
  obtain ⟨h1, h2⟩ := h
  refine ⟨h1, ?_⟩
  rcases h2 with h2 | ⟨g, cap, cur, hv, hg, hh, r⟩
  · exact Or.inl h2
  · exact Or.inr ⟨g, cap, cur, hv, hg, (hb g (by rw [hv]; rfl)).trans hh, r⟩
theorem own_slice {w : World} {base : Nat} {v : Value} {n : Nat} {xs : List Value} (h : w.ownsRow base 5 1 v n xs) : ∃ a c, v = .slice a n c := by
  rcases h.2 with ⟨rfl, rfl⟩ | ⟨g, cap, cur, hv, _⟩
  · exact ⟨_, _, rfl⟩
  · exact ⟨_, _, hv⟩
theorem heapSet13 {w : World} {b : Nat} {c0 c1 c2 c3 c4 c5 c6 c7 c8 c9 c10 c11 c12 : Value} {t : TypeId} {fr : Nat × Nat} (h : w.heap[b]? = some (.cells #[c0, c1, c2, c3, c4, c5, c6, c7, c8, c9, c10, c11, c12] t fr)) (v0 v1 v2 v3 v4 v5 v6 v7 v8 v9 v10 v11 v12 : Value) :
    (((((((((((((w.setCell ⟨b, 0, none⟩ v0).setCell ⟨b, 1, none⟩ v1).setCell ⟨b, 2, none⟩ v2).setCell ⟨b, 3, none⟩ v3).setCell ⟨b, 4, none⟩ v4).setCell ⟨b, 5, none⟩ v5).setCell ⟨b, 6, none⟩ v6).setCell ⟨b, 7, none⟩ v7).setCell ⟨b, 8, none⟩ v8).setCell ⟨b, 9, none⟩ v9).setCell ⟨b, 10, none⟩ v10).setCell ⟨b, 11, none⟩ v11).setCell ⟨b, 12, none⟩ v12).heap[b]? = some (.cells #[v0, v1, v2, v3, v4, v5, v6, v7, v8, v9, v10, v11, v12] t fr) := by
  simpa using (heapSet (heapSet (heapSet (heapSet (heapSet (heapSet (heapSet (heapSet (heapSet (heapSet (heapSet (heapSet (heapSet h 0 v0) 1 v1) 2 v2) 3 v3) 4 v4) 5 v5) 6 v6) 7 v7) 8 v8) 9 v9) 10 v10) 11 v11) 12 v12)

/-- append in a region that draws. -/
theorem step_append_src {ops : Array Oper} {o : Oper} {a : Act} {w : World} {K : Act → World → Prop} {Q : Exit → Act → World → Prop} {E : Prop} (hg : o.guard = none) (s x : Operand)
    (hop : o.op = .call { callee := .builtin .append, args := #[s, x], argTypes := #[76, 76] }) (base : Nat) (v : Value) (n : Nat) (b0 : List Int) (hs : a.eval s = v) (hown : w.ownsRow base 5 1 v n (b0.map (Value.int .u8)))
    (ad : Addr) (m c : Nat) (bs : List Int) (hx : a.eval x = .slice (some ad) m c) (hm : bs.length = m) (hc : ∀ j u, (bs.map (Value.int .u8))[j]? = some u → w.cell? (ad.add j) = some u) (hb : n + m ≤ 4194304) (hbase : base ≤ w.heap.size)
    (hK : ∀ v' w', w'.ownsRow base 5 1 v' (n + m) ((b0 ++ bs).map (Value.int .u8)) → w.grownBy w' v.ownBlock → (v'.ownBlock = v.ownBlock ∨ v'.ownBlock = some w.heap.size) → K (a.put o.dst v') w') :
    if Region.wanted o (yielded ops a.tmps) = true then Oper.wp Tryz.prog o a w K Q else E := by
  have hw : Region.wanted o (yielded ops a.tmps) = true := by simp [Region.wanted, hg]
  rw [if_pos hw]
  obtain ⟨i0, hi, hz0, hz1, hz2⟩ := info_parts Tryz.info5
  obtain ⟨v', w', hr, h2, h3, h4, h5⟩ := run_append_own_at (P := Tryz.prog) (w := w) base 76 o.type 5 i0 (.int .u8 0) 1 1 Tryz.underlying76 hi hz0 hz1 hz2 rfl (by decide) v n _ hown ad m c (bs.map (Value.int .u8)) (by simpa using hm) hc (ints_oneCell _ _) (by unfold maxLen; omega) (by omega) hbase
  unfold Oper.wp execOp
  simp only [hop, resolve, invoke, builtin, Sem.run_bind, Sem.run_pure, Result.andThen_ok, List.map_toArray, List.map_cons, List.map_nil, hs, hx, hr]
  exact hK v' w' (by rw [List.map_append]; exact h2) h3 h5
/-- append of bytes, and where the new slice lies. -/
theorem wpList_append_srcA {ops : Array Oper} {rest : List Oper} {o : Oper} {a : Act} {Q : Exit → Act → World → Prop} {w : World} (hgd : o.guard = none) (s x : Operand)
    (ho : o.op = .call { callee := .builtin .append, args := #[s, x], argTypes := #[76, 76] }) (base : Nat) (v : Value) (n : Nat) (b0 : List Int) (hs : a.eval s = v) (hown : w.ownsRow base 5 1 v n (b0.map (Value.int .u8)))
    (vx : Value) (bs : List Int) (hx : a.eval x = vx) (hsrc : Src w vx bs) (hb : n + bs.length ≤ 4194304) (hbase : base ≤ w.heap.size)
    (h : ∀ v' w', w'.ownsRow base 5 1 v' (n + bs.length) ((b0 ++ bs).map (Value.int .u8)) → w.grownBy w' v.ownBlock → (v'.ownBlock = v.ownBlock ∨ v'.ownBlock = some w.heap.size) → wpList Tryz.prog ops Q rest (a.put o.dst v') w') : wpList Tryz.prog ops Q (o :: rest) a w := by
  obtain ⟨i0, hi, hz0, hz1, hz2⟩ := info_parts Tryz.info5
  have main : ∀ (ad : Addr) (m c : Nat), vx = .slice (some ad) m c → bs.length = m → (∀ j u, (bs.map (Value.int .u8))[j]? = some u → w.cell? (ad.add j) = some u) → wpList Tryz.prog ops Q (o :: rest) a w := by
    intro ad m c e1 e2 e3
    subst e1
    refine wpList_append_own_at (w := w) hgd s x 76 ho base 5 i0 (.int .u8 0) 1 1 Tryz.underlying76 hi hz0 hz1 hz2 rfl (by decide) v n _ hs hown ad m c (bs.map (Value.int .u8)) hx (by simpa using e2) e3 (ints_oneCell _ _) (by unfold maxLen; omega) (by omega) hbase ?_
    intro v' w' h1 h2 _ h4
    refine h v' w' ?_ h2 h4
    rw [e2, List.map_append]
    exact h1
  rcases hsrc with ⟨rfl, rfl | ⟨sg, so, cap, rfl⟩⟩ | ⟨_, sg, so, cap, e, _, hc⟩
  · refine wpList_append_own_none hgd s x 76 ho base 5 i0 1 Tryz.underlying76 hi v n _ hs hown hx ?_
    refine h v w ?_ (World.grownBy.refl w _) (Or.inl rfl)
    simpa using hown
  · exact main ⟨sg, so, none⟩ 0 cap rfl rfl (fun j u hj => by simp at hj)
  · exact main ⟨sg, so, none⟩ bs.length cap e rfl (fun j u hj => by rw [Addr.add_lit]; exact hc j u hj)
end Go.Proofs.YtnlgndpcddngoaaGreatDoor

namespace Go.Proofs.YtnlgndpcddngoaaGreatDoor
open Go.RowKit Go.Maps
variable [dK] [iK]

set_option maxRecDepth 100000 in
set_option maxHeartbeats 2000000 in
/-- What was told is made durable. -/
theorem sync258d (db mb base : Nat) (m1 pv : Value) (fs : Fs) (b : Bool) (s : ByteArray) (l f : Int) (w : World) (hd : w.heap[db]? = some (.cells #[.map (some mb), m1, pv, .int .i64 l, .int .i64 f, .bool false] 88)) (hD : DirAt w mb fs) (hl : -9223372036854775808 < l ∧ l < 0) (hf : -9223372036854775808 < f ∧ f < 0)
    (hown : w.ownsRow base 146 3 pv 1 [.int .i64 3, .string (nameB b), .string s]) :
    Calls Tryz.prog 258 #[.pointer (some ⟨db, 0, none⟩)] w fun e w' => e = .returned .nilIface ∧ ∃ g, w'.heap[db]? = some (.cells #[.map (some mb), m1, .slice none 0 0, .int .i64 (l - 1), .int .i64 (f - 1), .bool false] 88) ∧ w.heap.size ≤ g ∧ DirAt w' mb (delG b fs) ∧ Keep (fun c => c = db ∨ c = mb) w w' := by
  obtain ⟨gp, cap, cur, rfl, hpd, hpl, hpc, hpt⟩ : ∃ gp cap cur, pv = .slice (some ⟨gp, 0, none⟩) 1 cap ∧ gp ≠ db ∧ gp < w.heap.size ∧ w.heap[gp]? = some (.cells cur 146 (0, 0)) ∧ cur.toList.take 3 = [.int .i64 3, .string (nameB b), .string s] := by
    rcases hown.2 with ⟨_, h⟩ | ⟨g', cap', cur, h, _, hh, _, _, _, h2⟩
    · omega
    · subst h
      exact ⟨g', cap', cur, rfl, own_neE hown rfl hd (by decide), ltB hh, hh, by simpa using h2⟩
  have hmd : mb ≠ db := hD.map.ne hd
  have hmg : mb ≠ gp := hD.map.ne hpc
  have hcc : ∀ j, j < 3 → cur[j]? = ([.int .i64 3, .string (nameB b), .string s] : List Value)[j]? := fun j hj => by
    rw [← hpt, List.getElem?_take, if_pos hj, Array.getElem?_toList]
  have HNP : ∀ p ∈ fs, ¬ p.2.1 = db := fun p hp e => by have := hD.str p hp; rw [e, hd] at this; simp at this
  have HD := hide hD
  have HP := hide HNP
  have HPC := hide hpc
  have HCC := hide hcc
  clear hown hD HNP hpc hcc hpt
  go_enter Tryz.func258, Tryz.ntmps258
  go_wp2_with fail
  refine (writes262 db _ _ _ l f w hd hl hf).mono ?_
  rintro e w1 ⟨rfl, hd1, hk1⟩
  have hp1 := (hk1.block gp hpl hpd).trans HPC.out
  have hD1 : DirAt w1 mb fs := HD.out.keep hk1 hmd HP.out
  have k0 : w1.cell? ⟨gp, 0, none⟩ = some (.int .i64 3) := (cellB hp1 0).trans (HCC.out 0 (by omega))
  have k1 : w1.cell? ⟨gp, 1, none⟩ = some (.string (nameB b)) := (cellB hp1 1).trans (HCC.out 1 (by omega))
  have k2 : w1.cell? ⟨gp, 2, none⟩ = some (.string s) := (cellB hp1 2).trans (HCC.out 2 (by omega))
  have a1 := cellB hd1
  have HD1 := hide hD1
  have HK1 := hide hk1
  clear hD1 hk1
  go_wp2_with fail
  refine wp_loop_rounds 2 ?_
  rw [rounds_succ]
  obtain ⟨V, hV⟩ : ∃ V, V = w1.alloc (.cells #[.int .i64 3, .string (nameB b), .string s] 146) := ⟨_, rfl⟩
  obtain ⟨O, hO⟩ : ∃ O, O = w1.heap.size := ⟨_, rfl⟩
  have h0 : V.heap[O]? = some (.cells #[.int .i64 3, .string (nameB b), .string s] 146) := by rw [hO, hV]; exact heapNew _ _
  have hdV : V.heap[db]? = _ := hV ▸ upB hd1 _
  have hDV : DirAt V.drew mb fs := HD1.out.kept (hV ▸ heapOld _ _ HD1.out.map.lt) (fun p hp => hV ▸ heapOld _ _ (ltB (HD1.out.str p hp)))
  have hKV : Keep (fun _ => False) w1 V := hV ▸ (Keep.refl _ w1).alloc _
  have HDV := hide hDV
  have HKV := hide hKV
  have HO := hide hO
  clear hDV hKV
  go_upto_region 7 with fail
  rw [← hV, ← hO]
  clear hV hO k0 k1 k2 a1
  have b1 := cellB hdV
  have b2 := cellB h0
  go_region_law (refine step_fn (by rfl) 59 callDo _ _ (by rfl) #[.map (some mb), .agg #[.int .i64 3, .string (nameB b), .string s]] (by simp only [List.map_toArray, List.map_cons, List.map_nil]; rfl) (do59d mb fs b s _ HDV.out) ?_; rintro e w2 ⟨rfl, hD2, hk2⟩; refine ⟨_, rfl, ?_⟩; have HD2 := hide hD2; have HK2 := hide hk2; clear hD2 hk2)
  all_goals (
    have hg3 : Hid (w1.heap.size ≤ V.heap.size + 1) := hide (Nat.le_trans HKV.out.size (Nat.le_succ _))
    have HK3 : Hid (Keep (fun c => c = mb) w1 w2) := hide ((HKV.out.mono (fun _ h _ => h.elim)).then (b := V) ⟨HK2.out.os, HK2.out.tape, HK2.out.output, HK2.out.size, HK2.out.block⟩ (fun i _ h => h))
    have hd3 := (HK3.out.block db (ltB hd1) (fun e => hmd e.symm)).trans hd1
    have c1 := cellB hd3
    have c2 := frozenB hd3
    clear b1 b2 HK2
    go_wp2
    rw [rounds_succ]
    go_wp2
    go_ret
    have hs1 := HK1.out.size
    refine ⟨rfl, V.heap.size + 1, by simpa using heapSet hd3 2 (.slice none 0 0), ?_, HD2.out.kept (heapSetO hmd _ _) (fun p hp => heapSetO (fun e => by have := HD2.out.str p hp; rw [e, hd3] at this; simp at this) _ _), ?_⟩
    · have := hg3.out
      show w.heap.size ≤ V.heap.size + 1
      omega
    · refine Keep.set ?_ (Or.inl (Or.inl rfl)) _ _
      exact (HK1.out.mono (fun k h _ => Or.inl h)).then HK3.out (fun i _ h => Or.inr h))

end Go.Proofs.YtnlgndpcddngoaaGreatDoor

namespace Go.Proofs.YtnlgndpcddngoaaGreatDoor
open Go.RowKit Go.Maps
variable [dK] [iK]

set_option maxRecDepth 100000 in
set_option maxHeartbeats 4000000 in
theorem tell261d (db nb : Nat) (m0 : Value) (fs : Fs) (b : Bool) (s : ByteArray) (l f : Int) (w : World) (hd : w.heap[db]? = some (.cells #[m0, .map (some nb), .slice none 0 0, .int .i64 l, .int .i64 f, .bool false] 88)) (hD : DirAt w nb fs) (hl : -9223372036854775808 < l ∧ l < 0) (hf : -9223372036854775808 < f ∧ f < 0) (hin : (fndG b fs).isSome = true) :
    Calls Tryz.prog 261 #[.pointer (some ⟨db, 0, none⟩), .agg #[.int .i64 3, .string (nameB b), .string s]] w fun e w' => e = .returned .nilIface ∧ ∃ pv, w'.heap[db]? = some (.cells #[m0, .map (some nb), pv, .int .i64 (l - 1), .int .i64 (f - 1), .bool false] 88) ∧ DirAt w' nb (delG b fs) ∧ w'.ownsRow w.heap.size 146 3 pv 1 [.int .i64 3, .string (nameB b), .string s] ∧ Keep (fun c => c = db ∨ c = nb) w w' := by
  obtain ⟨i0, hi, hz0, hz1, hz2⟩ := info_parts Tryz.infoOp
  have hnd : nb ≠ db := hD.map.ne hd
  obtain ⟨V, hV⟩ : ∃ V, V = w.alloc (.cells #[.int .i64 3, .string (nameB b), .string s] 146) := ⟨_, rfl⟩
  obtain ⟨O, hO⟩ : ∃ O, O = w.heap.size := ⟨_, rfl⟩
  have h0 : V.heap[O]? = some (.cells #[.int .i64 3, .string (nameB b), .string s] 146) := by rw [hO, hV]; exact heapNew _ _
  have hdV : V.heap[db]? = _ := hV ▸ upB hd _
  have hDV : DirAt V nb fs := hD.kept (hV ▸ heapOld _ _ hD.map.lt) (fun p hp => hV ▸ heapOld _ _ (ltB (hD.str p hp)))
  have hKV : Keep (fun c => c = db ∨ c = nb) w V := hV ▸ (Keep.refl _ w).alloc _
  have hOd : O ≠ db := by have := ltB hd; omega
  have hOn : O ≠ nb := by have := hD.map.lt; omega
  have hsV : V.heap.size = O + 1 := by rw [hV, hO]; simp
  have HNP : ∀ p ∈ fs, ¬ p.2.1 = db := fun p hp e => by have := hD.str p hp; rw [e, hd] at this; simp at this
  have HD := hide hDV
  have HK := hide hKV
  have HS := hide hsV
  have HO := hide hO
  have HP := hide HNP
  clear hD hDV hKV hsV hd HNP
  go_enter Tryz.func261, Tryz.ntmps261
  go_upto_region 1 with fail
  rw [← hV, ← hO]
  clear hV hO
  go_wp2_with fail
  refine (writes262 db _ _ _ l f V hdV hl hf).mono ?_
  rintro e w1 ⟨rfl, hd1, hk1⟩
  have h1 := (hk1.block O (ltB h0) hOd).trans h0
  have hD1 : DirAt w1 nb fs := HD.out.keep hk1 hnd HP.out
  have HD1 := hide hD1
  have HK1 := hide hk1
  clear hk1 hD1
  go_upto_region 6 with fail
  obtain ⟨pv0, hpv0⟩ : ∃ pv0, pv0 = lookG evF (.pointer none) (fndG b fs) := ⟨_, rfl⟩
  have hpp : ∃ x, pv0 = .pointer x := by
    rw [hpv0]
    cases fndG b fs with
    | none => exact ⟨_, rfl⟩
    | some p => exact ⟨_, rfl⟩
  obtain ⟨px, hpx⟩ := hpp
  obtain ⟨ok, hok, hokt⟩ : ∃ ok, ok = (fndG b fs).isSome ∧ ok = true := ⟨_, rfl, hin⟩
  have HOK := hide hokt
  clear hokt hin
  have hlk : (Instr.lookup 85 (.map (some nb)) (.string (nameB b)) true).run Tryz.prog w1.drew = .ok (.tuple #[.pointer px, .bool ok]) w1.drew := by
    have := MapG.look mname (w := w1.drew) (HD1.out.map.kept rfl) (k := b) trivial Tryz.underlying85 (zeroP _)
    rw [← hpv0, ← hok, hpx] at this
    exact this
  clear hpv0 hpx hok
  have a1 := cellB hd1
  have a2 := cellB h1
  go_cut [6, 7] (fun s6 s7 wx => s6 = .pointer px ∧ s7 = .bool ok ∧ wx = w1.drew)
  case first =>
    go_region
    all_goals (go_wp2_with fail; go_meet)
    all_goals exact ⟨rfl, rfl, rfl⟩
  case rest =>
    obtain ⟨rfl, rfl, rfl⟩ := hcut
    clear hlk
    have HDD : Hid (DirAt w1.drew.drew nb fs) := hide (HD1.out.kept rfl (fun _ _ => rfl))
    have hokt := HOK.out
    subst hokt
    all_goals (
      go_upto_region 9 with fail
      go_cut [] (fun wx => ∃ (W : World) (g : Nat), W = wx ∧ w1.heap.size ≤ g ∧ DirAt W nb (delG b fs) ∧ Keep (fun c => c = nb) w1 W)
      case first =>
        go_region_law (refine step_fn (by rfl) 59 callDo _ _ (by rfl) #[.map (some nb), .agg #[.int .i64 3, .string (nameB b), .string s]] (by simp only [List.map_toArray, List.map_cons, List.map_nil]; rfl) (do59d nb fs b s _ HDD.out) ?_; rintro e w2 ⟨rfl, hD2, hk2⟩; refine ⟨_, rfl, ?_⟩; have HD2 := hide hD2; have HK2 := hide hk2; clear hD2 hk2)
        all_goals (go_wp2_with fail; go_meet)
        all_goals exact ⟨_, _, rfl, Nat.le_succ _, HD2.out, ⟨HK2.out.os, HK2.out.tape, HK2.out.output, HK2.out.size, HK2.out.block⟩⟩
      case rest =>
        obtain ⟨W, g, rfl, hg, hD3, hk3⟩ := hcut
        have hd3 := (hk3.block db (ltB hd1) (fun e => hnd e.symm)).trans hd1
        have h3 := (hk3.block O (ltB h1) hOn).trans h1
        have hs3 : O + 1 ≤ W.heap.size := by have x1 := HS.out; have x2 := HK1.out.size; have x3 := hk3.size; omega
        have HD3 := hide hD3
        have HK3 := hide hk3
        have HG := hide hg
        have HS3 := hide hs3
        have bu1 := upC hd3 (.cells #[.int .i64 3, .string (nameB b), .string s] 146)
        have b1 := cellB hd3
        have b2 := cellB h3
        have nD : (Value.slice none 0 0).ownBlock ≠ some db := by simp [Value.ownBlock]
        clear a1 a2 hD3 hk3 hg hs3
        go_upto_region 10 with fail
        go_region_law (refine step_append_any (by rfl) _ _ 86 146 i0 (.agg #[.int .i64 0, .string ⟨#[]⟩, .string ⟨#[]⟩]) 3 40 Tryz.underlying86 hi hz0 hz1 hz2 rfl (by decide) (by rfl) O (.slice none 0 0) 0 [] (by rfl) (World.ownsRow_nil _ _ _ _) ⟨W.heap.size, 0, none⟩ 1 1 [.int .i64 3, .string (nameB b), .string s] (by rfl) (by rfl) (cells3_new W _ _ _ _) (by simp [Value.oneCell']) (by omega) (by omega) (by have := HS3.out; simp; omega) ?_; intro v5 w5 hown5 hgrow5 hat5; obtain ⟨a5, c5, e5⟩ := own_sliceE hown5; subst e5; have hd5 := (hgrow5.block db (by have := ltB hd3; simp; omega) (fun e => nD e.symm)).trans ((heapOld _ _ (ltB hd3)).trans hd3); have d1 := cellB hd5; have d2 := frozenB hd5; have HO5 := hide hown5; have HG5 := hide hgrow5; clear hown5 hgrow5 hat5)
        all_goals go_wp2
        all_goals go_ret
        all_goals (
          have hX : ∀ k o, W.heap[k]? = some o → w5.heap[k]? = some o := fun k o h => (HG5.out.block k (by have := ltB h; show k < (W.alloc _).heap.size; simp; omega) (by simp [Value.ownBlock])).trans ((heapOld _ _ (ltB h)).trans h)
          have hK5 : Keep (fun _ => False) W w5 := ⟨HG5.out.os, HG5.out.tape, HG5.out.output, Nat.le_trans (by show W.heap.size ≤ (W.alloc _).heap.size; simp) HG5.out.size, fun k hk _ => (HG5.out.block k (by show k < (W.alloc _).heap.size; simp; omega) (by simp [Value.ownBlock])).trans (heapOld _ _ hk)⟩
          refine ⟨rfl, .slice a5 (0 + 1) c5, by simpa using heapSet hd5 2 (.slice a5 (0 + 1) c5), ?_, ?_, ?_⟩
          · have hD5 : DirAt w5 nb (delG b fs) := HD3.out.keep hK5 (fun h => h) (fun _ _ h => h)
            exact hD5.kept (heapSetO hnd _ _) (fun p hp => heapSetO (fun e => by have := hD5.str p hp; rw [e, hd5] at this; simp at this) _ _)
          · rw [← HO.out]
            exact ownsRow_setCell_other HO5.out (a := ⟨db, 2, none⟩) (fun e => own_neE HO5.out e hd5 (by decide) rfl) _
          · refine Keep.set ?_ (Or.inl (Or.inl rfl)) _ _
            exact ((HK.out.then HK1.out (fun i _ h => Or.inl h)).then HK3.out (fun i _ h => Or.inr h)).then hK5 (fun i _ h => h.elim)))
end Go.Proofs.YtnlgndpcddngoaaGreatDoor

namespace Go.Proofs.YtnlgndpcddngoaaGreatDoor
open Go.RowKit Go.Maps
variable [dK] [iK]

set_option maxRecDepth 100000 in
/-- The disk's Remove of a file that is there. -/
theorem remove257 (db nb : Nat) (m0 : Value) (fs : Fs) (b : Bool) (l f : Int) (w : World) (hd : w.heap[db]? = some (.cells #[m0, .map (some nb), .slice none 0 0, .int .i64 l, .int .i64 f, .bool false] 88)) (hD : DirAt w nb fs) (hl : -9223372036854775808 < l ∧ l < 0) (hf : -9223372036854775808 < f ∧ f < 0) (hin : (fndG b fs).isSome = true) :
    Calls Tryz.prog 257 #[.pointer (some ⟨db, 0, none⟩), .string (nameB b)] w fun e w' => e = .returned .nilIface ∧ ∃ pv, w'.heap[db]? = some (.cells #[m0, .map (some nb), pv, .int .i64 (l - 1), .int .i64 (f - 1), .bool false] 88) ∧ DirAt w' nb (delG b fs) ∧ w'.ownsRow w.heap.size 146 3 pv 1 [.int .i64 3, .string (nameB b), .string ⟨#[]⟩] ∧ Keep (fun c => c = db ∨ c = nb) w w' := by
  have H := hide (tell261d db nb m0 fs b ⟨#[]⟩ l f w hd hD hl hf hin)
  clear hd hD hl hf hin
  go_enter Tryz.func257, Tryz.ntmps257
  go_wp2_with fail
  refine H.out.mono ?_
  rintro e w2 ⟨rfl, HX⟩
  have HX := hide HX
  go_wp2
  go_ret
  exact ⟨rfl, HX.out⟩
end Go.Proofs.YtnlgndpcddngoaaGreatDoor

namespace Go.Proofs.YtnlgndpcddngoaaGreatDoor
open Go.RowKit
variable [dK] [iK]


set_option maxRecDepth 100000 in
theorem pick26 (c n : Int) (w : World) (hn : 0 < n) (hn1 : n ≤ 1000000000) (h0 : -9223372036854775808 ≤ c) (h1 : c ≤ 9223372036854775807) :
    Calls Tryz.prog 30 #[.int .i64 c, .int .i64 n] w fun e w' => e = .returned (.int .i64 (pickM c n)) ∧ w' = w := by
  have hnz : ¬ n = 0 := by omega
  by_cases h : c < 0
  · have e : pickM c n = -((c + 1).tmod n) := by unfold pickM; rw [if_pos h, ← Int.neg_tmod, Int.tmod_eq_emod_of_nonneg (by omega)]
    have k1 : IntKind.i64.wrap (c + 1) = c + 1 := by rw [IntKind.wrap_i64]; omega
    have k2 : IntKind.i64.wrap (-(c + 1)) = -(c + 1) := by rw [IntKind.wrap_i64]; omega
    rw [e]
    clear e
    go_enter Tryz.func30, Tryz.ntmps30
    go_wp2
    go_ret
    exact ⟨rfl, rfl⟩
  · have e : pickM c n = c % n := by unfold pickM; rw [if_neg h]
    rw [e]
    clear e
    go_enter Tryz.func30, Tryz.ntmps30
    go_wp2
    go_ret
    exact ⟨rfl, rfl⟩

abbrev dskc (dm nm : Option Nat) (pv : Value) (left full : Int) : Array Value := #[.map dm, .map nm, pv, .int .i64 left, .int .i64 full, .bool false]

set_option maxRecDepth 100000 in
set_option maxHeartbeats 1000000 in
theorem after28 (hb db : Nat) (dm nm : Option Nat) (pv sv cv bv : Value) (l f kept part : Int) (w : World) (hh : w.heap[hb]? = some (.cells #[.pointer (some ⟨db, 0, none⟩), sv, cv, bv] 82)) (hd : w.heap[db]? = some (.cells #[.map dm, .map nm, pv, .int .i64 l, .int .i64 f, .bool false] 88)) :
    Calls Tryz.prog 32 #[.pointer (some ⟨hb, 0, none⟩), .int .i64 kept, .int .i64 part] w fun e w' => e = .returned (.tuple #[]) ∧ w'.heap[db]? = some (.cells #[.map dm, .map nm, pv, .int .i64 (-1), .int .i64 (-1), .bool false] 88) ∧ Keep (fun b => b = db) w w' := by
  have hne : hb ≠ db := by
    intro e; subst e
    rw [hh] at hd; simp at hd
  have a0 := cellB hh 0
  have a1 := cellB hd
  have a2 := frozenB hd
  have n1 : ¬ hb = db := hne
  have n2 : ¬ db = hb := fun e => hne e.symm
  go_enter Tryz.func32, Tryz.ntmps32
  go_wp2_with fail
  go_region_held3 (fun w' => w'.cell? ⟨hb, 0, none⟩ = some (.pointer (some ⟨db, 0, none⟩))) (go_keep) (fail)
  all_goals go_wp2
  all_goals go_end0
  all_goals refine ⟨rfl, (heapDrew _ _).trans (by simpa using heapSet (heapSet hd 3 (.int .i64 (-1))) 4 (.int .i64 (-1))), Keep.drew ?_⟩
  all_goals exact Keep.set (S := fun b => b = db) (b := db) (Keep.set (S := fun b => b = db) (b := db) (Keep.refl _ w) (Or.inl rfl) _ _) (Or.inl rfl) _ _
end Go.Proofs.YtnlgndpcddngoaaGreatDoor

namespace Go.Proofs.YtnlgndpcddngoaaGreatDoor
open Go.RowKit
variable [dK] [iK]

set_option maxRecDepth 100000 in
set_option maxHeartbeats 1000000 in
theorem up29 (db mb : Nat) (nv pv c3 c4 dv : Value) (w : World) (hd : w.heap[db]? = some (.cells #[.map (some mb), nv, pv, c3, c4, dv] 88)) (hm : w.heap[mb]? = some (.map #[] 0)) :
    Calls Tryz.prog 33 #[.pointer (some ⟨db, 0, none⟩)] w fun e w' => e = .returned (.tuple #[]) ∧ w'.heap[db]? = some (.cells #[.map (some mb), .map (some w.heap.size), .slice none 0 0, c3, c4, .bool false] 88) ∧ w'.heap[w.heap.size]? = some (.map #[] 0) ∧ Keep (fun b => b = db) w w' := by
  have ld := ltB hd
  have lm := ltB hm
  have hne : db ≠ mb := by
    intro e; subst e
    rw [hd] at hm; simp at hm
  obtain ⟨V, hV⟩ : ∃ V, V = (w.alloc (.map #[] 0)).setCell ⟨db, 1, none⟩ (.map (some w.heap.size)) := ⟨_, rfl⟩
  have hdV : V.heap[db]? = some (.cells #[.map (some mb), .map (some w.heap.size), pv, c3, c4, dv] 88) := by rw [hV]; simpa using heapSet (upB hd (.map #[] 0)) 1 (.map (some w.heap.size))
  have hmV : V.heap[mb]? = some (.map #[] 0) := by rw [hV, heapSetO (fun e => hne e.symm)]; exact upB hm _
  have hnV : V.heap[w.heap.size]? = some (.map #[] 0) := by rw [hV, heapSetO (by omega)]; exact heapNew _ _
  have hKV : Keep (fun b => b = db) w V := hV ▸ Keep.set (S := fun b => b = db) (b := db) ((Keep.refl _ w).alloc _) (Or.inl rfl) _ _
  have hVs : V.heap.size = w.heap.size + 1 := by rw [hV]; simp
  have b1 := upC hd (.map #[] 0)
  have b2 := upF hd (.map #[] 0)
  have hmm := @run_makeMap Tryz.prog
  have hr := run_range_map (P := Tryz.prog) V 85 9 95 mb #[] 0 Tryz.underlying85 hmV
  have hx : ∀ ty, (Instr.next (.pointer (some ⟨V.heap.size, 0, none⟩)) false ty).run Tryz.prog (V.alloc (.mapIter (some mb) 0 #[] 0)) = .ok (.tuple #[.bool false]) (V.alloc (.mapIter (some mb) 0 #[] 0)) := fun ty => by
    rcases run_next_map (P := Tryz.prog) V ty mb 0 0 #[] #[] 0 hmV (by simp) (Nat.le_refl _) with ⟨_, h⟩ | ⟨e, he, _⟩
    · exact h
    · simp [leftOf] at he
  have a1 := cellB hdV
  have a2 := upC hdV (.mapIter (some mb) 0 #[] 0)
  have a3 := upF hdV (.mapIter (some mb) 0 #[] 0)
  have HVS := hide hVs
  have HLD := hide ld
  have HLM := hide lm
  clear hVs ld lm
  go_enter Tryz.func33, Tryz.ntmps33
  go_upto_region 1 with fail
  rw [← hV]
  clear hV b1 b2
  go_wp2
  refine wp_loop_rounds 1 ?_
  rw [rounds_succ]
  go_wp2
  go_end0
  have ld := HLD.out
  have hVs := HVS.out
  refine ⟨rfl, by simpa using heapSet (heapSet (upB hdV (.mapIter (some mb) 0 #[] 0)) 2 (.slice none 0 0)) 5 (.bool false), ?_, ?_⟩
  · rw [heapSetO (by omega), heapSetO (by omega)]
    exact upB hnV _
  · exact Keep.set (S := fun b => b = db) (b := db) (Keep.set (S := fun b => b = db) (b := db) (hKV.alloc _) (Or.inl rfl) _ _) (Or.inl rfl) _ _

set_option maxRecDepth 100000 in
set_option maxHeartbeats 1000000 in
theorem newhost15 (blk : Int) (w : World) :
    Calls Tryz.prog 19 #[.slice none 0 0, .int .u64 blk] w fun e w' => ∃ nb, e = .returned (.pointer (some ⟨w.heap.size + 2, 0, none⟩)) ∧ w'.heap[w.heap.size + 2]? = some (.cells #[.pointer (some ⟨w.heap.size + 1, 0, none⟩), .pointer none, .slice none 0 0, .int .u64 blk] 82) ∧ w'.heap[w.heap.size + 1]? = some (.cells #[.map (some w.heap.size), .map (some nb), .slice none 0 0, .int .i64 (-1), .int .i64 (-1), .bool false] 88) ∧ w'.heap[w.heap.size]? = some (.map #[] 0) ∧ w'.heap[nb]? = some (.map #[] 0) ∧ w.heap.size + 2 < nb ∧ Below w.heap.size w w' := by
  have hmm := @run_makeMap Tryz.prog
  obtain ⟨V, hV⟩ : ∃ V, V = ((w.alloc (.map #[] 0)).alloc (.cells #[.map (some w.heap.size), .map none, .slice none 0 0, .int .i64 (-1), .int .i64 (-1), .bool false] 88)).alloc (.cells #[.pointer (some ⟨w.heap.size + 1, 0, none⟩), .pointer none, .slice none 0 0, .int .u64 blk] 82) := ⟨_, rfl⟩
  have h2 : V.heap[w.heap.size + 2]? = some (.cells #[.pointer (some ⟨w.heap.size + 1, 0, none⟩), .pointer none, .slice none 0 0, .int .u64 blk] 82) := hV ▸ heapN (by simp)
  have h1 : V.heap[w.heap.size + 1]? = some (.cells #[.map (some w.heap.size), .map none, .slice none 0 0, .int .i64 (-1), .int .i64 (-1), .bool false] 88) := hV ▸ upB (heapN (by simp)) _
  have h0 : V.heap[w.heap.size]? = some (.map #[] 0) := hV ▸ upB (upB (heapNew _ _) _) _
  have hB : Below w.heap.size w V := hV ▸ (((Below.refl _ w).alloc (Nat.le_refl _) _).alloc (by simp) _).alloc (by simp <;> omega) _
  have hVs : V.heap.size = w.heap.size + 3 := by rw [hV]; simp
  have a2 := cellB h2
  have HVS := hide hVs
  clear hVs
  go_enter Tryz.func19, Tryz.ntmps19
  go_upto_region 2 with fail
  rw [← hV]
  clear hV
  go_wp2
  refine wp_loop_rounds 1 ?_
  rw [rounds_succ]
  go_wp2_with (go_at_call 33; refine (up29 (w.heap.size + 1) w.heap.size _ _ _ _ _ _ h1 h0).mono ?_; rintro e w2 ⟨rfl, g1, g2, g3⟩)
  go_ret
  have hVs := HVS.out
  refine ⟨V.heap.size, rfl, (g3.block _ (by omega) (by omega)).trans h2, g1, (g3.block _ (by omega) (by omega)).trans h0, g2, by omega, hB.trans (Keep.below g3 (by omega) (fun k hk => by omega))⟩
end Go.Proofs.YtnlgndpcddngoaaGreatDoor

namespace Go.Proofs.YtnlgndpcddngoaaGreatDoor
open Go.RowKit Go.Maps
variable [dK] [iK]

theorem owns_kept {w w' : World} {b n : Nat} {D : DataW Value} {kt : TypeId} (h : w.ownsMap Tryz.prog kt heldE b n D) (hb : w'.heap[b]? = w.heap[b]?) : w'.ownsMap Tryz.prog kt heldE b n D := by
  obtain ⟨es, clock, h1, h2⟩ := h
  exact ⟨es, clock, hb.trans h1, h2⟩

set_option maxRecDepth 100000 in
set_option maxHeartbeats 2000000 in
/-- The disk comes up: what is there to read is what is durable. -/
theorem up33 (db mb : Nat) (nv pv dv c3 c4 : Value) (fs : Fs) (w : World) (hd : w.heap[db]? = some (.cells #[.map (some mb), nv, pv, c3, c4, dv] 88)) (hD : DirAt w mb fs) :
    Calls Tryz.prog 33 #[.pointer (some ⟨db, 0, none⟩)] w fun e w' => e = .returned (.tuple #[]) ∧ w'.heap[db]? = some (.cells #[.map (some mb), .map (some w.heap.size), .slice none 0 0, c3, c4, .bool false] 88) ∧ DirAt w' w.heap.size fs ∧ Keep (fun c => c = db) w w' := by
  have hmm := @run_makeMap Tryz.prog
  obtain ⟨n, D0, ho, hDat⟩ := hD.map
  have hsz : Maps.size D0 ≤ 2 := by rw [hDat.size]; exact hD.len
  have ld := ltB hd
  have lm := ho.lt
  have hmd : mb ≠ db := hD.map.ne hd
  obtain ⟨V, hV⟩ : ∃ V, V = (w.alloc (.map #[] 0)).setCell ⟨db, 1, none⟩ (.map (some w.heap.size)) := ⟨_, rfl⟩
  have hdV : V.heap[db]? = some (.cells #[.map (some mb), .map (some w.heap.size), pv, c3, c4, dv] 88) := by rw [hV]; simpa using heapSet (upB hd (.map #[] 0)) 1 (.map (some w.heap.size))
  have hoV : V.ownsMap Tryz.prog 9 heldE mb n D0 := owns_kept ho (by rw [hV, heapSetO hmd]; exact heapOld _ _ lm)
  have hnV : V.ownsMap Tryz.prog 9 heldE w.heap.size 0 (.map []) := owns_kept (World.ownsMap_made w _ _ _) (by rw [hV, heapSetO (by omega)])
  have hKV : Keep (fun c => c = db) w V := hV ▸ Keep.set (S := fun c => c = db) (b := db) ((Keep.refl _ w).alloc _) (Or.inl rfl) _ _
  have hsV : V.heap.size = w.heap.size + 1 := by rw [hV]; simp
  have b1 := upC hd (.map #[] 0)
  have b2 := upF hd (.map #[] 0)
  have a1 := cellB hdV
  have HDT := hide hDat
  have HDD := hide hD
  have HSZ := hide hsz
  have HSV := hide hsV
  have HLD := hide (And.intro ld lm)
  clear ho hDat hD hsz hsV ld lm
  go_enter Tryz.func33, Tryz.ntmps33
  go_upto_region 1 with fail
  rw [← hV]
  clear hV b1 b2
  go_wp2_with (first
    | (at_range; refine wpList_range_own _ rfl _ 85 rfl 9 95 mname.keyed undN _ mb n _ rfl hoV ?_; intro w0 hrg0 hg0 hs0)
    | go_in)
  go_frame
  have hk0 : Keep (fun c => c = db) w w0 := ⟨hg0.os.trans hKV.os, hg0.tape.trans hKV.tape, hg0.output.trans hKV.output, Nat.le_trans hKV.size hg0.size, fun k hk hn => (hg0.block k (Nat.lt_of_lt_of_le hk hKV.size) (by simp)).trans (hKV.block k hk hn)⟩
  have hn0 := hnV.kept hg0 (by simp)
  have hd0 := (hg0.block db (ltB hdV) (by simp)).trans hdV
  have HK0 := hide hk0
  have HN0 := hide hn0
  have HR0 := hide hrg0
  have HD0 := hide hd0
  have HOV := hide hoV
  clear hk0 hn0 hrg0 hg0 hs0 hd0 a1 hKV hnV hoV
  go_loopw [] (fun wr => ∃ (left : Lit → Bool) (cnt : Nat) (Dout : DataW Value), wr.ranges Tryz.prog 9 heldE mb V.heap.size n D0 left cnt ∧ cnt ≤ Maps.size D0 ∧ wr.ownsMap Tryz.prog 9 heldE w.heap.size (Maps.size D0 - cnt) Dout ∧ Agree Dout D0 left ∧ wr.heap[db]? = some (.cells #[.map (some mb), .map (some w.heap.size), pv, c3, c4, dv] 88) ∧ Keep (fun c => c = db) w wr)
    (fun wr => wr.rangeLeft mb V.heap.size)
  case atStart => exact ⟨_, _, .map [], HR0.out, Nat.le_refl _, HN0.out.mono (Nat.zero_le _), agree_start D0, HD0.out, HK0.out⟩
  case round =>
    obtain ⟨left, cnt, Dout, hrg, hcs, hout, hA, hdb, hnx⟩ := hrel
    have HOUT := hide hout
    have HA := hide hA
    have HDB := hide hdb
    have HNX := hide hnx
    clear hout hA hdb hnx
    go_wp2_with (first
      | (at_next; refine wpList_next_G (P := Tryz.prog) (kt := 9) _ mname rfl _ rfl mb V.heap.size n D0 fs HDT.out left cnt rfl hrg ?_ ?_)
      | go_in)
    · intro hc0 hl0
      have a3 := cellB HDB.out
      have a4 := frozenB HDB.out
      have HC0 := hide (And.intro hc0 hl0)
      clear hc0 hl0 hrg
      go_wp2
      go_end0
      obtain ⟨hc0, hl0⟩ := HC0.out
      subst hc0
      have e := agree_end HA.out hl0 (HOUT.out.canon mname.keyed) (HOV.out.canon mname.keyed)
      have hn : wr.ownsMap Tryz.prog 9 heldE w.heap.size (Maps.size D0) D0 := by have := HOUT.out; rw [e] at this; simpa using this
      have hnd : w.heap.size ≠ db := by have := HLD.out; omega
      have hX : Keep (fun c => c = db) w ((wr.setCell ⟨db, 2, none⟩ (.slice none 0 0)).setCell ⟨db, 5, none⟩ (.bool false)) := Keep.set (S := fun c => c = db) (b := db) (Keep.set (S := fun c => c = db) (b := db) HNX.out (Or.inl rfl) _ _) (Or.inl rfl) _ _
      refine ⟨rfl, by simpa using heapSet (heapSet HDB.out 2 (.slice none 0 0)) 5 (.bool false), ⟨⟨_, _, owns_kept hn ((heapSetO hnd _ _).trans (heapSetO hnd _ _)), HDT.out⟩, HDD.out.nd, fun p hp => ?_⟩, hX⟩
      have hps := HDD.out.str p hp
      exact (hX.block _ (ltB hps) (fun e => by rw [e, hd] at hps; simp at hps)).trans hps
    · refine ⟨?_, ?_⟩
      · intro p1 p2 w1 cnt1 hp hlk hat hrg1 hlt hg1 hs1 hen
        simp only [nkv, evF] at hen ⊢
        have hrl : V.heap.size < wr.heap.size := hrg.lt
        obtain ⟨ld, lm⟩ := HLD.out
        have hwr := HNX.out.size
        have sV := HSV.out
        have hout1 := HOUT.out.kept hg1 (by intro e; injection e with e; omega)
        have hd1 := (hg1.block db (by have := ltB HDB.out; omega) (by intro e; injection e with e; omega)).trans HDB.out
        have hk1 : Keep (fun c => c = db) w w1 := ⟨hg1.os.trans HNX.out.os, hg1.tape.trans HNX.out.tape, hg1.output.trans HNX.out.output, Nat.le_trans hwr hg1.size, fun i hi hn => (hg1.block i (by omega) (by intro e; injection e with e; omega)).trans (HNX.out.block i hi hn)⟩
        have hle : Maps.size D0 - cnt < maxLen := by have := HSZ.out; unfold maxLen; omega
        have hkl := mname.key false trivial
        unfold nkv at hkl
        have a2 := cellB hd1
        have HRG := hide hrg1
        have HKV := hide hk1
        have HLT := hide hlt
        have HRG0 := hide hrg
        have HAT := hide hat
        have HD1 := hide hd1
        clear hk1 hrg1 hg1 hs1 hlt hwr hrl hlk hp hat hrg sV ld lm
        go_wp2_with (first
          | (at_mapUpdate; refine wpList_mapUpdate_own _ rfl _ _ _ 85 rfl 9 95 mname.keyed undN _ w.heap.size _ _ rfl hout1 hle _ _ _ rfl rfl hkl (.held (evF (p1, p2))) [] rfl ?_; intro w2 hout2 hg2; go_frame)
          | go_in)
        have sV := HSV.out
        obtain ⟨ld, lm⟩ := HLD.out
        have hrg2 := HRG.out.kept hg2 (fun e => by have := Option.some.inj e; omega) (fun e => by have := Option.some.inj e; omega)
        go_roundw
        case rel =>
          refine ⟨_, cnt1, _, hrg2, by have := HLT.out; omega, hout2.mono (by have := HLT.out; omega), agree_step HA.out HOUT.out.isMap (mname.keyed.key (mname.key false trivial)) HAT.out, ?_, ?_⟩
          · exact (hg2.block db (ltB HD1.out) (fun e => by have := Option.some.inj e; omega)).trans HD1.out
          · exact HKV.out.then (T := fun c => c = w.heap.size) ⟨hg2.os, hg2.tape, hg2.output, hg2.size, fun i hi hn => hg2.block i hi (fun e => hn (Option.some.inj e))⟩ (fun i hi h => by omega)
        case measure => rw [hrg2.left_eq, HRG0.out.left_eq]; exact HLT.out
      · intro p1 p2 w1 cnt1 hp hlk hat hrg1 hlt hg1 hs1 hen
        simp only [nkv, evF] at hen ⊢
        have hrl : V.heap.size < wr.heap.size := hrg.lt
        obtain ⟨ld, lm⟩ := HLD.out
        have hwr := HNX.out.size
        have sV := HSV.out
        have hout1 := HOUT.out.kept hg1 (by intro e; injection e with e; omega)
        have hd1 := (hg1.block db (by have := ltB HDB.out; omega) (by intro e; injection e with e; omega)).trans HDB.out
        have hk1 : Keep (fun c => c = db) w w1 := ⟨hg1.os.trans HNX.out.os, hg1.tape.trans HNX.out.tape, hg1.output.trans HNX.out.output, Nat.le_trans hwr hg1.size, fun i hi hn => (hg1.block i (by omega) (by intro e; injection e with e; omega)).trans (HNX.out.block i hi hn)⟩
        have hle : Maps.size D0 - cnt < maxLen := by have := HSZ.out; unfold maxLen; omega
        have hkl := mname.key true trivial
        unfold nkv at hkl
        have a2 := cellB hd1
        have HRG := hide hrg1
        have HKV := hide hk1
        have HLT := hide hlt
        have HRG0 := hide hrg
        have HAT := hide hat
        have HD1 := hide hd1
        clear hk1 hrg1 hg1 hs1 hlt hwr hrl hlk hp hat hrg sV ld lm
        go_wp2_with (first
          | (at_mapUpdate; refine wpList_mapUpdate_own _ rfl _ _ _ 85 rfl 9 95 mname.keyed undN _ w.heap.size _ _ rfl hout1 hle _ _ _ rfl rfl hkl (.held (evF (p1, p2))) [] rfl ?_; intro w2 hout2 hg2; go_frame)
          | go_in)
        have sV := HSV.out
        obtain ⟨ld, lm⟩ := HLD.out
        have hrg2 := HRG.out.kept hg2 (fun e => by have := Option.some.inj e; omega) (fun e => by have := Option.some.inj e; omega)
        go_roundw
        case rel =>
          refine ⟨_, cnt1, _, hrg2, by have := HLT.out; omega, hout2.mono (by have := HLT.out; omega), agree_step HA.out HOUT.out.isMap (mname.keyed.key (mname.key true trivial)) HAT.out, ?_, ?_⟩
          · exact (hg2.block db (ltB HD1.out) (fun e => by have := Option.some.inj e; omega)).trans HD1.out
          · exact HKV.out.then (T := fun c => c = w.heap.size) ⟨hg2.os, hg2.tape, hg2.output, hg2.size, fun i hi hn => hg2.block i hi (fun e => hn (Option.some.inj e))⟩ (fun i hi h => by omega)
        case measure => rw [hrg2.left_eq, HRG0.out.left_eq]; exact HLT.out

theorem callPick0 (vs : Array Value) (w : World) : Sem.run Tryz.prog (callFunc 30 vs) w = .ok (.enter 30 vs) w := by simp [go_sem]

set_option maxRecDepth 100000 in
set_option maxHeartbeats 2000000 in
/-- The power fails, and nothing is told that is not durable. -/
theorem crash39 (db mb : Nat) (nv dv c3 c4 : Value) (fs : Fs) (kept part : Int) (w : World) (p0 : -9223372036854775808 ≤ part) (p1 : part ≤ 9223372036854775807) (hd : w.heap[db]? = some (.cells #[.map (some mb), nv, .slice none 0 0, c3, c4, dv] 88)) (hD : DirAt w mb fs) :
    Calls Tryz.prog 39 #[.pointer (some ⟨db, 0, none⟩), .int .i64 kept, .int .i64 part] w fun e w' => e = .returned (.tuple #[]) ∧ ∃ nb, w'.heap[db]? = some (.cells #[.map (some mb), .map (some nb), .slice none 0 0, .int .i64 (-1), .int .i64 (-1), .bool false] 88) ∧ w.heap.size ≤ nb ∧ DirAt w' nb fs ∧ Keep (fun c => c = db) w w' := by
  have hmm := @run_makeMap Tryz.prog
  have hmd : mb ≠ db := hD.map.ne hd
  have HP := hide (pick26 part 1 w (by omega) (by omega) p0 p1)
  obtain ⟨V, hV⟩ : ∃ V, V = ((w.alloc (.map #[] 0)).setCell ⟨db, 3, none⟩ (.int .i64 (-1))).setCell ⟨db, 4, none⟩ (.int .i64 (-1)) := ⟨_, rfl⟩
  have hdV : V.heap[db]? = some (.cells #[.map (some mb), nv, .slice none 0 0, .int .i64 (-1), .int .i64 (-1), dv] 88) := by rw [hV]; simpa using heapSet (heapSet (upB hd (.map #[] 0)) 3 (.int .i64 (-1))) 4 (.int .i64 (-1))
  have hKV : Keep (fun c => c = db) w V := hV ▸ Keep.set (S := fun c => c = db) (b := db) (Keep.set (S := fun c => c = db) (b := db) ((Keep.refl _ w).alloc _) (Or.inl rfl) _ _) (Or.inl rfl) _ _
  have hDV : DirAt V mb fs := hD.keep hKV hmd (fun p hp e => by have := hD.str p hp; rw [e, hd] at this; simp at this)
  have HU := hide (up33 db mb nv (.slice none 0 0) dv (.int .i64 (-1)) (.int .i64 (-1)) fs V hdV hDV)
  have a1 := cellB hd
  have b1 := upC hd (.map #[] 0)
  have b2 := upF hd (.map #[] 0)
  have HK := hide hKV
  clear hD hDV hKV hdV
  go_enter Tryz.func39, Tryz.ntmps39
  go_wp2_with fail
  refine HP.out.mono ?_
  rintro e w' ⟨rfl, rfl⟩
  go_wp2
  refine wp_loop_rounds 1 ?_
  rw [rounds_succ]
  go_upto_region 15 with fail
  rw [← hV]
  clear hV a1 b1 b2
  go_wp2_with fail
  refine HU.out.mono ?_
  rintro e w2 ⟨rfl, q1, q2, q3⟩
  have HQ := hide (And.intro q1 (And.intro q2 q3))
  clear q1 q2 q3
  go_wp2
  go_end0
  obtain ⟨q1, q2, q3⟩ := HQ.out
  exact ⟨rfl, V.heap.size, q1, HK.out.size, q2, HK.out.then q3 (fun i _ h => h)⟩
end Go.Proofs.YtnlgndpcddngoaaGreatDoor

namespace Go.Proofs.YtnlgndpcddngoaaGreatDoor
open Go.RowKit
variable [dK] [iK]

/-- A request whose own bytes are read as it is. -/
def Reads (q : Rq) : Prop := ∀ t, rdErr (q.enc ++ t) = 0 ∧ rdN (q.enc ++ t) = q.enc.length ∧ rdQ (q.enc ++ t) = q
theorem reads_def (k kd x y : Int) (hx : 0 ≤ x ∧ x ≤ 18446744073709551615) (hy : 0 ≤ y ∧ y ≤ 18446744073709551615) : Reads ⟨1, k, 0, 0, 0, 0, 0, 0, 0, kd, x, y, 0⟩ := by
  intro t
  have e : Rq.enc ⟨1, k, 0, 0, 0, 0, 0, 0, 0, kd, x, y, 0⟩ = [26, 1, k, 0, 0, 0, 0, 0, 0, 0, kd] ++ be8 x ++ be8 y := rfl
  have eE : rdErr (Rq.enc ⟨1, k, 0, 0, 0, 0, 0, 0, 0, kd, x, y, 0⟩ ++ t) = 0 := by
    rw [e]; simp [rdErr, be8, reqLen]; omega
  have hx := rd_be8 x hx.1 hx.2
  have hy := rd_be8 y hy.1 hy.2
  have eQ := rdQ_1 (Rq.enc ⟨1, k, 0, 0, 0, 0, 0, 0, 0, kd, x, y, 0⟩ ++ t) eE (by rw [e]; rfl)
  have ex : num8 (Rq.enc ⟨1, k, 0, 0, 0, 0, 0, 0, 0, kd, x, y, 0⟩ ++ t) 11 = x := by rw [e]; exact hx
  have ey : num8 (Rq.enc ⟨1, k, 0, 0, 0, 0, 0, 0, 0, kd, x, y, 0⟩ ++ t) 19 = y := by rw [e]; exact hy
  rw [ex, ey] at eQ
  refine ⟨eE, ?_, ?_⟩
  · unfold rdN; rw [if_pos eE, e]; simp [be8]
  · rw [eQ, e]; rfl
theorem reads_adm (k n : Int) (hn : 0 ≤ n ∧ n ≤ 18446744073709551615) : Reads ⟨2, k, 0, 0, 0, 0, 0, 0, 0, 0, 0, 0, n⟩ := by
  intro t
  have e : Rq.enc ⟨2, k, 0, 0, 0, 0, 0, 0, 0, 0, 0, 0, n⟩ = [17, 2, k, 0, 0, 0, 0, 0, 0, 0] ++ be8 n := rfl
  have eE : rdErr (Rq.enc ⟨2, k, 0, 0, 0, 0, 0, 0, 0, 0, 0, 0, n⟩ ++ t) = 0 := by
    rw [e]; simp [rdErr, be8, reqLen]; omega
  have hx := rd_be8 n hn.1 hn.2
  have eQ := rdQ_2 (Rq.enc ⟨2, k, 0, 0, 0, 0, 0, 0, 0, 0, 0, 0, n⟩ ++ t) eE (by rw [e]; rfl)
  have ex : num8 (Rq.enc ⟨2, k, 0, 0, 0, 0, 0, 0, 0, 0, 0, 0, n⟩ ++ t) 10 = n := by rw [e]; exact hx
  rw [ex] at eQ
  refine ⟨eE, ?_, ?_⟩
  · unfold rdN; rw [if_pos eE, e]; simp [be8]
  · rw [eQ, e]; rfl
theorem reads_qry (k : Int) : Reads ⟨3, k, 0, 0, 0, 0, 0, 0, 0, 0, 0, 0, 0⟩ := by
  intro t
  have e : Rq.enc ⟨3, k, 0, 0, 0, 0, 0, 0, 0, 0, 0, 0, 0⟩ = [9, 3, k, 0, 0, 0, 0, 0, 0, 0] := rfl
  have eE : rdErr (Rq.enc ⟨3, k, 0, 0, 0, 0, 0, 0, 0, 0, 0, 0, 0⟩ ++ t) = 0 := by
    rw [e]; simp [rdErr, reqLen]; omega
  have eQ := rdQ_3 (Rq.enc ⟨3, k, 0, 0, 0, 0, 0, 0, 0, 0, 0, 0, 0⟩ ++ t) eE (by rw [e]; exact Or.inl rfl)
  refine ⟨eE, ?_, ?_⟩
  · unfold rdN; rw [if_pos eE, e]; simp
  · rw [eQ, e]; rfl

theorem runL_enc (L : Ld) (q : Rq) (h : Reads q) (t : List Int) : runL L (q.enc ++ t) = ((runL (doM L q).1 t).1, (doM L q).2 :: (runL (doM L q).1 t).2.1, (runL (doM L q).1 t).2.2) := by
  obtain ⟨e1, e2, e3⟩ := h t
  rw [runL_step L _ e1, e2, e3, Int.toNat_natCast, List.drop_left]
theorem runL_nil (L : Ld) : runL L [] = (L, [], [], 1) := runL_stop L [] (by simp [rdErr])

def kK : Ky := ⟨107, 0, 0, 0, 0, 0, 0, 0⟩
def qDef (kd x y : Int) : Rq := ⟨1, 107, 0, 0, 0, 0, 0, 0, 0, kd, x, y, 0⟩
def qAdm (n : Int) : Rq := ⟨2, 107, 0, 0, 0, 0, 0, 0, 0, 0, 0, 0, n⟩
def qQk : Rq := ⟨3, 107, 0, 0, 0, 0, 0, 0, 0, 0, 0, 0, 0⟩
def qQj : Rq := ⟨3, 106, 0, 0, 0, 0, 0, 0, 0, 0, 0, 0, 0⟩
theorem do_def (kd x y : Int) (h : soundM kd x y) : doM ⟨0, 0, []⟩ (qDef kd x y) = (⟨0, 0, [(kK, ⟨kd, x, y, 0, 0⟩)]⟩, ⟨1, 0, 0⟩) := by
  unfold doM qDef
  rw [if_pos rfl, if_neg (by exact fun g => g h), if_neg (by simp [fnd]), if_neg (by simp)]
  rfl
theorem do_qk (kd x y : Int) : doM ⟨0, 0, [(kK, ⟨kd, x, y, 0, 0⟩)]⟩ qQk = (⟨0, 0, [(kK, ⟨kd, x, y, 0, 0⟩)]⟩, ⟨1, 0, 0⟩) := by
  have hf : fnd qQk.key [(kK, (⟨kd, x, y, 0, 0⟩ : Qt))] = some ⟨kd, x, y, 0, 0⟩ := by simp [fnd, qQk, kK, Rq.key]
  have ht : turnM ⟨kd, x, y, 0, 0⟩ 0 = ⟨kd, x, y, 0, 0⟩ := by
    unfold turnM
    split
    · rfl
    · rw [if_pos (by simp)]
  unfold doM
  rw [if_neg (by simp [qQk]), if_neg (by simp [qQk]), if_pos (by simp [qQk])]
  simp only [hf, ht]
theorem do_qj (kd x y : Int) : doM ⟨0, 0, [(kK, ⟨kd, x, y, 0, 0⟩)]⟩ qQj = (⟨0, 0, [(kK, ⟨kd, x, y, 0, 0⟩)]⟩, ⟨4, 0, 0⟩) := by
  have hf : fnd qQj.key [(kK, (⟨kd, x, y, 0, 0⟩ : Qt))] = none := by simp [fnd, qQj, kK, Rq.key]
  unfold doM
  rw [if_neg (by simp [qQj]), if_neg (by simp [qQj]), if_pos (by simp [qQj])]
  simp only [hf]
theorem do_adm (T A n : Int) (z : Qt) : doM ⟨T, A, [(kK, z)]⟩ (qAdm n) = (⟨T, if (admM z T n).2.c = 2 then (A + n) % 18446744073709551616 else A, [(kK, (admM z T n).1)]⟩, (admM z T n).2) := by
  have hf : fnd (qAdm n).key [(kK, z)] = some z := by simp [fnd, qAdm, kK, Rq.key]
  have hu : ∀ z', upd (qAdm n).key z' [(kK, z)] = [(kK, z')] := fun z' => by simp [upd, qAdm, kK, Rq.key]
  unfold doM
  rw [if_neg (by simp [qAdm]), if_pos (by simp [qAdm])]
  simp only [hf, hu]
  rfl

/-- What a new ledger with a key says (P8, P11). -/
theorem opened_reckon (kd x y : Int) (h : soundM kd x y) (hx : 0 ≤ x ∧ x ≤ 18446744073709551615) (hy : 0 ≤ y ∧ y ≤ 18446744073709551615) :
    feedM ⟨0, 0, []⟩ ⟨[], false⟩ 0 (encQs [qDef kd x y, qQk, qQj]) = (⟨0, 0, [(kK, ⟨kd, x, y, 0, 0⟩)]⟩, ⟨[], false⟩, [⟨1, 0, 0⟩, ⟨1, 0, 0⟩, ⟨4, 0, 0⟩]) := by
  have e : encQs [qDef kd x y, qQk, qQj] = (qDef kd x y).enc ++ (qQk.enc ++ (qQj.enc ++ [])) := by simp [encQs]
  have hp : passM ⟨0, 0, []⟩ 0 = ⟨0, 0, []⟩ := rfl
  rw [feedM_good _ _ _ _ rfl, List.nil_append, e, hp, runL_enc _ (qDef kd x y) (reads_def 107 kd x y hx hy), do_def kd x y h, runL_enc _ qQk (reads_qry 107), do_qk, runL_enc _ qQj (reads_qry 106), do_qj, runL_nil]
  rfl
/-- What a ledger with that key says to an Admit. -/
theorem ask_reckon (T A at_ n : Int) (z : Qt) (hn : 0 ≤ n ∧ n ≤ 18446744073709551615) :
    feedM ⟨T, A, [(kK, z)]⟩ ⟨[], false⟩ at_ (encQs [qAdm n]) = (⟨if T < at_ then at_ else T, if (admM z (if T < at_ then at_ else T) n).2.c = 2 then (A + n) % 18446744073709551616 else A, [(kK, (admM z (if T < at_ then at_ else T) n).1)]⟩, ⟨[], false⟩, [(admM z (if T < at_ then at_ else T) n).2]) := by
  have e : encQs [qAdm n] = (qAdm n).enc ++ [] := by simp [encQs]
  have hp : passM ⟨T, A, [(kK, z)]⟩ at_ = ⟨if T < at_ then at_ else T, A, [(kK, z)]⟩ := rfl
  rw [feedM_good _ _ _ _ rfl, List.nil_append, e, hp, runL_enc _ (qAdm n) (reads_adm 107 n hn), do_adm, runL_nil]
  rfl
end Go.Proofs.YtnlgndpcddngoaaGreatDoor

namespace Go.Proofs.YtnlgndpcddngoaaGreatDoor
open Go.RowKit
variable [dK] [iK]

theorem cell_two_up' {w2 : World} {g : Nat} (o1 o2 : Obj) (j : Nat) (hg : g < w2.heap.size) : ((w2.alloc o1).alloc o2).cell? ⟨g, j, none⟩ = w2.cell? ⟨g, j, none⟩ := by
  rw [World.cell?_alloc_past _ _ _ (by simp; omega), World.cell?_alloc_past _ _ _ hg]

set_option maxRecDepth 100000 in
set_option maxHeartbeats 2000000 in
theorem rrep_ok (g n cap : Nat) (b : Nat → Int) (w : World) (hn : 18 ≤ n) (hnc : n ≤ cap) (hn1 : n ≤ 1048576) (hg : g < w.heap.size) (hb : ∀ j, j < n → w.cell? ⟨g, j, none⟩ = some (.int .u8 (b j))) (hr : ∀ j, 0 ≤ b j ∧ b j ≤ 255) (hb0 : b 0 = 17) (hb1 : repLen (b 1) = 17) :
    Calls Tryz.prog 93 #[.slice (some ⟨g, 0, none⟩) n cap] w fun e w' => e = .returned (.tuple #[.agg #[.int .u8 (b 1), .int .u64 (rdTo (fun j => b (2 + j)) 8), .int .u64 (rdTo (fun j => b (10 + j)) 8)], .int .i64 18, .nilIface]) ∧ Below w.heap.size w w' := by
  have HB := hide hb
  have HR := hide hr
  have H1 := hide hb1
  have c0 : w.cell? ⟨g, 0, none⟩ = some (.int .u8 17) := by rw [hb 0 (by omega), hb0]
  have c1 : w.cell? ⟨g, 1, none⟩ = some (.int .u8 (b 1)) := hb 1 (by omega)
  clear hb hr hb0 hb1
  go_enter Tryz.func93, Tryz.ntmps93
  go_wp2_with fail
  refine (replies_any _).mono ?_
  rintro e w1 ⟨rfl, hb1⟩
  have hB1 : Below w.heap.size w w1 := ((Below.refl _ w).alloc (Nat.le_refl _) _).trans (hb1.mono (by simp))
  have hs1 : w.heap.size < w1.heap.size := by have := hb1.size; simp at this; omega
  go_wp2_with fail
  refine (body_ok 17 17 152 g 0 n cap 17 w1 (by omega) hnc hn1 (by omega) (by omega) (by omega) ((hB1.cell (p := ⟨g, 0, none⟩) hg).trans c0) (fun w2 hB => by
    refine (rbegin4 g n cap 17 (b 1) w2 (by omega) (Nat.lt_of_lt_of_le (Nat.lt_trans hg hs1) hB.size) ((hB.cell (p := ⟨g, 0, none⟩) (Nat.lt_trans hg hs1)).trans ((hB1.cell (p := ⟨g, 0, none⟩) hg).trans c0)) ((hB.cell (p := ⟨g, 1, none⟩) (Nat.lt_trans hg hs1)).trans ((hB1.cell (p := ⟨g, 1, none⟩) hg).trans c1)) (by omega) (by omega)).mono ?_
    rintro e w3 ⟨rfl, hb⟩
    exact ⟨by rw [if_pos H1.out.symm], hb⟩)).mono ?_
  rintro e w2 ⟨rfl, hb2⟩
  have hB2 : Below w.heap.size w w2 := hB1.trans (hb2.mono (by omega))
  have hs2 : w.heap.size < w2.heap.size := by have := hb2.size; omega
  have hR : ∀ j, w2.cell? ⟨w.heap.size, j, none⟩ = (#[.int .u8 0, .int .u64 0, .int .u64 0] : Array Value)[j]? := fun j => (hb2.cell (p := ⟨w.heap.size, j, none⟩) hs1).trans ((hb1.cell (p := ⟨w.heap.size, j, none⟩) (by simp)).trans (cell_box w _ _ j))
  have hRf : ∀ j, w2.frozen? ⟨w.heap.size, j, none⟩ = false := fun j => (hb2.frozen (p := ⟨w.heap.size, j, none⟩) hs1).trans ((hb1.frozen (p := ⟨w.heap.size, j, none⟩) (by simp)).trans (by simp))
  clear hb1 hb2
  go_wp2_with fail
  refine (of_any _ _ _ _).mono ?_
  rintro e wf ⟨rfl, rfl⟩
  go_wp2_with fail
  have hg2 : g < w2.heap.size := by omega
  refine (small_more w2.heap.size g 1 17 (b 1) _ (by simp) (by simp) (by omega) (by omega) (by rw [World.cell?_alloc_lt _ _ ⟨g, 1, none⟩ hg2]; exact (hB2.cell (p := ⟨g, 1, none⟩) hg).trans c1)).mono ?_
  rintro e w3 ⟨rfl, rfl⟩
  go_wp2_with fail
  refine (number_any w2.heap.size g 2 16 (fun j => b (2 + j)) _ (by simp) (by simp) (by omega) (by omega) (fun j hj => by rw [cell_two_up' _ _ _ hg2]; exact (hB2.cell (p := ⟨g, 2 + j, none⟩) hg).trans (HB.out (2 + j) (by omega))) (fun j => HR.out (2 + j))).mono ?_
  rintro e w4 ⟨rfl, ao, rfl, hao⟩
  obtain rfl := hao (by omega)
  clear hao
  go_wp2_with fail
  refine (number_any w2.heap.size g 10 8 (fun j => b (10 + j)) _ (by simp) (by simp) (by omega) (by omega) (fun j hj => by rw [cell_two_up' _ _ _ hg2]; exact (hB2.cell (p := ⟨g, 10 + j, none⟩) hg).trans (HB.out (10 + j) (by omega))) (fun j => HR.out (10 + j))).mono ?_
  rintro e w5 ⟨rfl, ao, rfl, -⟩
  clear c0 c1
  have hne : ¬ w.heap.size = w2.heap.size := by omega
  have hne' : ¬ w2.heap.size = w.heap.size := by omega
  go_wp2
  have hs2' : w.heap.size < w2.heap.size + 1 := by omega
  refine bodyPost_ret (v := .tuple #[.agg #[.int .u8 (b 1), .int .u64 (rdTo (fun j => b (2 + j)) 8), .int .u64 (rdTo (fun j => b (10 + j)) 8)], .int .i64 18, .nilIface]) (by simp [results, Tryz.results93, go_sem, hR, hs2, hs2']) rfl ⟨rfl, ?_⟩
  refine Below.alloc ?_ (by simp; omega) _
  refine Below.alloc ?_ (by simp; omega) _
  repeat (refine Below.setCell ?_ (by first | exact Nat.le_refl _ | (show _ ≤ w2.heap.size; omega)) _)
  exact hB2

set_option maxRecDepth 100000 in
set_option maxHeartbeats 1000000 in
theorem rrep_err (v : Value) (k : Int) (w : World)
    (hbody : Hid (∀ w1, Below w.heap.size w w1 → Calls Tryz.prog 103 #[.agg #[.int .u8 17, .int .u8 17, .func (.func 152) #[] #[]], v] w1 fun e w' => e = .returned (.tuple #[.slice none 0 0, .iface 53 (.int .i64 k)]) ∧ Below w1.heap.size w1 w')) :
    Calls Tryz.prog 93 #[v] w fun e w' => e = .returned (.tuple #[.agg #[.int .u8 0, .int .u64 0, .int .u64 0], .int .i64 0, .iface 53 (.int .i64 k)]) ∧ Below w.heap.size w w' := by
  go_enter Tryz.func93, Tryz.ntmps93
  go_wp2_with fail
  refine (replies_any _).mono ?_
  rintro e w1 ⟨rfl, hb1⟩
  have hB1 : Below w.heap.size w w1 := ((Below.refl _ w).alloc (Nat.le_refl _) _).trans (hb1.mono (by simp))
  have hs1 : w.heap.size < w1.heap.size := by have := hb1.size; simp at this; omega
  go_wp2_with fail
  refine (hbody.out w1 hB1).mono ?_
  rintro e w2 ⟨rfl, hb2⟩
  have hB2 : Below w.heap.size w w2 := hB1.trans (hb2.mono (by omega))
  have hR : ∀ j, w2.cell? ⟨w.heap.size, j, none⟩ = (#[.int .u8 0, .int .u64 0, .int .u64 0] : Array Value)[j]? := fun j => (hb2.cell (p := ⟨w.heap.size, j, none⟩) hs1).trans ((hb1.cell (p := ⟨w.heap.size, j, none⟩) (by simp)).trans (cell_box w _ _ j))
  have hRf : ∀ j, w2.frozen? ⟨w.heap.size, j, none⟩ = false := fun j => (hb2.frozen (p := ⟨w.heap.size, j, none⟩) hs1).trans ((hb1.frozen (p := ⟨w.heap.size, j, none⟩) (by simp)).trans (by simp))
  clear hb1 hb2
  go_wp2
  refine bodyPost_ret (v := .tuple #[.agg #[.int .u8 0, .int .u64 0, .int .u64 0], .int .i64 0, .iface 53 (.int .i64 k)]) (by simp [results, Tryz.results93, go_sem, hR]) rfl ⟨rfl, ?_⟩
  repeat (refine Below.setCell ?_ (by first | exact Nat.le_refl _ | (show _ ≤ w2.heap.size; omega)) _)
  exact hB2

/-- What is wrong with bytes, read as a reply (P4). -/
def rpErr (bs : List Int) : Int :=
  match bs with
  | [] => 1
  | b0 :: t => if b0 < 17 ∨ 17 < b0 then 2 else
    match t with
    | [] => 1
    | b1 :: _ => if b0 = repLen b1 then (if (bs.length : Int) ≤ b0 then 1 else 0) else 2
def rpN (bs : List Int) : Int := if rpErr bs = 0 then 18 else 0
def rpQ (bs : List Int) : Rp := if rpErr bs = 0 then ⟨bs.getD 1 0, num8 bs 2, num8 bs 10⟩ else ⟨0, 0, 0⟩

theorem read29_nil (ao : Option Addr) (cap : Nat) (w : World) :
    Calls Tryz.prog 93 #[.slice ao 0 cap] w fun e w' => e = .returned (.tuple #[.agg #[.int .u8 0, .int .u64 0, .int .u64 0], .int .i64 0, .iface 53 (.int .i64 1)]) ∧ Below w.heap.size w w' := by
  refine rrep_err _ 1 w ?_
  intro w1 _
  refine body_short 17 17 152 _ w1 ?_
  intro w2 _
  exact rbegin0 ao cap w2

theorem read29_bs (g cap n : Nat) (bs : List Int) (w : World) (hnl : bs.length = n) (hnp : 0 < n) (hcap : n ≤ cap) (hlen : n ≤ 1048576) (hg : g < w.heap.size)
    (hc : ∀ j, j < n → w.cell? ⟨g, j, none⟩ = some (.int .u8 (bs.getD j 0))) (hr : ∀ j, 0 ≤ bs.getD j 0 ∧ bs.getD j 0 ≤ 255) (r : Rp) (hq : r = rpQ bs) (m er : Int) (hm : m = rpN bs) (her : er = rpErr bs) :
    Calls Tryz.prog 93 #[.slice (some ⟨g, 0, none⟩) n cap] w fun e w' => e = .returned (.tuple #[.agg #[.int .u8 r.c, .int .u64 r.a, .int .u64 r.b], .int .i64 m, errV er]) ∧ Below w.heap.size w w' := by
  subst hq hm her
  have bad : ∀ k, rpErr bs = k → k ≠ 0 → (Hid (∀ w1, Below w.heap.size w w1 → Calls Tryz.prog 103 #[.agg #[.int .u8 17, .int .u8 17, .func (.func 152) #[] #[]], .slice (some ⟨g, 0, none⟩) n cap] w1 fun e w' => e = .returned (.tuple #[.slice none 0 0, .iface 53 (.int .i64 k)]) ∧ Below w1.heap.size w1 w')) →
      Calls Tryz.prog 93 #[.slice (some ⟨g, 0, none⟩) n cap] w fun e w' => e = .returned (.tuple #[.agg #[.int .u8 (rpQ bs).c, .int .u64 (rpQ bs).a, .int .u64 (rpQ bs).b], .int .i64 (rpN bs), errV (rpErr bs)]) ∧ Below w.heap.size w w' := by
    intro k hk hk0 hbody
    have e0 : ¬ rpErr bs = 0 := by omega
    have e2 : rpQ bs = ⟨0, 0, 0⟩ := by unfold rpQ; rw [if_neg e0]
    have e3 : rpN bs = 0 := by unfold rpN; rw [if_neg e0]
    have e4 : errV (rpErr bs) = .iface 53 (.int .i64 k) := by rw [hk]; unfold errV; rw [if_neg hk0]
    rw [e2, e3, e4]
    exact rrep_err _ k w hbody
  cases bs with
  | nil => simp at hnl; omega
  | cons b0 t =>
    have c0 : w.cell? ⟨g, 0, none⟩ = some (.int .u8 b0) := hc 0 hnp
    have r0 : 0 ≤ b0 ∧ b0 ≤ 255 := hr 0
    by_cases hlo : b0 < 17
    · refine bad 2 (by simp [rpErr, hlo]) (by omega) ?_
      intro w1 hB
      refine body_frame 17 17 152 _ w1 ?_
      intro w2 hB2
      have hB3 := hB.trans (hB2.mono hB.size)
      exact rbegin1 g _ cap b0 w2 hnp (Nat.lt_of_lt_of_le hg hB3.size) ((hB3.cell (p := ⟨g, 0, none⟩) hg).trans c0) hlo
    by_cases hhi : 17 < b0
    · refine bad 2 (by simp [rpErr, hhi]) (by omega) ?_
      intro w1 hB
      refine body_frame 17 17 152 _ w1 ?_
      intro w2 hB2
      have hB3 := hB.trans (hB2.mono hB.size)
      exact rbegin2 g _ cap b0 w2 hnp (Nat.lt_of_lt_of_le hg hB3.size) ((hB3.cell (p := ⟨g, 0, none⟩) hg).trans c0) hlo hhi
    have hor : ¬ (b0 < 17 ∨ 17 < b0) := by omega
    cases t with
    | nil =>
      have h1 : n = 1 := by simpa using hnl.symm
      refine bad 1 (by simp [rpErr, hor]) (by omega) ?_
      intro w1 hB
      refine body_short 17 17 152 _ w1 ?_
      intro w2 hB2
      have hB3 := hB.trans (hB2.mono hB.size)
      exact rbegin3 g _ cap b0 w2 hnp (Nat.lt_of_lt_of_le hg hB3.size) ((hB3.cell (p := ⟨g, 0, none⟩) hg).trans c0) hlo hhi (by simp [h1])
    | cons b1 t =>
      have hn2 : 1 < n := by rw [← hnl]; simp
      have c1 : w.cell? ⟨g, 1, none⟩ = some (.int .u8 b1) := hc 1 hn2
      by_cases heq : b0 = repLen b1
      · by_cases hle : (n : Int) ≤ b0
        · refine bad 1 (by simp only [rpErr]; rw [if_neg hor, if_pos heq, if_pos (by rw [hnl]; exact hle)]) (by omega) ?_
          intro w1 hB
          refine body_short2 17 17 152 g 0 _ cap b0 w1 hnp r0.1 r0.2 (Nat.lt_of_lt_of_le hg hB.size) ((hB.cell (p := ⟨g, 0, none⟩) hg).trans c0) hle ?_
          intro w2 hB2
          have hB3 := hB.trans (hB2.mono hB.size)
          refine (rbegin4 g _ cap b0 b1 w2 hn2 (Nat.lt_of_lt_of_le hg hB3.size) ((hB3.cell (p := ⟨g, 0, none⟩) hg).trans c0) ((hB3.cell (p := ⟨g, 1, none⟩) hg).trans c1) hlo hhi).mono ?_
          rintro e w3 ⟨rfl, hb⟩
          exact ⟨by rw [if_pos heq], hb⟩
        · have e1 : rpErr (b0 :: b1 :: t) = 0 := by simp only [rpErr]; rw [if_neg hor, if_pos heq, if_neg (by rw [hnl]; exact hle)]
          have e2 : rpQ (b0 :: b1 :: t) = ⟨b1, num8 (b0 :: b1 :: t) 2, num8 (b0 :: b1 :: t) 10⟩ := by unfold rpQ; rw [if_pos e1]; rfl
          have e3 : rpN (b0 :: b1 :: t) = 18 := by unfold rpN; rw [if_pos e1]
          have h17 : b0 = 17 := by omega
          rw [e1, e2, e3]
          exact rrep_ok g n cap (fun j => (b0 :: b1 :: t).getD j 0) w (by omega) hcap hlen hg hc hr h17 (by show repLen b1 = 17; omega)
      · refine bad 2 (by simp only [rpErr]; rw [if_neg hor, if_neg heq]) (by omega) ?_
        intro w1 hB
        refine body_frame 17 17 152 _ w1 ?_
        intro w2 hB2
        have hB3 := hB.trans (hB2.mono hB.size)
        refine (rbegin4 g _ cap b0 b1 w2 hn2 (Nat.lt_of_lt_of_le hg hB3.size) ((hB3.cell (p := ⟨g, 0, none⟩) hg).trans c0) ((hB3.cell (p := ⟨g, 1, none⟩) hg).trans c1) hlo hhi).mono ?_
        rintro e w3 ⟨rfl, hb⟩
        exact ⟨by rw [if_neg heq], hb⟩
end Go.Proofs.YtnlgndpcddngoaaGreatDoor

namespace Go.Proofs.YtnlgndpcddngoaaGreatDoor
open Go.RowKit
variable [dK] [iK]

set_option maxRecDepth 100000 in
theorem pick10 (c n : Int) (w : World) (hn : 0 < n) (hn1 : n ≤ 1000000000) (h0 : -9223372036854775808 ≤ c) (h1 : c ≤ 9223372036854775807) :
    Calls Tryz.prog 13 #[.int .i64 c, .int .i64 n] w fun e w' => e = .returned (.int .i64 (pickM c n)) ∧ w' = w := by
  have hnz : ¬ n = 0 := by omega
  by_cases h : c < 0
  · have e : pickM c n = -((c + 1).tmod n) := by unfold pickM; rw [if_pos h, ← Int.neg_tmod, Int.tmod_eq_emod_of_nonneg (by omega)]
    have k1 : IntKind.i64.wrap (c + 1) = c + 1 := by rw [IntKind.wrap_i64]; omega
    have k2 : IntKind.i64.wrap (-(c + 1)) = -(c + 1) := by rw [IntKind.wrap_i64]; omega
    rw [e]
    clear e
    go_enter Tryz.func13, Tryz.ntmps13
    go_wp2
    go_ret
    exact ⟨rfl, rfl⟩
  · have e : pickM c n = c % n := by unfold pickM; rw [if_neg h]
    rw [e]
    clear e
    go_enter Tryz.func13, Tryz.ntmps13
    go_wp2
    go_ret
    exact ⟨rfl, rfl⟩
set_option maxRecDepth 100000 in
theorem is17 (hb sb : Nat) (dv cv bv : Value) (w : World) (hh : w.heap[hb]? = some (.cells #[dv, .pointer (some ⟨sb, 0, none⟩), cv, bv] 82)) :
    Calls Tryz.prog 21 #[.pointer (some ⟨hb, 0, none⟩)] w fun e w' => e = .returned (.bool true) ∧ w' = w := by
  have a1 := cellB hh
  go_enter Tryz.func21, Tryz.ntmps21
  go_wp2
  go_ret
  exact ⟨rfl, rfl⟩

set_option maxRecDepth 100000 in
theorem hostadmitted34 (hb sb : Nat) (dv cv bv s0 s1 s2 s3 s4 s5 : Value) (x : Int) (w : World) (hh : w.heap[hb]? = some (.cells #[dv, .pointer (some ⟨sb, 0, none⟩), cv, bv] 82)) (hs : w.heap[sb]? = some (.cells #[s0, s1, s2, s3, s4, s5, .int .u64 x] 130)) :
    Calls Tryz.prog 38 #[.pointer (some ⟨hb, 0, none⟩)] w fun e w' => e = .returned (.int .u64 x) ∧ w' = w := by
  have a1 := cellB hh
  go_enter Tryz.func38, Tryz.ntmps38
  go_wp2_with (go_at_call 58; refine (admitted54 sb s0 s1 s2 s3 s4 s5 x _ hs).mono ?_; rintro e w' ⟨rfl, rfl⟩)
  go_ret
  exact ⟨rfl, rfl⟩

/-- The policy of raw numbers. -/
def polM (kind x y : Int) : Int × Int × Int := if pickM kind 2 = 1 then (2, pickM x 20, 1 + pickM y 100) else (1, 1 + pickM x 50, pickM y 200)

set_option maxRecDepth 100000 in
set_option maxHeartbeats 1000000 in
theorem policy12 (kind x y : Int) (w : World) (k0 : -9223372036854775808 ≤ kind) (k1 : kind ≤ 9223372036854775807) (x0 : -9223372036854775808 ≤ x) (x1 : x ≤ 9223372036854775807) (y0 : -9223372036854775808 ≤ y) (y1 : y ≤ 9223372036854775807) (p : Int × Int × Int) (hp : p = polM kind x y) :
    Calls Tryz.prog 15 #[.int .i64 kind, .int .i64 x, .int .i64 y] w fun e w' => e = .returned (.agg #[.int .u8 p.1, .int .u64 p.2.1, .int .u64 p.2.2]) ∧ Below w.heap.size w w' := by
  have hk := fun w => pick10 kind 2 w (by omega) (by omega) k0 k1
  have hx := fun w => pick10 x 50 w (by omega) (by omega) x0 x1
  have hy := fun w => pick10 y 200 w (by omega) (by omega) y0 y1
  have hx' := fun w => pick10 x 20 w (by omega) (by omega) x0 x1
  have hy' := fun w => pick10 y 100 w (by omega) (by omega) y0 y1
  have r1 := pickM_ok x 50 (by omega)
  have r2 := pickM_ok y 200 (by omega)
  have r3 := pickM_ok x 20 (by omega)
  have r4 := pickM_ok y 100 (by omega)
  unfold polM at hp
  generalize pickM kind 2 = K at *
  generalize pickM x 50 = X at *
  generalize pickM y 200 = Y at *
  generalize pickM x 20 = X' at *
  generalize pickM y 100 = Y' at *
  have u1 : IntKind.u64.wrap (1 + X) = 1 + X := by rw [IntKind.wrap_u64]; omega
  have u2 : IntKind.u64.wrap Y = Y := by rw [IntKind.wrap_u64]; omega
  have u3 : IntKind.u64.wrap X' = X' := by rw [IntKind.wrap_u64]; omega
  have u4 : IntKind.u64.wrap (1 + Y') = 1 + Y' := by rw [IntKind.wrap_u64]; omega
  have HK := hide hk
  have HX := hide hx
  have HY := hide hy
  have HX' := hide hx'
  have HY' := hide hy'
  clear hk hx hy hx' hy'
  by_cases h : K = 1
  · rw [if_pos h] at hp
    subst hp
    subst h
    go_enter Tryz.func15, Tryz.ntmps15
    go_wp2_with fail
    refine (HX.out _).mono ?_
    rintro e w1 ⟨rfl, rfl⟩
    go_wp2_with fail
    refine (HY.out _).mono ?_
    rintro e w1 ⟨rfl, rfl⟩
    go_wp2_with fail
    refine (HK.out _).mono ?_
    rintro e w1 ⟨rfl, rfl⟩
    go_wp2_with fail
    refine (HX'.out _).mono ?_
    rintro e w1 ⟨rfl, rfl⟩
    go_wp2_with fail
    refine (HY'.out _).mono ?_
    rintro e w1 ⟨rfl, rfl⟩
    go_wp2
    exact bodyPost_ret (v := .agg #[.int .u8 2, .int .u64 X', .int .u64 (1 + Y')]) (by simp [results, Tryz.results15, go_sem]) rfl ⟨rfl, ((Below.refl _ w).alloc (Nat.le_refl _) _).alloc (by simp) _⟩
  · rw [if_neg h] at hp
    subst hp
    have h' : (K == 1) = false := by simpa using h
    go_enter Tryz.func15, Tryz.ntmps15
    go_wp2_with fail
    refine (HX.out _).mono ?_
    rintro e w1 ⟨rfl, rfl⟩
    go_wp2_with fail
    refine (HY.out _).mono ?_
    rintro e w1 ⟨rfl, rfl⟩
    go_wp2_with fail
    refine (HK.out _).mono ?_
    rintro e w1 ⟨rfl, rfl⟩
    go_wp2
    exact bodyPost_ret (v := .agg #[.int .u8 1, .int .u64 (1 + X), .int .u64 Y]) (by simp [results, Tryz.results15, go_sem]) rfl ⟨rfl, ((Below.refl _ w).alloc (Nat.le_refl _) _).alloc (by simp) _⟩
end Go.Proofs.YtnlgndpcddngoaaGreatDoor
