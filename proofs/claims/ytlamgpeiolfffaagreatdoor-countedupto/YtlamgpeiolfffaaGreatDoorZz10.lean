import Derived.Test.YtlamgpeiolfffaaGreatDoorZz05
import Derived.Test.YtlamgpeiolfffaaGreatDoorZz06
import Derived.Test.YtlamgpeiolfffaaGreatDoorZz01
import Derived.Test.YtlamgpeiolfffaaGreatDoorZz02
import Derived.Test.YtlamgpeiolfffaaGreatDoorZz09
import Derived.Deep.RegionWith
import Derived.Test.YtlamgpeiolfffaaGreatDoorZz08
import Derived.Laws.AppendOwnNone
namespace Go.Proofs.YtlamgpeiolfffaaGreatDoor
open Go.RowKit

theorem cell_two_up' {w2 : World} {g : Nat} (o1 o2 : Obj) (j : Nat) (hg : g < w2.heap.size) : ((w2.alloc o1).alloc o2).cell? ⟨g, j, none⟩ = w2.cell? ⟨g, j, none⟩ := by
  rw [World.cell?_alloc_past _ _ _ (by simp; omega), World.cell?_alloc_past _ _ _ hg]

set_option maxRecDepth 100000 in
set_option maxHeartbeats 2000000 in
theorem rrep_ok (g n cap : Nat) (b : Nat → Int) (w : World) (hn : 18 ≤ n) (hnc : n ≤ cap) (hn1 : n ≤ 1048576) (hg : g < w.heap.size) (hb : ∀ j, j < n → w.cell? ⟨g, j, none⟩ = some (.int .u8 (b j))) (hr : ∀ j, 0 ≤ b j ∧ b j ≤ 255) (hb0 : b 0 = 17) (hb1 : repLen (b 1) = 17) :
    Calls Tryz.prog 88 #[.slice (some ⟨g, 0, none⟩) n cap] w fun e w' => e = .returned (.tuple #[.agg #[.int .u8 (b 1), .int .u64 (rdTo (fun j => b (2 + j)) 8), .int .u64 (rdTo (fun j => b (10 + j)) 8)], .int .i64 18, .nilIface]) ∧ Below w.heap.size w w' := by
  have HB := hide hb
  have HR := hide hr
  have H1 := hide hb1
  have c0 : w.cell? ⟨g, 0, none⟩ = some (.int .u8 17) := by rw [hb 0 (by omega), hb0]
  have c1 : w.cell? ⟨g, 1, none⟩ = some (.int .u8 (b 1)) := hb 1 (by omega)
  clear hb hr hb0 hb1
  go_enter Tryz.func88, Tryz.ntmps88
  go_wp2_with fail
  refine (replies_any _).mono ?_
  rintro e w1 ⟨rfl, hb1⟩
  have hB1 : Below w.heap.size w w1 := ((Below.refl _ w).alloc (Nat.le_refl _) _).trans (hb1.mono (by simp))
  have hs1 : w.heap.size < w1.heap.size := by have := hb1.size; simp at this; omega
  go_wp2_with fail
  refine (body_ok 17 17 129 g 0 n cap 17 w1 (by omega) hnc hn1 (by omega) (by omega) (by omega) ((hB1.cell (p := ⟨g, 0, none⟩) hg).trans c0) (fun w2 hB => by
    refine (rbegin4 g n cap 17 (b 1) w2 (by omega) (Nat.lt_of_lt_of_le (Nat.lt_trans hg hs1) hB.size) ((hB.cell (p := ⟨g, 0, none⟩) (Nat.lt_trans hg hs1)).trans ((hB1.cell (p := ⟨g, 0, none⟩) hg).trans c0)) ((hB.cell (p := ⟨g, 1, none⟩) (Nat.lt_trans hg hs1)).trans ((hB1.cell (p := ⟨g, 1, none⟩) hg).trans c1)) (by omega) (by omega)).mono ?_
    rintro e w3 ⟨rfl, hb⟩
    exact ⟨by rw [if_pos H1.out.symm], hb⟩)).mono ?_
  rintro e w2 ⟨rfl, hb2⟩
  have hB2 : Below w.heap.size w w2 := hB1.trans (hb2.mono (by omega))
  have hs2 : w.heap.size < w2.heap.size := by have := hb2.size; omega
  have hR : ∀ j, w2.cell? ⟨w.heap.size, j, none⟩ = (#[.int .u8 0, .int .u64 0, .int .u64 0] : Array Value)[j]? := fun j => (hb2.cell (p := ⟨w.heap.size, j, none⟩) hs1).trans ((hb1.cell (p := ⟨w.heap.size, j, none⟩) (by simp)).trans (cell_box w _ _ j))
  have hRf : ∀ j, w2.frozen? ⟨w.heap.size, j, none⟩ = false := fun j => (hb2.frozen (p := ⟨w.heap.size, j, none⟩) hs1).trans ((hb1.frozen (p := ⟨w.heap.size, j, none⟩) (by simp)).trans (by simp))
  clear hb1 hb2
  go_wp2_with fail
  have hg2 : g < w2.heap.size := by omega
  refine (small_more w2.heap.size g 1 17 (b 1) _ (by simp) (by simp) (by omega) (by omega) (by rw [World.cell?_alloc_lt _ _ ⟨g, 1, none⟩ hg2]; exact (hB2.cell (p := ⟨g, 1, none⟩) hg).trans c1)).mono ?_
  rintro e w3 ⟨rfl, rfl⟩
  go_wp2_with fail
  refine (number_any w2.heap.size g 2 16 (fun j => b (2 + j)) _ (by simp) (by simp) (by omega) (by omega) (fun j hj => by rw [cell_two_up' _ _ _ hg2]; exact (hB2.cell (p := ⟨g, 2 + j, none⟩) hg).trans (HB.out (2 + j) (by omega))) (fun j => HR.out (2 + j))).mono ?_
  rintro e w4 ⟨rfl, ao, rfl, hao⟩
  obtain rfl := hao (by omega)
  clear hao
  go_wp2_with fail
  refine (number_any w2.heap.size g 10 8 (fun j => b (10 + j)) _ (by simp) (by simp) (by omega) (by omega) (fun j hj => by rw [cell_two_up' _ _ _ hg2]; exact (hB2.cell (p := ⟨g, 10 + j, none⟩) hg).trans (HB.out (10 + j) (by omega))) (fun j => HR.out (10 + j))).mono ?_
  rintro e w5 ⟨rfl, ao, rfl, -⟩
  clear c0 c1
  have hne : ¬ w.heap.size = w2.heap.size := by omega
  have hne' : ¬ w2.heap.size = w.heap.size := by omega
  go_wp2
  have hs2' : w.heap.size < w2.heap.size + 1 := by omega
  refine bodyPost_ret (v := .tuple #[.agg #[.int .u8 (b 1), .int .u64 (rdTo (fun j => b (2 + j)) 8), .int .u64 (rdTo (fun j => b (10 + j)) 8)], .int .i64 18, .nilIface]) (by simp [results, Tryz.results88, go_sem, hR, hs2, hs2']) rfl ⟨rfl, ?_⟩
  refine Below.alloc ?_ (by simp; omega) _
  refine Below.alloc ?_ (by simp; omega) _
  repeat (refine Below.setCell ?_ (by first | exact Nat.le_refl _ | (show _ ≤ w2.heap.size; omega)) _)
  exact hB2

set_option maxRecDepth 100000 in
set_option maxHeartbeats 1000000 in
theorem rrep_err (v : Value) (k : Int) (w : World)
    (hbody : Hid (∀ w1, Below w.heap.size w w1 → Calls Tryz.prog 98 #[.agg #[.int .u8 17, .int .u8 17, .func (.func 129) #[] #[]], v] w1 fun e w' => e = .returned (.tuple #[.slice none 0 0, .iface 46 (.int .i64 k)]) ∧ Below w1.heap.size w1 w')) :
    Calls Tryz.prog 88 #[v] w fun e w' => e = .returned (.tuple #[.agg #[.int .u8 0, .int .u64 0, .int .u64 0], .int .i64 0, .iface 46 (.int .i64 k)]) ∧ Below w.heap.size w w' := by
  go_enter Tryz.func88, Tryz.ntmps88
  go_wp2_with fail
  refine (replies_any _).mono ?_
  rintro e w1 ⟨rfl, hb1⟩
  have hB1 : Below w.heap.size w w1 := ((Below.refl _ w).alloc (Nat.le_refl _) _).trans (hb1.mono (by simp))
  have hs1 : w.heap.size < w1.heap.size := by have := hb1.size; simp at this; omega
  go_wp2_with fail
  refine (hbody.out w1 hB1).mono ?_
  rintro e w2 ⟨rfl, hb2⟩
  have hB2 : Below w.heap.size w w2 := hB1.trans (hb2.mono (by omega))
  have hR : ∀ j, w2.cell? ⟨w.heap.size, j, none⟩ = (#[.int .u8 0, .int .u64 0, .int .u64 0] : Array Value)[j]? := fun j => (hb2.cell (p := ⟨w.heap.size, j, none⟩) hs1).trans ((hb1.cell (p := ⟨w.heap.size, j, none⟩) (by simp)).trans (cell_box w _ _ j))
  have hRf : ∀ j, w2.frozen? ⟨w.heap.size, j, none⟩ = false := fun j => (hb2.frozen (p := ⟨w.heap.size, j, none⟩) hs1).trans ((hb1.frozen (p := ⟨w.heap.size, j, none⟩) (by simp)).trans (by simp))
  clear hb1 hb2
  go_wp2
  refine bodyPost_ret (v := .tuple #[.agg #[.int .u8 0, .int .u64 0, .int .u64 0], .int .i64 0, .iface 46 (.int .i64 k)]) (by simp [results, Tryz.results88, go_sem, hR]) rfl ⟨rfl, ?_⟩
  repeat (refine Below.setCell ?_ (by first | exact Nat.le_refl _ | (show _ ≤ w2.heap.size; omega)) _)
  exact hB2

/-- What is wrong with bytes, read as a reply (P4). -/
def rpErr (bs : List Int) : Int :=
  match bs with
  | [] => 1
  | b0 :: t => if b0 < 17 ∨ 17 < b0 then 2 else
    match t with
    | [] => 1
    | b1 :: _ => if b0 = repLen b1 then (if (bs.length : Int) ≤ b0 then 1 else 0) else 2
def rpN (bs : List Int) : Int := if rpErr bs = 0 then 18 else 0
def rpQ (bs : List Int) : Rp := if rpErr bs = 0 then ⟨bs.getD 1 0, num8 bs 2, num8 bs 10⟩ else ⟨0, 0, 0⟩

theorem read29_nil (ao : Option Addr) (cap : Nat) (w : World) :
    Calls Tryz.prog 88 #[.slice ao 0 cap] w fun e w' => e = .returned (.tuple #[.agg #[.int .u8 0, .int .u64 0, .int .u64 0], .int .i64 0, .iface 46 (.int .i64 1)]) ∧ Below w.heap.size w w' := by
  refine rrep_err _ 1 w ?_
  intro w1 _
  refine body_short 17 17 129 _ w1 ?_
  intro w2 _
  exact rbegin0 ao cap w2

theorem read29_bs (g cap n : Nat) (bs : List Int) (w : World) (hnl : bs.length = n) (hnp : 0 < n) (hcap : n ≤ cap) (hlen : n ≤ 1048576) (hg : g < w.heap.size)
    (hc : ∀ j, j < n → w.cell? ⟨g, j, none⟩ = some (.int .u8 (bs.getD j 0))) (hr : ∀ j, 0 ≤ bs.getD j 0 ∧ bs.getD j 0 ≤ 255) (r : Rp) (hq : r = rpQ bs) (m er : Int) (hm : m = rpN bs) (her : er = rpErr bs) :
    Calls Tryz.prog 88 #[.slice (some ⟨g, 0, none⟩) n cap] w fun e w' => e = .returned (.tuple #[.agg #[.int .u8 r.c, .int .u64 r.a, .int .u64 r.b], .int .i64 m, errV er]) ∧ Below w.heap.size w w' := by
  subst hq hm her
  have bad : ∀ k, rpErr bs = k → k ≠ 0 → (Hid (∀ w1, Below w.heap.size w w1 → Calls Tryz.prog 98 #[.agg #[.int .u8 17, .int .u8 17, .func (.func 129) #[] #[]], .slice (some ⟨g, 0, none⟩) n cap] w1 fun e w' => e = .returned (.tuple #[.slice none 0 0, .iface 46 (.int .i64 k)]) ∧ Below w1.heap.size w1 w')) →
      Calls Tryz.prog 88 #[.slice (some ⟨g, 0, none⟩) n cap] w fun e w' => e = .returned (.tuple #[.agg #[.int .u8 (rpQ bs).c, .int .u64 (rpQ bs).a, .int .u64 (rpQ bs).b], .int .i64 (rpN bs), errV (rpErr bs)]) ∧ Below w.heap.size w w' := by
    intro k hk hk0 hbody
    have e0 : ¬ rpErr bs = 0 := by omega
    have e2 : rpQ bs = ⟨0, 0, 0⟩ := by unfold rpQ; rw [if_neg e0]
    have e3 : rpN bs = 0 := by unfold rpN; rw [if_neg e0]
    have e4 : errV (rpErr bs) = .iface 46 (.int .i64 k) := by rw [hk]; unfold errV; rw [if_neg hk0]
    rw [e2, e3, e4]
    exact rrep_err _ k w hbody
  cases bs with
  | nil => simp at hnl; omega
  | cons b0 t =>
    have c0 : w.cell? ⟨g, 0, none⟩ = some (.int .u8 b0) := hc 0 hnp
    have r0 : 0 ≤ b0 ∧ b0 ≤ 255 := hr 0
    by_cases hlo : b0 < 17
    · refine bad 2 (by simp [rpErr, hlo]) (by omega) ?_
      intro w1 hB
      refine body_frame 17 17 129 _ w1 ?_
      intro w2 hB2
      have hB3 := hB.trans (hB2.mono hB.size)
      exact rbegin1 g _ cap b0 w2 hnp (Nat.lt_of_lt_of_le hg hB3.size) ((hB3.cell (p := ⟨g, 0, none⟩) hg).trans c0) hlo
    by_cases hhi : 17 < b0
    · refine bad 2 (by simp [rpErr, hhi]) (by omega) ?_
      intro w1 hB
      refine body_frame 17 17 129 _ w1 ?_
      intro w2 hB2
      have hB3 := hB.trans (hB2.mono hB.size)
      exact rbegin2 g _ cap b0 w2 hnp (Nat.lt_of_lt_of_le hg hB3.size) ((hB3.cell (p := ⟨g, 0, none⟩) hg).trans c0) hlo hhi
    have hor : ¬ (b0 < 17 ∨ 17 < b0) := by omega
    cases t with
    | nil =>
      have h1 : n = 1 := by simpa using hnl.symm
      refine bad 1 (by simp [rpErr, hor]) (by omega) ?_
      intro w1 hB
      refine body_short 17 17 129 _ w1 ?_
      intro w2 hB2
      have hB3 := hB.trans (hB2.mono hB.size)
      exact rbegin3 g _ cap b0 w2 hnp (Nat.lt_of_lt_of_le hg hB3.size) ((hB3.cell (p := ⟨g, 0, none⟩) hg).trans c0) hlo hhi (by simp [h1])
    | cons b1 t =>
      have hn2 : 1 < n := by rw [← hnl]; simp
      have c1 : w.cell? ⟨g, 1, none⟩ = some (.int .u8 b1) := hc 1 hn2
      by_cases heq : b0 = repLen b1
      · by_cases hle : (n : Int) ≤ b0
        · refine bad 1 (by simp only [rpErr]; rw [if_neg hor, if_pos heq, if_pos (by rw [hnl]; exact hle)]) (by omega) ?_
          intro w1 hB
          refine body_short2 17 17 129 g 0 _ cap b0 w1 hnp r0.1 r0.2 (Nat.lt_of_lt_of_le hg hB.size) ((hB.cell (p := ⟨g, 0, none⟩) hg).trans c0) hle ?_
          intro w2 hB2
          have hB3 := hB.trans (hB2.mono hB.size)
          refine (rbegin4 g _ cap b0 b1 w2 hn2 (Nat.lt_of_lt_of_le hg hB3.size) ((hB3.cell (p := ⟨g, 0, none⟩) hg).trans c0) ((hB3.cell (p := ⟨g, 1, none⟩) hg).trans c1) hlo hhi).mono ?_
          rintro e w3 ⟨rfl, hb⟩
          exact ⟨by rw [if_pos heq], hb⟩
        · have e1 : rpErr (b0 :: b1 :: t) = 0 := by simp only [rpErr]; rw [if_neg hor, if_pos heq, if_neg (by rw [hnl]; exact hle)]
          have e2 : rpQ (b0 :: b1 :: t) = ⟨b1, num8 (b0 :: b1 :: t) 2, num8 (b0 :: b1 :: t) 10⟩ := by unfold rpQ; rw [if_pos e1]; rfl
          have e3 : rpN (b0 :: b1 :: t) = 18 := by unfold rpN; rw [if_pos e1]
          have h17 : b0 = 17 := by omega
          rw [e1, e2, e3]
          exact rrep_ok g n cap (fun j => (b0 :: b1 :: t).getD j 0) w (by omega) hcap hlen hg hc hr h17 (by show repLen b1 = 17; omega)
      · refine bad 2 (by simp only [rpErr]; rw [if_neg hor, if_neg heq]) (by omega) ?_
        intro w1 hB
        refine body_frame 17 17 129 _ w1 ?_
        intro w2 hB2
        have hB3 := hB.trans (hB2.mono hB.size)
        refine (rbegin4 g _ cap b0 b1 w2 hn2 (Nat.lt_of_lt_of_le hg hB3.size) ((hB3.cell (p := ⟨g, 0, none⟩) hg).trans c0) ((hB3.cell (p := ⟨g, 1, none⟩) hg).trans c1) hlo hhi).mono ?_
        rintro e w3 ⟨rfl, hb⟩
        exact ⟨by rw [if_neg heq], hb⟩
end Go.Proofs.YtlamgpeiolfffaaGreatDoor

namespace Go.Proofs.YtlamgpeiolfffaaGreatDoor
open Go.RowKit

set_option maxRecDepth 100000 in
set_option maxHeartbeats 1000000 in
theorem rr18_nil (ao : Option Addr) (cap : Nat) (w : World)  :
    Calls Tryz.prog 52 #[.slice ao 0 cap] w fun e w' => e = .returned (.tuple #[.agg #[.int .u8 0, .int .u64 0, .int .u64 0], .int .i64 0, .int .i64 1]) ∧ Below w.heap.size w w' := by
  go_enter Tryz.func52, Tryz.ntmps52
  go_wp2
  refine bodyPost_ret (v := .tuple #[.agg #[.int .u8 0, .int .u64 0, .int .u64 0], .int .i64 0, .int .i64 1]) (by simp [results, Tryz.results52, go_sem]) rfl ⟨rfl, ?_⟩
  exact (Below.refl _ w).alloc (Nat.le_refl _) _

set_option maxRecDepth 100000 in
set_option maxHeartbeats 1000000 in
theorem rr18_head (g so n cap : Nat) (b0 : Int) (w : World) (hn : 0 < n) (hg : g < w.heap.size) (hc0 : w.cell? ⟨g, so, none⟩ = some (.int .u8 b0)) (h0 : ¬ b0 = 17) :
    Calls Tryz.prog 52 #[.slice (some ⟨g, so, none⟩) n cap] w fun e w' => e = .returned (.tuple #[.agg #[.int .u8 0, .int .u64 0, .int .u64 0], .int .i64 0, .int .i64 2]) ∧ Below w.heap.size w w' := by
  have hn0 : (0 : Int) < n := by omega
  have hnd : decide ((0 : Int) < n) = true := by simpa using hn0
  have hc0' : ∀ o1, (w.alloc o1).cell? ⟨g, so, none⟩ = some (.int .u8 b0) := fun o1 => by rw [World.cell?_alloc_past _ _ _ hg]; exact hc0
  have hz : (b0 != 17) = true := by simpa using h0
  go_enter Tryz.func52, Tryz.ntmps52
  go_wp2
  refine bodyPost_ret (v := .tuple #[.agg #[.int .u8 0, .int .u64 0, .int .u64 0], .int .i64 0, .int .i64 2]) (by simp [results, Tryz.results52, go_sem]) rfl ⟨rfl, ?_⟩
  exact (Below.refl _ w).alloc (Nat.le_refl _) _

set_option maxRecDepth 100000 in
set_option maxHeartbeats 1000000 in
theorem rr18_one (g so n cap : Nat) (b0 : Int) (w : World) (hn : 0 < n) (hg : g < w.heap.size) (hc0 : w.cell? ⟨g, so, none⟩ = some (.int .u8 b0)) (h0 : b0 = 17) (hn1 : n = 1) :
    Calls Tryz.prog 52 #[.slice (some ⟨g, so, none⟩) n cap] w fun e w' => e = .returned (.tuple #[.agg #[.int .u8 0, .int .u64 0, .int .u64 0], .int .i64 0, .int .i64 1]) ∧ Below w.heap.size w w' := by
  have hn0 : (0 : Int) < n := by omega
  have hnd : decide ((0 : Int) < n) = true := by simpa using hn0
  have hc0' : ∀ o1, (w.alloc o1).cell? ⟨g, so, none⟩ = some (.int .u8 b0) := fun o1 => by rw [World.cell?_alloc_past _ _ _ hg]; exact hc0
  subst h0
  have _ := hn
  have hn2 : decide ((1 : Int) < n) = false := by simp; omega
  have hlt : decide ((n : Int) < 18) = true := by simp; omega
  go_enter Tryz.func52, Tryz.ntmps52
  go_wp2
  refine bodyPost_ret (v := .tuple #[.agg #[.int .u8 0, .int .u64 0, .int .u64 0], .int .i64 0, .int .i64 1]) (by simp [results, Tryz.results52, go_sem]) rfl ⟨rfl, ?_⟩
  exact (Below.refl _ w).alloc (Nat.le_refl _) _

set_option maxRecDepth 100000 in
set_option maxHeartbeats 1000000 in
theorem rr18_low (g so n cap : Nat) (b0 : Int) (w : World) (hn : 0 < n) (hg : g < w.heap.size) (hc0 : w.cell? ⟨g, so, none⟩ = some (.int .u8 b0)) (h0 : b0 = 17) (hn1 : 1 < n) (b1 : Int) (hc1 : w.cell? ⟨g, so + 1, none⟩ = some (.int .u8 b1)) (hlo : b1 < 1) :
    Calls Tryz.prog 52 #[.slice (some ⟨g, so, none⟩) n cap] w fun e w' => e = .returned (.tuple #[.agg #[.int .u8 0, .int .u64 0, .int .u64 0], .int .i64 0, .int .i64 2]) ∧ Below w.heap.size w w' := by
  have hn0 : (0 : Int) < n := by omega
  have hnd : decide ((0 : Int) < n) = true := by simpa using hn0
  have hc0' : ∀ o1, (w.alloc o1).cell? ⟨g, so, none⟩ = some (.int .u8 b0) := fun o1 => by rw [World.cell?_alloc_past _ _ _ hg]; exact hc0
  subst h0
  have hn2 : decide ((1 : Int) < n) = true := by simp; omega
  have hnI : (1 : Int) < n := by omega
  have hc1' : ∀ o1, (w.alloc o1).cell? ⟨g, so + 1, none⟩ = some (.int .u8 b1) := fun o1 => by rw [World.cell?_alloc_past _ _ _ hg]; exact hc1
  have hd1 : decide (b1 < 1) = true := by simpa using hlo
  go_enter Tryz.func52, Tryz.ntmps52
  go_wp2
  refine bodyPost_ret (v := .tuple #[.agg #[.int .u8 0, .int .u64 0, .int .u64 0], .int .i64 0, .int .i64 2]) (by simp [results, Tryz.results52, go_sem]) rfl ⟨rfl, ?_⟩
  exact (Below.refl _ w).alloc (Nat.le_refl _) _

set_option maxRecDepth 100000 in
set_option maxHeartbeats 1000000 in
theorem rr18_high (g so n cap : Nat) (b0 : Int) (w : World) (hn : 0 < n) (hg : g < w.heap.size) (hc0 : w.cell? ⟨g, so, none⟩ = some (.int .u8 b0)) (h0 : b0 = 17) (hn1 : 1 < n) (b1 : Int) (hc1 : w.cell? ⟨g, so + 1, none⟩ = some (.int .u8 b1)) (hlo : ¬ b1 < 1) (hhi : 9 < b1) :
    Calls Tryz.prog 52 #[.slice (some ⟨g, so, none⟩) n cap] w fun e w' => e = .returned (.tuple #[.agg #[.int .u8 0, .int .u64 0, .int .u64 0], .int .i64 0, .int .i64 2]) ∧ Below w.heap.size w w' := by
  have hn0 : (0 : Int) < n := by omega
  have hnd : decide ((0 : Int) < n) = true := by simpa using hn0
  have hc0' : ∀ o1, (w.alloc o1).cell? ⟨g, so, none⟩ = some (.int .u8 b0) := fun o1 => by rw [World.cell?_alloc_past _ _ _ hg]; exact hc0
  subst h0
  have hn2 : decide ((1 : Int) < n) = true := by simp; omega
  have hnI : (1 : Int) < n := by omega
  have hc1' : ∀ o1, (w.alloc o1).cell? ⟨g, so + 1, none⟩ = some (.int .u8 b1) := fun o1 => by rw [World.cell?_alloc_past _ _ _ hg]; exact hc1
  have hd1 : decide (b1 < 1) = false := by simpa using hlo
  have hd2 : decide (9 < b1) = true := by simpa using hhi
  go_enter Tryz.func52, Tryz.ntmps52
  go_wp2
  refine bodyPost_ret (v := .tuple #[.agg #[.int .u8 0, .int .u64 0, .int .u64 0], .int .i64 0, .int .i64 2]) (by simp [results, Tryz.results52, go_sem]) rfl ⟨rfl, ?_⟩
  exact (Below.refl _ w).alloc (Nat.le_refl _) _

set_option maxRecDepth 100000 in
set_option maxHeartbeats 1000000 in
theorem rr18_short (g so n cap : Nat) (b0 : Int) (w : World) (hn : 0 < n) (hg : g < w.heap.size) (hc0 : w.cell? ⟨g, so, none⟩ = some (.int .u8 b0)) (h0 : b0 = 17) (hn1 : 1 < n) (b1 : Int) (hc1 : w.cell? ⟨g, so + 1, none⟩ = some (.int .u8 b1)) (hlo : ¬ b1 < 1) (hhi : ¬ 9 < b1) (hs : n < 18) :
    Calls Tryz.prog 52 #[.slice (some ⟨g, so, none⟩) n cap] w fun e w' => e = .returned (.tuple #[.agg #[.int .u8 0, .int .u64 0, .int .u64 0], .int .i64 0, .int .i64 1]) ∧ Below w.heap.size w w' := by
  have hn0 : (0 : Int) < n := by omega
  have hnd : decide ((0 : Int) < n) = true := by simpa using hn0
  have hc0' : ∀ o1, (w.alloc o1).cell? ⟨g, so, none⟩ = some (.int .u8 b0) := fun o1 => by rw [World.cell?_alloc_past _ _ _ hg]; exact hc0
  subst h0
  have hn2 : decide ((1 : Int) < n) = true := by simp; omega
  have hnI : (1 : Int) < n := by omega
  have hc1' : ∀ o1, (w.alloc o1).cell? ⟨g, so + 1, none⟩ = some (.int .u8 b1) := fun o1 => by rw [World.cell?_alloc_past _ _ _ hg]; exact hc1
  have hd1 : decide (b1 < 1) = false := by simpa using hlo
  have hd2 : decide (9 < b1) = false := by simpa using hhi
  have hlt : decide ((n : Int) < 18) = true := by simp; omega
  go_enter Tryz.func52, Tryz.ntmps52
  go_wp2
  refine bodyPost_ret (v := .tuple #[.agg #[.int .u8 0, .int .u64 0, .int .u64 0], .int .i64 0, .int .i64 1]) (by simp [results, Tryz.results52, go_sem]) rfl ⟨rfl, ?_⟩
  exact (Below.refl _ w).alloc (Nat.le_refl _) _

set_option maxRecDepth 100000 in
set_option maxHeartbeats 1000000 in
theorem rr18_ok (g so n cap : Nat) (b : Nat → Int) (w : World) (hn : 18 ≤ n) (hnc : n ≤ cap) (hn1 : n ≤ 1048576) (hg : g < w.heap.size) (hb : ∀ j, j < n → w.cell? ⟨g, so + j, none⟩ = some (.int .u8 (b j))) (hr : ∀ j, 0 ≤ b j ∧ b j ≤ 255) (hb0 : b 0 = 17) (hlo : ¬ b 1 < 1) (hhi : ¬ 9 < b 1) :
    Calls Tryz.prog 52 #[.slice (some ⟨g, so, none⟩) n cap] w fun e w' => e = .returned (.tuple #[.agg #[.int .u8 (b 1), .int .u64 (rdTo (fun j => b (2 + j)) 8), .int .u64 (rdTo (fun j => b (10 + j)) 8)], .int .i64 18, .int .i64 0]) ∧ Below w.heap.size w w' := by
  have hn0 : (0 : Int) < n := by omega
  have hnd : decide ((0 : Int) < n) = true := by simpa using hn0
  have hn2 : decide ((1 : Int) < n) = true := by simp; omega
  have hnI : (1 : Int) < n := by omega
  have hnI2 : (2 : Int) ≤ n := by omega
  have hnI10 : (10 : Int) ≤ n := by omega
  have hncI : (n : Int) ≤ cap := by omega
  have hcap : ¬ cap = 2 := by omega
  have hcap2 : ¬ cap = 10 := by omega
  have hlt : decide ((n : Int) < 18) = false := by simp; omega
  have hd1 : decide (b 1 < 1) = false := by simpa using hlo
  have hd2 : decide (9 < b 1) = false := by simpa using hhi
  have hcj : ∀ o1 j, j < n → (w.alloc o1).cell? ⟨g, so + j, none⟩ = some (.int .u8 (b j)) := fun o1 j hj => by rw [World.cell?_alloc_past _ _ _ hg]; exact hb j hj
  have HC := hide hcj
  have HR := hide hr
  have hc0' : ∀ o1, (w.alloc o1).cell? ⟨g, so, none⟩ = some (.int .u8 17) := fun o1 => (hcj o1 0 (by omega)).trans (by rw [hb0])
  have hc1' : ∀ o1, (w.alloc o1).cell? ⟨g, so + 1, none⟩ = some (.int .u8 (b 1)) := fun o1 => hcj o1 1 (by omega)
  clear hb hr hcj hb0
  go_enter Tryz.func52, Tryz.ntmps52
  go_wp2_with fail
  refine (refread g (so + 2) (n - 2) (cap - 2) (fun j => b (2 + j)) _ (by omega) (by omega) (fun j hj => by rw [Nat.add_assoc]; exact HC.out _ (2 + j) (by omega)) (fun j => HR.out (2 + j))).mono ?_
  rintro e w' ⟨rfl, rfl⟩
  go_wp2_with fail
  refine (refread g (so + 10) (n - 10) (cap - 10) (fun j => b (10 + j)) _ (by omega) (by omega) (fun j hj => by rw [Nat.add_assoc]; exact HC.out _ (10 + j) (by omega)) (fun j => HR.out (10 + j))).mono ?_
  rintro e w' ⟨rfl, rfl⟩
  go_wp2
  refine bodyPost_ret (v := .tuple #[.agg #[.int .u8 (b 1), .int .u64 (rdTo (fun j => b (2 + j)) 8), .int .u64 (rdTo (fun j => b (10 + j)) 8)], .int .i64 18, .int .i64 0]) (by simp [results, Tryz.results52, go_sem]) rfl ⟨rfl, ?_⟩
  exact (Below.refl _ w).alloc (Nat.le_refl _) _
end Go.Proofs.YtlamgpeiolfffaaGreatDoor

namespace Go.Proofs.YtlamgpeiolfffaaGreatDoor
open Go.RowKit

/-- plain.Told, of no error and of one. -/
theorem told_any (k : Int) (w : World) (hg : w.cell? ⟨0, 0, none⟩ = some (.iface 201 (.agg #[.pointer (some ⟨1, 88, none⟩)]))) :
    Calls Tryz.prog 31 #[errV k] w fun e w' => e = .returned (.int .i64 k) ∧ Below w.heap.size w w' := by
  by_cases h : k = 0
  · subst h; exact told_nil w
  · rw [errV, if_neg h]; exact told_err k w hg

theorem own_shape {w : World} {base : Nat} {v : Value} {n : Nat} {bs : List Int} (h : w.ownsRow base 5 1 v n (bs.map (Value.int .u8))) (hnp : 0 < n) (hn : bs.length = n) :
    ∃ g cap, v = .slice (some ⟨g, 0, none⟩) n cap ∧ base ≤ g ∧ g < w.heap.size ∧ n ≤ cap ∧ ∀ j, j < n → w.cell? ⟨g, j, none⟩ = some (.int .u8 (bs.getD j 0)) := by
  rcases h.2 with ⟨_, h0⟩ | ⟨g, cap, cur, hv, hb, hg, hnc, _⟩
  · omega
  · refine ⟨g, cap, hv, hb, (Array.getElem?_eq_some_iff.1 hg).1, hnc, fun j hj => ?_⟩
    subst hv
    rw [h.cellAt j (by omega)]
    simp [List.getD, List.getElem?_eq_getElem (show j < bs.length by omega)]

/-- A slice whose bytes are these. -/
def Src (w : World) (vb : Value) (bs : List Int) : Prop :=
  (bs = [] ∧ (vb = .slice none 0 0 ∨ ∃ sg so cap, vb = .slice (some ⟨sg, so, none⟩) 0 cap)) ∨
  (0 < bs.length ∧ ∃ sg so cap, vb = .slice (some ⟨sg, so, none⟩) bs.length cap ∧ sg < w.heap.size ∧ ∀ j u, (bs.map (Value.int .u8))[j]? = some u → w.cell? ⟨sg, so + j, none⟩ = some u)

end Go.Proofs.YtlamgpeiolfffaaGreatDoor
