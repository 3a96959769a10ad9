import Derived.Test.YtnlgndpcddngoaaGreatDoorZc00
import Derived.Deep.RegionLaw
set_option linter.unusedSectionVars false
namespace Go.Proofs.YtnlgndpcddngoaaGreatDoor
open Go.RowKit
variable [dK] [iK]

/-- A call of a function, by its contract, in a region that draws. -/
theorem step_fn {ops : Array Oper} {o : Oper} {a : Act} {w : World} {K : Act → World → Prop} {Q : Exit → Act → World → Prop} {E : Prop} {R : Ending → World → Prop} (hg : o.guard = none) (f : FuncId) (hcf : ∀ vs w, Sem.run Tryz.prog (callFunc f vs) w = .ok (.enter f vs) w) (xs : Array Operand) (tys : Array TypeId)
    (hop : o.op = .call { callee := .value (.func f), args := xs, argTypes := tys }) (vs : Array Value) (hx : xs.map a.eval = vs) (hC : Calls Tryz.prog f vs w R)
    (hR : ∀ e w', R e w' → ∃ v, e = .returned v ∧ K (a.put o.dst v) w') :
    if Region.wanted o (yielded ops a.tmps) = true then Oper.wp Tryz.prog o a w K Q else E := by
  have hw : Region.wanted o (yielded ops a.tmps) = true := by simp [Region.wanted, hg]
  rw [if_pos hw]
  have hr : (execOp a.eval o).run Tryz.prog w = .ok (.enter f vs) w := by
    subst hx
    simp [execOp, hop, resolve, invoke, go_sem]
    exact hcf _ _
  unfold Oper.wp
  rw [hr, Oper.upon_enter]
  refine hC.mono ?_
  intro e w' h
  obtain ⟨v, rfl, h2⟩ := hR e w' h
  exact h2

/-- append with room in a region that draws. -/
theorem step_append_fits {ops : Array Oper} {o : Oper} {a : Act} {w : World} {K : Act → World → Prop} {Q : Exit → Act → World → Prop} {E : Prop} (hg : o.guard = none) (s x : Operand) (t e : TypeId) (i0 : TypeInfo) (size : Nat)
    (ht : Tryz.prog.underlying t = some (.slice e)) (hi : Tryz.prog.info? e = some i0) (hz1 : i0.size = size)
    (hop : o.op = .call { callee := .builtin .append, args := #[s, x], argTypes := #[t, t] }) (base g k cap : Nat) (xs : List Value) (hs : a.eval s = .slice (some ⟨g, 0, none⟩) k cap) (hown : w.ownsRow base e size (.slice (some ⟨g, 0, none⟩) k cap) k xs)
    (ad : Addr) (m c : Nat) (news : List Value) (hx : a.eval x = .slice (some ad) m c) (hm : news.length = m * size) (hc : ∀ j u, news[j]? = some u → w.cell? (ad.add j) = some u) (h1 : ∀ u ∈ news, u.oneCell' = true) (hb : k + m ≤ cap)
    (hK : ∀ w', w'.ownsRow base e size (.slice (some ⟨g, 0, none⟩) (k + m) cap) (k + m) (xs ++ news) → w.grownBy w' (some g) → K (a.put o.dst (.slice (some ⟨g, 0, none⟩) (k + m) cap)) w') :
    if Region.wanted o (yielded ops a.tmps) = true then Oper.wp Tryz.prog o a w K Q else E := by
  have hw : Region.wanted o (yielded ops a.tmps) = true := by simp [Region.wanted, hg]
  rw [if_pos hw]
  obtain ⟨w', hr, h2, h3⟩ := run_append_fits (P := Tryz.prog) w base t o.type e i0 size ht hi hz1 g k cap xs hown ad m c news hm hc h1 hb
  unfold Oper.wp execOp
  simp only [hop, resolve, invoke, builtin, Sem.run_bind, Sem.run_pure, Result.andThen_ok, List.map_toArray, List.map_cons, List.map_nil, hs, hx, hr]
  exact hK w' h2 h3

theorem callAppN (vs : Array Value) (w : World) : Sem.run Tryz.prog (callFunc 69 vs) w = .ok (.enter 69 vs) w := by simp [go_sem]
theorem cell_grw {w w' : World} {g : Nat} (h : w.grownBy w' (some g)) {b : Nat} (hb : b < w.heap.size) (hne : b ≠ g) (j : Nat) : w'.cell? ⟨b, j, none⟩ = w.cell? ⟨b, j, none⟩ :=
  World.cell?_of_block (w := w) (h.block b hb (by intro e; injection e with e; exact hne e))

theorem grw_drew {w w' : World} {row : Option Nat} (h : w.grownBy w' row) : w.grownBy w'.drew row := ⟨h.os, h.tape, h.output, h.size, h.block⟩
theorem pol_lt {V w2 : World} {o : Obj} {g P : Nat} (h : ((V.alloc o).drew).grownBy w2 (some g)) (hP : P < V.heap.size) : P < w2.heap.size := by
  have h1 := h.size
  have h2 : ((V.alloc o).drew).heap.size = V.heap.size + 1 := by show (V.alloc o).heap.size = _; simp
  omega
theorem pol_up {V w2 : World} {o : Obj} {g P j : Nat} {v : Option Value} (h : ((V.alloc o).drew).grownBy w2 (some g)) (hP : P < V.heap.size) (hg : ¬ P = g) (hc : V.cell? ⟨P, j, none⟩ = v) : w2.cell? ⟨P, j, none⟩ = v := by
  have h2 : ((V.alloc o).drew).heap.size = V.heap.size + 1 := by show (V.alloc o).heap.size = _; simp
  refine (cell_grw h (by omega) hg j).trans ?_
  show (V.alloc o).cell? ⟨P, j, none⟩ = v
  rw [World.cell?_alloc_lt _ _ ⟨P, j, none⟩ hP]
  exact hc

set_option maxRecDepth 100000 in
set_option maxHeartbeats 1000000 in
theorem apol_any (g k cap base : Nat) (xs : List Value) (kd x y : Int) (w : World) (hown : w.ownsRow base 5 1 (.slice (some ⟨g, 0, none⟩) k cap) k xs) (hroom : k + 17 ≤ cap) (hx0 : 0 ≤ x) (hx1 : x ≤ 18446744073709551615) (hy0 : 0 ≤ y) (hy1 : y ≤ 18446744073709551615) :
    Calls Tryz.prog 68 #[.slice (some ⟨g, 0, none⟩) k cap, .agg #[.int .u8 kd, .int .u64 x, .int .u64 y]] w fun e w' => e = .returned (.slice (some ⟨g, 0, none⟩) (k + 17) cap) ∧ w'.ownsRow base 5 1 (.slice (some ⟨g, 0, none⟩) (k + 17) cap) (k + 17) (xs ++ ([kd] ++ be8 x ++ be8 y).map (Value.int .u8)) ∧ w.grownBy w' (some g) := by
  obtain ⟨i0, hi, hz0, hz1, hz2⟩ := info_parts Tryz.info5
  have hgl : g < w.heap.size := (hown.lt g rfl).2
  go_enter Tryz.func68, Tryz.ntmps68
  go_wp2_with fail
  obtain ⟨V, hV⟩ : ∃ V, V = w.alloc (.cells #[.int .u8 kd, .int .u64 x, .int .u64 y] 30) := ⟨_, rfl⟩
  rw [← hV]
  have hsV : V.heap.size = w.heap.size + 1 := by rw [hV]; simp
  have hcV : ∀ j, V.cell? ⟨w.heap.size, j, none⟩ = (#[.int .u8 kd, .int .u64 x, .int .u64 y] : Array Value)[j]? := fun j => by rw [hV]; exact World.cell?_alloc_at _ _ _ _ rfl
  have HGV : Hid (w.grownBy V (some g)) := hide (by rw [hV]; exact World.grownBy_alloc _ _ _)
  have HO : Hid (V.ownsRow base 5 1 (.slice (some ⟨g, 0, none⟩) k cap) k xs) := hide (by rw [hV]; exact hown.alloc _)
  obtain ⟨P, hP⟩ : ∃ P, P = w.heap.size := ⟨_, rfl⟩
  rw [← hP] at hsV hcV hgl ⊢
  have e0 : V.cell? ⟨P, 0, none⟩ = some (.int .u8 kd) := hcV 0
  have e1 : V.cell? ⟨P, 1, none⟩ = some (.int .u64 x) := hcV 1
  have e2 : V.cell? ⟨P, 2, none⟩ = some (.int .u64 y) := hcV 2
  have HSV := hide hsV
  have HPl : P < V.heap.size := by omega
  have HPg : ¬ P = g := by omega
  clear hcV hsV hown hV hP
  go_region_law (first
    | (refine step_append_fits (by rfl) _ _ 76 5 i0 1 Tryz.underlying76 hi hz1 (by rfl) base g k cap xs (by rfl) (HO.out.alloc _) ⟨V.heap.size, 0, none⟩ 1 1 [.int .u8 kd] (by rfl) (by rfl) (cell_one_new V _ _) (by simp [Value.oneCell']) (by omega) ?_; intro w2 hown2 hgrow2; have q1 := pol_up hgrow2 HPl HPg e1; have q2 := pol_up hgrow2 HPl HPg e2; have HO2 := hide hown2; have HG2 := hide hgrow2; clear hown2 hgrow2)
    | (refine step_fn (by rfl) 69 callAppN _ _ (by rfl) #[.slice (some ⟨g, 0, none⟩) (k + 1) cap, .int .u64 x] (by simp only [List.map_toArray, List.map_cons, List.map_nil]; rfl) (num_any g (k + 1) cap base _ x w2 HO2.out (by omega) hx0 hx1) ?_; rintro e w3 ⟨rfl, hown3, hgrow3⟩; refine ⟨_, rfl, ?_⟩; have r2 := (cell_grw hgrow3 (pol_lt HG2.out HPl) HPg 2).trans q2; have HO3 := hide hown3; have HG3 := hide hgrow3; clear hown3 hgrow3)
    | (refine step_fn (by rfl) 69 callAppN _ _ (by rfl) #[.slice (some ⟨g, 0, none⟩) (k + 1 + 8) cap, .int .u64 y] (by simp only [List.map_toArray, List.map_cons, List.map_nil]; rfl) (num_any g (k + 1 + 8) cap base _ y w3 HO3.out (by omega) hy0 hy1) ?_; rintro e w4 ⟨rfl, hown4, hgrow4⟩; refine ⟨_, rfl, ?_⟩; have HO4 := hide hown4; have HG4 := hide hgrow4; clear hown4 hgrow4))
  all_goals go_wp2
  all_goals go_ret
  all_goals exact ⟨rfl, by simpa [Nat.add_assoc] using HO4.out, ((HGV.out.trans (grw_drew (World.grownBy_alloc V (.cells #[.int .u8 kd] 5) (some g)))).trans HG2.out).trans (HG3.out.trans HG4.out)⟩
end Go.Proofs.YtnlgndpcddngoaaGreatDoor
