import Derived.Test.YtlamgpeiolfffaaGreatDoorZz10
import Derived.Test.YtlamgpeiolfffaaGreatDoorZz12
import Derived.Lib.AppendZerosOnto
import Derived.Lib.AppendZeros
import Derived.LoopN
set_option linter.unusedSectionVars false
namespace Go.Proofs.YtlamgpeiolfffaaGreatDoor
open Go.RowKit
variable [dK] [iK]

set_option maxRecDepth 100000 in
theorem grow_zero (w : World) : Calls Tryz.prog 70 #[.slice none 0 0, .int .i64 0] w fun e w' => e = .returned (.slice none 0 0) ∧ w' = w := by
  go_enter Tryz.func70, Tryz.ntmps70
  go_wp2
  go_ret
  exact ⟨rfl, rfl⟩

set_option maxRecDepth 100000 in
set_option maxHeartbeats 1000000 in
theorem grow_pos (n : Nat) (hn : 0 < n) (hn1 : n ≤ 4194304) (w : World) :
    Calls Tryz.prog 70 #[.slice none 0 0, .int .i64 n] w fun e w' => ∃ v, e = .returned v ∧ w'.ownsRow w.heap.size 5 1 v 0 [] ∧ Below w.heap.size w w' := by
  obtain ⟨i0, hi, hz0, hz1, hz2⟩ := info_parts Tryz.info5
  have hold : (Builtin.firstCells i0.size 0 (.slice none 0 0)).run Tryz.prog w.drew = .ok ([] : List Value).toArray w.drew := run_firstCells_none w.drew i0.size 0 0 0
  have hrz : ∀ ty, (Builtin.append_ #[69, 3] ty #[.slice none 0 0, .int .i64 n]).run Tryz.prog w =
      .ok (.slice (some ⟨w.heap.size, 0, none⟩) n (grownCap w n 0 5)) (w.drew.alloc (.cells (([] : List Value).toArray ++ Builtin.zeroCells (Value.int .u8 0).cells n ++ Builtin.zeroCells (Value.int .u8 0).cells (grownCap w n 0 5 - n)) 5)) := fun ty => by
    have h := Lib.run_append_grow_zeros (P := Tryz.prog) w 69 3 ty 5 i0 (.int .u8 0) .i64 .i64 Tryz.underlying69 Tryz.underlying3 hi hz0 none 0 0 [] hold n hn (by omega) (by omega) (by omega) (by rw [hz2]; omega)
      (by rw [Nat.zero_add]; exact growslice_fits (by omega) (by rw [hz2]; omega))
    rw [Nat.zero_add] at h
    exact h
  have hGn : n ≤ grownCap w n 0 5 := grownCap_ge w _ _ _
  have hGm := grownCap_le_maxLen w n 0 5 (by unfold maxLen; omega)
  obtain ⟨G, hG⟩ : ∃ G, G = grownCap w n 0 5 := ⟨_, rfl⟩
  rw [← hG] at hrz hGn hGm
  clear hold hG
  have hGm' : G ≤ 9223372036854775807 := by unfold maxLen at hGm; omega
  have h1 : ¬ ((n : Int) < 0) := by omega
  have h4 : (n : Int) > 0 := by omega
  go_enter Tryz.func70, Tryz.ntmps70
  go_wp2_with (at_builtin; refine Lib.wpList_append_run _ rfl _ _ _ _ rfl _ _ rfl rfl _ _ (hrz _) ?_)
  go_ret
  refine ⟨_, rfl, ⟨rfl, Or.inr ⟨w.heap.size, G, _, rfl, Nat.le_refl _, heapN (by simp), Nat.zero_le _, hGm, ?_, by simp⟩⟩, ((Below.refl _ w).drew).alloc (Nat.le_refl _) _⟩
  simp [Builtin.zeroCells]
  omega
end Go.Proofs.YtlamgpeiolfffaaGreatDoor

namespace Go.Proofs.YtlamgpeiolfffaaGreatDoor
open Go.RowKit
variable [dK] [iK]

theorem Src.shape {w : World} {v : Value} {bs : List Int} (h : Src w v bs) : ∃ a c, v = .slice a bs.length c := by
  rcases h with ⟨rfl, rfl | ⟨sg, so, cap, rfl⟩⟩ | ⟨_, sg, so, cap, rfl, _⟩
  · exact ⟨_, _, rfl⟩
  · exact ⟨_, _, rfl⟩
  · exact ⟨_, _, rfl⟩
theorem Src.kept {w w' : World} {v : Value} {bs : List Int} (h : Src w v bs) (hs : w.heap.size ≤ w'.heap.size) (hk : ∀ g o n c, v = .slice (some ⟨g, o, none⟩) n c → g < w.heap.size → w'.heap[g]? = w.heap[g]?) : Src w' v bs := by
  rcases h with h | ⟨h1, sg, so, cap, rfl, h2, h3⟩
  · exact Or.inl h
  · exact Or.inr ⟨h1, sg, so, cap, rfl, Nat.lt_of_lt_of_le h2 hs, fun j u hj => (World.cell?_of_block (w := w) (hk sg so _ _ rfl h2)).trans (h3 j u hj)⟩
theorem Src.below {w w' : World} {v : Value} {bs : List Int} {B : Nat} (h : Src w v bs) (hb : Below B w w') (hB : w.heap.size ≤ B) : Src w' v bs :=
  h.kept hb.size fun g _ _ _ _ hg => hb.block g (Nat.lt_of_lt_of_le hg hB)
theorem Src.of_own {w : World} {base : Nat} {v : Value} {n : Nat} {bs : List Int} (h : w.ownsRow base 5 1 v n (bs.map (Value.int .u8))) : Src w v bs := by
  have hn : bs.length = n := by simpa using h.1
  rcases h.2 with ⟨h1, h2⟩ | ⟨g, cap, cur, hv, hb, hg, hnc, _⟩
  · exact Or.inl ⟨List.length_eq_zero_iff.1 (hn.trans h2), Or.inl h1⟩
  · by_cases h0 : bs = []
    · subst h0
      simp at hn
      subst hn
      exact Or.inl ⟨rfl, Or.inr ⟨g, 0, cap, hv⟩⟩
    · have hp : 0 < bs.length := List.length_pos_iff.2 h0
      obtain ⟨g, cap, hv, _, hgl, _, hc⟩ := own_shape h (by omega) hn
      refine Or.inr ⟨hp, g, 0, cap, by rw [hv, hn], hgl, fun j u hj => ?_⟩
      have hjl : j < bs.length := by
        have := (List.getElem?_eq_some_iff.1 hj).1
        simpa using this
      rw [Nat.zero_add, hc j (by omega), ← hj]
      simp [List.getD, List.getElem?_eq_getElem hjl]

/-- append of bytes, from whatever slice. -/
theorem wpList_append_src {ops : Array Oper} {rest : List Oper} {o : Oper} {a : Act} {Q : Exit → Act → World → Prop} {w : World} (hgd : o.guard = none) (s x : Operand)
    (ho : o.op = .call { callee := .builtin .append, args := #[s, x], argTypes := #[69, 69] }) (base : Nat) (v : Value) (n : Nat) (b0 : List Int) (hs : a.eval s = v) (hown : w.ownsRow base 5 1 v n (b0.map (Value.int .u8)))
    (vx : Value) (bs : List Int) (hx : a.eval x = vx) (hsrc : Src w vx bs) (hb : n + bs.length ≤ 4194304) (hbase : base ≤ w.heap.size)
    (h : ∀ v' w', w'.ownsRow base 5 1 v' (n + bs.length) ((b0 ++ bs).map (Value.int .u8)) → w.grownBy w' v.ownBlock → wpList Tryz.prog ops Q rest (a.put o.dst v') w') : wpList Tryz.prog ops Q (o :: rest) a w := by
  obtain ⟨i0, hi, hz0, hz1, hz2⟩ := info_parts Tryz.info5
  have main : ∀ (ad : Addr) (m c : Nat), vx = .slice (some ad) m c → bs.length = m → (∀ j u, (bs.map (Value.int .u8))[j]? = some u → w.cell? (ad.add j) = some u) → wpList Tryz.prog ops Q (o :: rest) a w := by
    intro ad m c e1 e2 e3
    subst e1
    refine wpList_append_own (w := w) hgd s x 69 ho base 5 i0 (.int .u8 0) 1 1 Tryz.underlying69 hi hz0 hz1 hz2 rfl (by decide) v n _ hs hown ad m c (bs.map (Value.int .u8)) hx (by simpa using e2) e3 (ints_oneCell _ _) (by unfold maxLen; omega) (by omega) hbase ?_
    intro v' w' h1 h2 _
    refine h v' w' ?_ h2
    rw [e2, List.map_append]
    exact h1
  rcases hsrc with ⟨rfl, rfl | ⟨sg, so, cap, rfl⟩⟩ | ⟨_, sg, so, cap, e, _, hc⟩
  · refine wpList_append_own_none hgd s x 69 ho base 5 i0 1 Tryz.underlying69 hi v n _ hs hown hx ?_
    refine h v w ?_ (World.grownBy.refl w _)
    simpa using hown
  · exact main ⟨sg, so, none⟩ 0 cap rfl rfl (fun j u hj => by simp at hj)
  · exact main ⟨sg, so, none⟩ bs.length cap e rfl (fun j u hj => by rw [Addr.add_lit]; exact hc j u hj)

theorem grow_any (n : Nat) (k : Int) (hk : k = n) (hn1 : n ≤ 4194304) (w : World) :
    Calls Tryz.prog 70 #[.slice none 0 0, .int .i64 k] w fun e w' => ∃ v, e = .returned v ∧ w'.ownsRow w.heap.size 5 1 v 0 (([] : List Int).map (Value.int .u8)) ∧ Below w.heap.size w w' := by
  subst hk
  by_cases h : n = 0
  · subst h
    refine (grow_zero w).mono ?_
    rintro e w' ⟨rfl, rfl⟩
    exact ⟨_, rfl, World.ownsRow_nil _ _ _ _, Below.refl _ _⟩
  · exact grow_pos n (by omega) hn1 w

set_option maxRecDepth 100000 in
set_option maxHeartbeats 2000000 in
theorem concat2 (A : Nat) (v1 v2 : Value) (b1 b2 : List Int) (t : TypeId) (w : World) (hA : w.heap[A]? = some (.cells #[v1, v2] t)) (hs1 : Src w v1 b1) (hs2 : Src w v2 b2) (hl1 : b1.length ≤ 1048576) (hl2 : b2.length ≤ 1048576) :
    Calls Tryz.prog 45 #[.slice (some ⟨A, 0, none⟩) 2 2] w fun e w' => ∃ v', e = .returned v' ∧ w'.ownsRow w.heap.size 5 1 v' (b1.length + b2.length) ((b1 ++ b2).map (Value.int .u8)) ∧ Below w.heap.size w w' := by
  obtain ⟨x1, c1, e1⟩ := hs1.shape
  obtain ⟨x2, c2, e2⟩ := hs2.shape
  have HS1 := hide hs1
  have HS2 := hide hs2
  have lA := ltB hA
  clear hs1 hs2
  subst e1 e2
  have a1 := cellB hA
  obtain ⟨n1, hn1⟩ : ∃ n, n = b1.length := ⟨_, rfl⟩
  obtain ⟨n2, hn2⟩ : ∃ n, n = b2.length := ⟨_, rfl⟩
  rw [← hn1] at a1 hl1 ⊢
  rw [← hn2] at a1 hl2 ⊢
  have HN1 := hide hn1
  have HN2 := hide hn2
  clear hn1 hn2
  go_enter Tryz.func45, Tryz.ntmps45
  go_wp2
  refine wp_loop_rounds 3 ?_
  rw [rounds_succ]
  go_wp2
  rw [rounds_succ]
  go_wp2
  rw [rounds_succ]
  go_wp2_with fail
  refine (grow_any (n1 + n2) _ (by omega) (by omega) w).mono ?_
  rintro e w1 ⟨u0, rfl, hown0, hb0⟩
  have g1 := cellB ((hb0.block A lA).trans hA)
  have hs0 := hb0.size
  rw [← HN1.out, ← HN2.out] at g1
  clear a1
  go_wp2
  refine wp_loop_rounds 3 ?_
  rw [rounds_succ]
  go_wp2_with (at_builtin; refine wpList_append_src rfl _ _ rfl w.heap.size u0 0 [] rfl hown0 _ b1 (by exact congrArg (fun z => Value.slice x1 z c1) HN1.out) (HS1.out.below hb0 (Nat.le_refl _)) (by rw [← HN1.out]; omega) (by omega) ?_; intro u1 w2 hown1 hgr1)
  have hb2 : Below w.heap.size w w2 := hb0.grown hgr1 hs0 (fun k hk => (hown0.lt k hk).1)
  have g2 := cellB ((hb2.block A lA).trans hA)
  rw [← HN1.out, ← HN2.out] at g2
  have hs2 := hb2.size
  clear g1
  rw [rounds_succ]
  go_wp2_with (at_builtin; refine wpList_append_src rfl _ _ rfl w.heap.size u1 (0 + b1.length) ([] ++ b1) rfl hown1 _ b2 (by exact congrArg (fun z => Value.slice x2 z c2) HN2.out) (HS2.out.below hb2 (Nat.le_refl _)) (by rw [← HN1.out, ← HN2.out]; omega) (by omega) ?_; intro u2 w3 hown2 hgr2)
  have hb3 : Below w.heap.size w w3 := hb2.grown hgr2 hs2 (fun k hk => (hown1.lt k hk).1)
  rw [rounds_succ]
  go_wp2
  go_ret
  refine ⟨_, rfl, ?_, hb3⟩
  have := hown2
  rw [Nat.zero_add, ← HN1.out, ← HN2.out] at this
  exact this
end Go.Proofs.YtlamgpeiolfffaaGreatDoor
