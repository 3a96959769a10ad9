import Derived.Test.YtlamgpeiolfffaaGreatDoorZz11
import Derived.LoopN
import Derived.Test.YtlamgpeiolfffaaGreatDoorZz08
import Derived.Test.YtlamgpeiolfffaaGreatDoorZz03
import Derived.Test.YtlamgpeiolfffaaGreatDoorZz04
import Derived.Test.YtlamgpeiolfffaaGreatDoorZz10
namespace Go.Proofs.YtlamgpeiolfffaaGreatDoor
open Go.RowKit

theorem Src.shape {w : World} {v : Value} {bs : List Int} (h : Src w v bs) : ∃ a c, v = .slice a bs.length c := by
  rcases h with ⟨rfl, rfl | ⟨sg, so, cap, rfl⟩⟩ | ⟨_, sg, so, cap, rfl, _⟩
  · exact ⟨_, _, rfl⟩
  · exact ⟨_, _, rfl⟩
  · exact ⟨_, _, rfl⟩
theorem Src.kept {w w' : World} {v : Value} {bs : List Int} (h : Src w v bs) (hs : w.heap.size ≤ w'.heap.size) (hk : ∀ g o n c, v = .slice (some ⟨g, o, none⟩) n c → g < w.heap.size → w'.heap[g]? = w.heap[g]?) : Src w' v bs := by
  rcases h with h | ⟨h1, sg, so, cap, rfl, h2, h3⟩
  · exact Or.inl h
  · exact Or.inr ⟨h1, sg, so, cap, rfl, Nat.lt_of_lt_of_le h2 hs, fun j u hj => (World.cell?_of_block (w := w) (hk sg so _ _ rfl h2)).trans (h3 j u hj)⟩
theorem Src.below {w w' : World} {v : Value} {bs : List Int} {B : Nat} (h : Src w v bs) (hb : Below B w w') (hB : w.heap.size ≤ B) : Src w' v bs :=
  h.kept hb.size fun g _ _ _ _ hg => hb.block g (Nat.lt_of_lt_of_le hg hB)
theorem Src.of_own {w : World} {base : Nat} {v : Value} {n : Nat} {bs : List Int} (h : w.ownsRow base 5 1 v n (bs.map (Value.int .u8))) : Src w v bs := by
  have hn : bs.length = n := by simpa using h.1
  rcases h.2 with ⟨h1, h2⟩ | ⟨g, cap, cur, hv, hb, hg, hnc, _⟩
  · exact Or.inl ⟨List.length_eq_zero_iff.1 (hn.trans h2), Or.inl h1⟩
  · by_cases h0 : bs = []
    · subst h0
      simp at hn
      subst hn
      exact Or.inl ⟨rfl, Or.inr ⟨g, 0, cap, hv⟩⟩
    · have hp : 0 < bs.length := List.length_pos_iff.2 h0
      obtain ⟨g, cap, hv, _, hgl, _, hc⟩ := own_shape h (by omega) hn
      refine Or.inr ⟨hp, g, 0, cap, by rw [hv, hn], hgl, fun j u hj => ?_⟩
      have hjl : j < bs.length := by
        have := (List.getElem?_eq_some_iff.1 hj).1
        simpa using this
      rw [Nat.zero_add, hc j (by omega), ← hj]
      simp [List.getD, List.getElem?_eq_getElem hjl]

/-- append of bytes, from whatever slice. -/
theorem wpList_append_src {ops : Array Oper} {rest : List Oper} {o : Oper} {a : Act} {Q : Exit → Act → World → Prop} {w : World} (hgd : o.guard = none) (s x : Operand)
    (ho : o.op = .call { callee := .builtin .append, args := #[s, x], argTypes := #[69, 69] }) (base : Nat) (v : Value) (n : Nat) (b0 : List Int) (hs : a.eval s = v) (hown : w.ownsRow base 5 1 v n (b0.map (Value.int .u8)))
    (vx : Value) (bs : List Int) (hx : a.eval x = vx) (hsrc : Src w vx bs) (hb : n + bs.length ≤ 4194304) (hbase : base ≤ w.heap.size)
    (h : ∀ v' w', w'.ownsRow base 5 1 v' (n + bs.length) ((b0 ++ bs).map (Value.int .u8)) → w.grownBy w' v.ownBlock → wpList Tryz.prog ops Q rest (a.put o.dst v') w') : wpList Tryz.prog ops Q (o :: rest) a w := by
  obtain ⟨i0, hi, hz0, hz1, hz2⟩ := info_parts Tryz.info5
  have main : ∀ (ad : Addr) (m c : Nat), vx = .slice (some ad) m c → bs.length = m → (∀ j u, (bs.map (Value.int .u8))[j]? = some u → w.cell? (ad.add j) = some u) → wpList Tryz.prog ops Q (o :: rest) a w := by
    intro ad m c e1 e2 e3
    subst e1
    refine wpList_append_own (w := w) hgd s x 69 ho base 5 i0 (.int .u8 0) 1 1 Tryz.underlying69 hi hz0 hz1 hz2 rfl (by decide) v n _ hs hown ad m c (bs.map (Value.int .u8)) hx (by simpa using e2) e3 (ints_oneCell _ _) (by unfold maxLen; omega) (by omega) hbase ?_
    intro v' w' h1 h2 _
    refine h v' w' ?_ h2
    rw [e2, List.map_append]
    exact h1
  rcases hsrc with ⟨rfl, rfl | ⟨sg, so, cap, rfl⟩⟩ | ⟨_, sg, so, cap, e, _, hc⟩
  · refine wpList_append_own_none hgd s x 69 ho base 5 i0 1 Tryz.underlying69 hi v n _ hs hown hx ?_
    refine h v w ?_ (World.grownBy.refl w _)
    simpa using hown
  · exact main ⟨sg, so, none⟩ 0 cap rfl rfl (fun j u hj => by simp at hj)
  · exact main ⟨sg, so, none⟩ bs.length cap e rfl (fun j u hj => by rw [Addr.add_lit]; exact hc j u hj)

theorem grow_any (n : Nat) (k : Int) (hk : k = n) (hn1 : n ≤ 4194304) (w : World) :
    Calls Tryz.prog 70 #[.slice none 0 0, .int .i64 k] w fun e w' => ∃ v, e = .returned v ∧ w'.ownsRow w.heap.size 5 1 v 0 (([] : List Int).map (Value.int .u8)) ∧ Below w.heap.size w w' := by
  subst hk
  by_cases h : n = 0
  · subst h
    refine (grow_zero w).mono ?_
    rintro e w' ⟨rfl, rfl⟩
    exact ⟨_, rfl, World.ownsRow_nil _ _ _ _, Below.refl _ _⟩
  · exact grow_pos n (by omega) hn1 w

set_option maxRecDepth 100000 in
set_option maxHeartbeats 2000000 in
theorem concat2 (A : Nat) (v1 v2 : Value) (b1 b2 : List Int) (t : TypeId) (w : World) (hA : w.heap[A]? = some (.cells #[v1, v2] t)) (hs1 : Src w v1 b1) (hs2 : Src w v2 b2) (hl1 : b1.length ≤ 1048576) (hl2 : b2.length ≤ 1048576) :
    Calls Tryz.prog 45 #[.slice (some ⟨A, 0, none⟩) 2 2] w fun e w' => ∃ v', e = .returned v' ∧ w'.ownsRow w.heap.size 5 1 v' (b1.length + b2.length) ((b1 ++ b2).map (Value.int .u8)) ∧ Below w.heap.size w w' := by
  obtain ⟨x1, c1, e1⟩ := hs1.shape
  obtain ⟨x2, c2, e2⟩ := hs2.shape
  have HS1 := hide hs1
  have HS2 := hide hs2
  have lA := ltB hA
  clear hs1 hs2
  subst e1 e2
  have a1 := cellB hA
  obtain ⟨n1, hn1⟩ : ∃ n, n = b1.length := ⟨_, rfl⟩
  obtain ⟨n2, hn2⟩ : ∃ n, n = b2.length := ⟨_, rfl⟩
  rw [← hn1] at a1 hl1 ⊢
  rw [← hn2] at a1 hl2 ⊢
  have HN1 := hide hn1
  have HN2 := hide hn2
  clear hn1 hn2
  go_enter Tryz.func45, Tryz.ntmps45
  go_wp2
  refine wp_loop_rounds 3 ?_
  rw [rounds_succ]
  go_wp2
  rw [rounds_succ]
  go_wp2
  rw [rounds_succ]
  go_wp2_with fail
  refine (grow_any (n1 + n2) _ (by omega) (by omega) w).mono ?_
  rintro e w1 ⟨u0, rfl, hown0, hb0⟩
  have g1 := cellB ((hb0.block A lA).trans hA)
  have hs0 := hb0.size
  rw [← HN1.out, ← HN2.out] at g1
  clear a1
  go_wp2
  refine wp_loop_rounds 3 ?_
  rw [rounds_succ]
  go_wp2_with (at_builtin; refine wpList_append_src rfl _ _ rfl w.heap.size u0 0 [] rfl hown0 _ b1 (by exact congrArg (fun z => Value.slice x1 z c1) HN1.out) (HS1.out.below hb0 (Nat.le_refl _)) (by rw [← HN1.out]; omega) (by omega) ?_; intro u1 w2 hown1 hgr1)
  have hb2 : Below w.heap.size w w2 := hb0.grown hgr1 hs0 (fun k hk => (hown0.lt k hk).1)
  have g2 := cellB ((hb2.block A lA).trans hA)
  rw [← HN1.out, ← HN2.out] at g2
  have hs2 := hb2.size
  clear g1
  rw [rounds_succ]
  go_wp2_with (at_builtin; refine wpList_append_src rfl _ _ rfl w.heap.size u1 (0 + b1.length) ([] ++ b1) rfl hown1 _ b2 (by exact congrArg (fun z => Value.slice x2 z c2) HN2.out) (HS2.out.below hb2 (Nat.le_refl _)) (by rw [← HN1.out, ← HN2.out]; omega) (by omega) ?_; intro u2 w3 hown2 hgr2)
  have hb3 : Below w.heap.size w w3 := hb2.grown hgr2 hs2 (fun k hk => (hown1.lt k hk).1)
  rw [rounds_succ]
  go_wp2
  go_ret
  refine ⟨_, rfl, ?_, hb3⟩
  have := hown2
  rw [Nat.zero_add, ← HN1.out, ← HN2.out] at this
  exact this
end Go.Proofs.YtlamgpeiolfffaaGreatDoor

namespace Go.Proofs.YtlamgpeiolfffaaGreatDoor
open Go.RowKit

/-- A slice of bytes, with room behind them or none. -/
def Sl (w : World) (vb : Value) (bs : List Int) : Prop :=
  (bs = [] ∧ (vb = .slice none 0 0 ∨ ∃ g o c, vb = .slice (some ⟨g, o, none⟩) 0 c)) ∨
  (0 < bs.length ∧ ∃ g o c, vb = .slice (some ⟨g, o, none⟩) bs.length c ∧ bs.length ≤ c ∧ g < w.heap.size ∧ ∀ j, j < bs.length → w.cell? ⟨g, o + j, none⟩ = some (.int .u8 (bs.getD j 0)))
theorem Sl.kept {w w' : World} {v : Value} {bs : List Int} (h : Sl w v bs) (hs : w.heap.size ≤ w'.heap.size) (hk : ∀ g o n c, v = .slice (some ⟨g, o, none⟩) n c → g < w.heap.size → w'.heap[g]? = w.heap[g]?) : Sl w' v bs := by
  rcases h with h | ⟨h1, sg, so, cap, rfl, h0, h2, h3⟩
  · exact Or.inl h
  · exact Or.inr ⟨h1, sg, so, cap, rfl, h0, Nat.lt_of_lt_of_le h2 hs, fun j hj => (World.cell?_of_block (w := w) (hk sg so _ _ rfl h2)).trans (h3 j hj)⟩
theorem Sl.below {w w' : World} {v : Value} {bs : List Int} {B : Nat} (h : Sl w v bs) (hb : Below B w w') (hB : w.heap.size ≤ B) : Sl w' v bs :=
  h.kept hb.size fun g _ _ _ _ hg => hb.block g (Nat.lt_of_lt_of_le hg hB)
theorem Sl.src {w : World} {v : Value} {bs : List Int} (h : Sl w v bs) : Src w v bs := by
  rcases h with h | ⟨h1, sg, so, cap, rfl, h0, h2, h3⟩
  · exact Or.inl h
  · refine Or.inr ⟨h1, sg, so, cap, rfl, h2, fun j u hj => ?_⟩
    have hjl : j < bs.length := by
      have := (List.getElem?_eq_some_iff.1 hj).1
      simpa using this
    rw [h3 j hjl, ← hj]
    simp [List.getD, List.getElem?_eq_getElem hjl]
theorem Sl.of_own {w : World} {base : Nat} {v : Value} {n : Nat} {bs : List Int} (h : w.ownsRow base 5 1 v n (bs.map (Value.int .u8))) : Sl w v bs := by
  have hn : bs.length = n := by simpa using h.1
  rcases h.2 with ⟨h1, h2⟩ | ⟨g, cap, cur, hv, hb, hg, hnc, _⟩
  · exact Or.inl ⟨List.length_eq_zero_iff.1 (hn.trans h2), Or.inl h1⟩
  · by_cases h0 : bs = []
    · subst h0
      simp at hn
      subst hn
      exact Or.inl ⟨rfl, Or.inr ⟨g, 0, cap, hv⟩⟩
    · have hp : 0 < bs.length := List.length_pos_iff.2 h0
      obtain ⟨g, cap, hv, _, hgl, hnc, hc⟩ := own_shape h (by omega) hn
      exact Or.inr ⟨hp, g, 0, cap, by rw [hv, hn], by omega, hgl, fun j hj => by rw [Nat.zero_add, hc j (by omega)]⟩
theorem Sl.shape {w : World} {v : Value} {bs : List Int} (h : Sl w v bs) : ∃ a c, v = .slice a bs.length c := h.src.shape

theorem read67 (vb : Value) (bs : List Int) (w : World) (hs : Sl w vb bs) (hlen : bs.length ≤ 1048576) (hr : ∀ j, 0 ≤ bs.getD j 0 ∧ bs.getD j 0 ≤ 255) (q : Rq) (hq : q = rdQ bs) (m er : Int) (hm : m = rdN bs) (her : er = rdErr bs) :
    Calls Tryz.prog 67 #[vb] w fun e w' => e = .returned (.tuple #[.agg #[.int .u8 q.op, .int .u8 q.k0, .int .u8 q.k1, .int .u8 q.k2, .int .u8 q.k3, .int .u8 q.k4, .int .u8 q.k5, .int .u8 q.k6, .int .u8 q.k7, .int .u8 q.kd, .int .u64 q.x, .int .u64 q.y, .int .u64 q.n], .int .i64 m, errV er]) ∧ Below w.heap.size w w' := by
  subst hm her
  rcases hs with ⟨rfl, rfl | ⟨g, o, c, rfl⟩⟩ | ⟨hp, g, o, c, rfl, h0, h2, h3⟩
  · subst hq; exact read26_nil _ _ w
  · subst hq; exact read26_nil _ _ w
  · cases bs with
    | nil => simp at hp
    | cons b0 t => exact read26_cons g o c b0 t w h0 hlen h2 h3 hr q hq
end Go.Proofs.YtlamgpeiolfffaaGreatDoor

namespace Go.Proofs.YtlamgpeiolfffaaGreatDoor
open Go.RowKit

theorem read16 (vb : Value) (bs : List Int) (w : World) (hs : Sl w vb bs) (hlen : bs.length ≤ 1048576) (hr : ∀ j, 0 ≤ bs.getD j 0 ∧ bs.getD j 0 ≤ 255) (q : Rq) (hq : q = rdQ bs) (m er : Int) (hm : m = rdN bs) (her : er = rdErr bs) :
    Calls Tryz.prog 80 #[vb] w fun e w' => e = .returned (.tuple #[.agg #[.int .u8 q.op, .int .u8 q.k0, .int .u8 q.k1, .int .u8 q.k2, .int .u8 q.k3, .int .u8 q.k4, .int .u8 q.k5, .int .u8 q.k6, .int .u8 q.k7, .int .u8 q.kd, .int .u64 q.x, .int .u64 q.y, .int .u64 q.n], .int .i64 m, .int .i64 er]) ∧ Below w.heap.size w w' := by
  subst hq hm her
  rcases hs with ⟨rfl, rfl | ⟨g, so, cap, rfl⟩⟩ | ⟨hp, g, so, cap, rfl, hcap, hg, hc⟩
  · exact rr16_nil _ _ w
  · exact rr16_nil _ _ w
  have bad : ∀ k : Int, rdErr bs = k → k ≠ 0 → (Calls Tryz.prog 80 #[.slice (some ⟨g, so, none⟩) bs.length cap] w fun e w' => e = .returned (.tuple #[.agg #[.int .u8 0, .int .u8 0, .int .u8 0, .int .u8 0, .int .u8 0, .int .u8 0, .int .u8 0, .int .u8 0, .int .u8 0, .int .u8 0, .int .u64 0, .int .u64 0, .int .u64 0], .int .i64 0, .int .i64 k]) ∧ Below w.heap.size w w') →
      Calls Tryz.prog 80 #[.slice (some ⟨g, so, none⟩) bs.length cap] w fun e w' => e = .returned (.tuple #[.agg #[.int .u8 (rdQ bs).op, .int .u8 (rdQ bs).k0, .int .u8 (rdQ bs).k1, .int .u8 (rdQ bs).k2, .int .u8 (rdQ bs).k3, .int .u8 (rdQ bs).k4, .int .u8 (rdQ bs).k5, .int .u8 (rdQ bs).k6, .int .u8 (rdQ bs).k7, .int .u8 (rdQ bs).kd, .int .u64 (rdQ bs).x, .int .u64 (rdQ bs).y, .int .u64 (rdQ bs).n], .int .i64 (rdN bs), .int .i64 (rdErr bs)]) ∧ Below w.heap.size w w' := by
    intro k hk hk0 h
    have e0 : ¬ rdErr bs = 0 := by omega
    have e2 : rdQ bs = Rq.zero := by unfold rdQ; rw [if_neg e0]
    have e3 : rdN bs = 0 := by unfold rdN; rw [if_neg e0]
    rw [e2, e3, hk]
    exact h
  cases bs with
  | nil => simp at hp
  | cons b0 t =>
    have c0 : w.cell? ⟨g, so, none⟩ = some (.int .u8 b0) := hc 0 hp
    have r0 : 0 ≤ b0 ∧ b0 ≤ 255 := hr 0
    by_cases hlo : b0 < 1
    · exact bad 2 (by simp [rdErr, hlo]) (by omega) (rr16_zero g so _ cap b0 w hp hg c0 (by omega))
    by_cases hhi : 26 < b0
    · exact bad 2 (by simp [rdErr, hhi]) (by omega) (rr16_high g so _ cap b0 w hp hg c0 hhi r0.2)
    have hor : ¬ (b0 < 1 ∨ 26 < b0) := by omega
    cases t with
    | nil => exact bad 1 (by simp [rdErr, hor]) (by omega) (rr16_one g so _ cap b0 w hp hg c0 (by omega) (by omega) rfl)
    | cons b1 t =>
      have hn2 : 1 < (b0 :: b1 :: t).length := by simp
      have c1 : w.cell? ⟨g, so + 1, none⟩ = some (.int .u8 b1) := hc 1 hn2
      by_cases heq : b0 = reqLen b1
      · by_cases hle : (((b0 :: b1 :: t).length : Nat) : Int) ≤ b0
        · exact bad 1 (by simp only [rdErr]; rw [if_neg hor, if_pos heq, if_pos hle]) (by omega) (rr16_short g so _ cap b0 w hp hg c0 (by omega) (by omega) hn2 b1 c1 heq hle)
        · have e1 : rdErr (b0 :: b1 :: t) = 0 := by simp only [rdErr]; rw [if_neg hor, if_pos heq, if_neg hle]
          have e3 : rdN (b0 :: b1 :: t) = b0 + 1 := by simp [rdN, e1]
          rw [e1, e3]
          by_cases h1 : b1 = 1
          · subst h1
            obtain rfl : b0 = 26 := heq
            rw [rdQ_1 _ e1 rfl]
            exact rr16_1 g so _ cap (fun j => (26 :: 1 :: t).getD j 0) w (by omega) hcap hlen hg hc hr rfl rfl
          by_cases h2 : b1 = 2
          · subst h2
            obtain rfl : b0 = 17 := heq
            rw [rdQ_2 _ e1 rfl]
            exact rr16_2 g so _ cap (fun j => (17 :: 2 :: t).getD j 0) w (by omega) hcap hlen hg hc hr rfl rfl
          by_cases h3 : b1 = 3
          · subst h3
            obtain rfl : b0 = 9 := heq
            rw [rdQ_3 _ e1 (Or.inl rfl)]
            exact rr16_3 g so _ cap (fun j => (9 :: 3 :: t).getD j 0) w (by omega) hcap hlen hg hc hr rfl rfl
          by_cases h4 : b1 = 4
          · subst h4
            obtain rfl : b0 = 9 := heq
            rw [rdQ_3 _ e1 (Or.inr rfl)]
            exact rr16_4 g so _ cap (fun j => (9 :: 4 :: t).getD j 0) w (by omega) hcap hlen hg hc hr rfl rfl
          by_cases h5 : b1 = 5
          · subst h5
            obtain rfl : b0 = 1 := heq
            rw [rdQ_5 _ e1 (Or.inl rfl)]
            exact rr16_5 g so _ cap (fun j => (1 :: 5 :: t).getD j 0) w (by omega) hcap hlen hg hc hr rfl rfl
          by_cases h6 : b1 = 6
          · subst h6
            obtain rfl : b0 = 1 := heq
            rw [rdQ_5 _ e1 (Or.inr rfl)]
            exact rr16_6 g so _ cap (fun j => (1 :: 6 :: t).getD j 0) w (by omega) hcap hlen hg hc hr rfl rfl
          exact absurd heq (by simp [reqLen, h1, h2, h3, h4, h5, h6]; omega)
      · exact bad 2 (by simp only [rdErr]; rw [if_neg hor, if_neg heq]) (by omega) (rr16_bad g so _ cap b0 w hp hg c0 (by omega) (by omega) hn2 b1 c1 heq)

theorem read18 (vb : Value) (bs : List Int) (w : World) (hs : Sl w vb bs) (hlen : bs.length ≤ 1048576) (hr : ∀ j, 0 ≤ bs.getD j 0 ∧ bs.getD j 0 ≤ 255) (r : Rp) (hq : r = rpQ bs) (m er : Int) (hm : m = rpN bs) (her : er = rpErr bs) :
    Calls Tryz.prog 52 #[vb] w fun e w' => e = .returned (.tuple #[.agg #[.int .u8 r.c, .int .u64 r.a, .int .u64 r.b], .int .i64 m, .int .i64 er]) ∧ Below w.heap.size w w' := by
  subst hq hm her
  rcases hs with ⟨rfl, rfl | ⟨g, so, cap, rfl⟩⟩ | ⟨hp, g, so, cap, rfl, hcap, hg, hc⟩
  · exact rr18_nil _ _ w
  · exact rr18_nil _ _ w
  have bad : ∀ k : Int, rpErr bs = k → k ≠ 0 → (Calls Tryz.prog 52 #[.slice (some ⟨g, so, none⟩) bs.length cap] w fun e w' => e = .returned (.tuple #[.agg #[.int .u8 0, .int .u64 0, .int .u64 0], .int .i64 0, .int .i64 k]) ∧ Below w.heap.size w w') →
      Calls Tryz.prog 52 #[.slice (some ⟨g, so, none⟩) bs.length cap] w fun e w' => e = .returned (.tuple #[.agg #[.int .u8 (rpQ bs).c, .int .u64 (rpQ bs).a, .int .u64 (rpQ bs).b], .int .i64 (rpN bs), .int .i64 (rpErr bs)]) ∧ Below w.heap.size w w' := by
    intro k hk hk0 h
    have e0 : ¬ rpErr bs = 0 := by omega
    have e2 : rpQ bs = ⟨0, 0, 0⟩ := by unfold rpQ; rw [if_neg e0]
    have e3 : rpN bs = 0 := by unfold rpN; rw [if_neg e0]
    rw [e2, e3, hk]
    exact h
  cases bs with
  | nil => simp at hp
  | cons b0 t =>
    have c0 : w.cell? ⟨g, so, none⟩ = some (.int .u8 b0) := hc 0 hp
    by_cases h17 : b0 = 17
    · have hor : ¬ (b0 < 17 ∨ 17 < b0) := by omega
      cases t with
      | nil => exact bad 1 (by simp [rpErr, hor]) (by omega) (rr18_one g so _ cap b0 w hp hg c0 h17 rfl)
      | cons b1 t =>
        have hn2 : 1 < (b0 :: b1 :: t).length := by simp
        have c1 : w.cell? ⟨g, so + 1, none⟩ = some (.int .u8 b1) := hc 1 hn2
        by_cases hlo : b1 < 1
        · have hne : ¬ b0 = repLen b1 := by simp [repLen, hlo, h17]
          exact bad 2 (by simp only [rpErr]; rw [if_neg hor, if_neg hne]) (by omega) (rr18_low g so _ cap b0 w hp hg c0 h17 hn2 b1 c1 hlo)
        by_cases hhi : 9 < b1
        · have hne : ¬ b0 = repLen b1 := by simp [repLen, hhi, h17]
          exact bad 2 (by simp only [rpErr]; rw [if_neg hor, if_neg hne]) (by omega) (rr18_high g so _ cap b0 w hp hg c0 h17 hn2 b1 c1 hlo hhi)
        have heq : b0 = repLen b1 := by simp [repLen, hlo, hhi, h17]
        by_cases hle : (((b0 :: b1 :: t).length : Nat) : Int) ≤ b0
        · exact bad 1 (by simp only [rpErr]; rw [if_neg hor, if_pos heq, if_pos hle]) (by omega) (rr18_short g so _ cap b0 w hp hg c0 h17 hn2 b1 c1 hlo hhi (by omega))
        · have e1 : rpErr (b0 :: b1 :: t) = 0 := by simp only [rpErr]; rw [if_neg hor, if_pos heq, if_neg hle]
          have e2 : rpQ (b0 :: b1 :: t) = ⟨b1, num8 (b0 :: b1 :: t) 2, num8 (b0 :: b1 :: t) 10⟩ := by unfold rpQ; rw [if_pos e1]; rfl
          have e3 : rpN (b0 :: b1 :: t) = 18 := by unfold rpN; rw [if_pos e1]
          rw [e1, e2, e3]
          exact rr18_ok g so _ cap (fun j => (b0 :: b1 :: t).getD j 0) w (by omega) hcap hlen hg hc hr h17 hlo hhi
    · have hor : b0 < 17 ∨ 17 < b0 := by omega
      exact bad 2 (by simp only [rpErr]; rw [if_pos hor]) (by omega) (rr18_head g so _ cap b0 w hp hg c0 h17)
end Go.Proofs.YtlamgpeiolfffaaGreatDoor
