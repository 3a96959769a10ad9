import Derived.Test.YtlamgpeiolfffaaGreatDoorZz02
import Derived.Test.YtlamgpeiolfffaaGreatDoorZz05
import Derived.Test.YtlamgpeiolfffaaGreatDoorZz14
import Derived.Test.YtlamgpeiolfffaaGreatDoorZz15
import Derived.Test.YtlamgpeiolfffaaGreatDoorZz18
import Derived.Deep.RegionHeld3
import Derived.Maps.AppendAt
set_option linter.unusedSectionVars false
namespace Go.Proofs.YtlamgpeiolfffaaGreatDoor
open Go.RowKit
variable [dK] [iK]


set_option maxRecDepth 100000 in
set_option maxHeartbeats 1000000 in
theorem wrep (c a b : Int) (w : World) (ha0 : 0 ≤ a) (ha1 : a ≤ 18446744073709551615) (hb0 : 0 ≤ b) (hb1 : b ≤ 18446744073709551615) :
    Calls Tryz.prog 68 #[.agg #[.int .u8 c, .int .u64 a, .int .u64 b]] w
      fun e w' => e = .returned (.slice (some ⟨w.heap.size + 1, 0, none⟩) 18 18) ∧ w'.ownsRow w.heap.size 5 1 (.slice (some ⟨w.heap.size + 1, 0, none⟩) 18 18) 18 ((encRep c a b).map (Value.int .u8)) ∧ Below w.heap.size w w' := by
  go_enter Tryz.func68, Tryz.ntmps68
  go_wp2_with fail
  refine (start_at 17 _ _ (w.heap.size + 1) (by simp) (by omega) (by omega)).mono ?_
  rintro e w1 ⟨rfl, hown1, hb1'⟩
  have hs1 : w.heap.size + 1 < w1.heap.size := (hown1.lt (w.heap.size + 1) rfl).2
  have hc1 : ∀ j, w1.cell? ⟨w.heap.size, j, none⟩ = (#[.int .u8 c, .int .u64 a, .int .u64 b] : Array Value)[j]? := fun j => (hb1'.cell (p := ⟨w.heap.size, j, none⟩) (by simp)).trans (cell_box w _ _ j)
  have hB1 : Below w.heap.size w w1 := ((Below.refl _ w).alloc (Nat.le_refl _) _).trans (hb1'.mono (by omega))
  clear hb1'
  go_wp2_with fail
  refine (num_any (w.heap.size + 1) 2 18 (w.heap.size + 1) _ _ _ hown1 (by omega) ha0 ha1).mono ?_
  rintro e w2 ⟨rfl, hown2, hgrow2⟩
  have hs2 := hgrow2.size
  have hc2 := fun j => (cell_grown hgrow2 (b := w.heap.size) (by omega) (by omega) j).trans (hc1 j)
  go_wp2_with fail
  refine (num_any (w.heap.size + 1) 10 18 (w.heap.size + 1) _ _ _ hown2 (by omega) hb0 hb1).mono ?_
  rintro e w3 ⟨rfl, hown3, hgrow3⟩
  go_wp2
  go_ret
  refine ⟨rfl, own_down (b := w.heap.size + 1) (by omega) hown3, ?_⟩
  exact (hB1.grown hgrow2 (by omega) (by simp)).grown hgrow3 (by omega) (by simp)

end Go.Proofs.YtlamgpeiolfffaaGreatDoor

namespace Go.Proofs.YtlamgpeiolfffaaGreatDoor
open Go.RowKit
variable [dK] [iK]

abbrev rqc (q : Rq) : Array Value := #[.int .u8 q.op, .int .u8 q.k0, .int .u8 q.k1, .int .u8 q.k2, .int .u8 q.k3, .int .u8 q.k4, .int .u8 q.k5, .int .u8 q.k6, .int .u8 q.k7, .int .u8 q.kd, .int .u64 q.x, .int .u64 q.y, .int .u64 q.n]
def sliceLen : Value → Nat
  | .slice _ n _ => n
  | _ => 0

/-- What holds while requests are done, one by one. -/
structure RdI (w : World) (F : Nat → Prop) (st : Int) (sb cb rb : Nat) (cc : Array Value) (L0 : Ld) (bs0 : List Int) (L : Ld) (bs : List Int) (rs : List Rp) (F' : Nat → Prop) (v1 v5 : Value) (wr : World) : Prop where
  run : runL L0 bs0 = ((runL L bs).1, rs ++ (runL L bs).2.1, (runL L bs).2.2)
  sl : Sl wr v1 bs
  le : 18 * rs.length + 9 * bs.length ≤ 9 * bs0.length
  by_ : Bytes bs
  own : wr.ownsRow w.heap.size 5 1 v5 (encs rs).length ((encs rs).map (Value.int .u8))
  req : wr.heap[rb]? = some (.cells (rqc (rdQ bs)) 58)
  srv : SrvAt wr st sb L F'
  lok : L.ok
  F1 : ∀ b, F' b → F b ∨ w.heap.size ≤ b
  F2 : ¬ F' rb
  F3 : ∀ g, v5.ownBlock = some g → ¬ F' g ∧ g ≠ rb
  F4 : ∀ g o n c, v1 = .slice (some ⟨g, o, none⟩) n c → g < w.heap.size ∧ ¬ F g
  conn : wr.heap[cb]? = some (.cells cc 103)
  keep : Keep F w wr

theorem encs_length (rs : List Rp) : (encs rs).length = 18 * rs.length := by
  unfold encs
  induction rs with
  | nil => rfl
  | cons r t ih => rw [List.flatMap_cons, List.length_append, ih]; simp [encRep, be8]; omega
theorem encs_snoc (rs : List Rp) (r : Rp) : encs (rs ++ [r]) = encs rs ++ encRep r.c r.a r.b := by simp [encs]

theorem own_kept {w w' : World} {base : Nat} {v : Value} {n : Nat} {xs : List Value} (h : w.ownsRow base 5 1 v n xs) (hb : ∀ g, v.ownBlock = some g → w'.heap[g]? = w.heap[g]?) : w'.ownsRow base 5 1 v n xs := by
  obtain ⟨h1, h2⟩ := h
  refine ⟨h1, ?_⟩
  rcases h2 with h2 | ⟨g, cap, cur, hv, hg, hh, r⟩
  · exact Or.inl h2
  · exact Or.inr ⟨g, cap, cur, hv, hg, (hb g (by rw [hv]; rfl)).trans hh, r⟩
theorem own_slice {w : World} {base : Nat} {v : Value} {n : Nat} {xs : List Value} (h : w.ownsRow base 5 1 v n xs) : ∃ a c, v = .slice a n c := by
  rcases h.2 with ⟨rfl, rfl⟩ | ⟨g, cap, cur, hv, _⟩
  · exact ⟨_, _, rfl⟩
  · exact ⟨_, _, hv⟩
theorem heapSet13 {w : World} {b : Nat} {c0 c1 c2 c3 c4 c5 c6 c7 c8 c9 c10 c11 c12 : Value} {t : TypeId} {fr : Nat × Nat} (h : w.heap[b]? = some (.cells #[c0, c1, c2, c3, c4, c5, c6, c7, c8, c9, c10, c11, c12] t fr)) (v0 v1 v2 v3 v4 v5 v6 v7 v8 v9 v10 v11 v12 : Value) :
    (((((((((((((w.setCell ⟨b, 0, none⟩ v0).setCell ⟨b, 1, none⟩ v1).setCell ⟨b, 2, none⟩ v2).setCell ⟨b, 3, none⟩ v3).setCell ⟨b, 4, none⟩ v4).setCell ⟨b, 5, none⟩ v5).setCell ⟨b, 6, none⟩ v6).setCell ⟨b, 7, none⟩ v7).setCell ⟨b, 8, none⟩ v8).setCell ⟨b, 9, none⟩ v9).setCell ⟨b, 10, none⟩ v10).setCell ⟨b, 11, none⟩ v11).setCell ⟨b, 12, none⟩ v12).heap[b]? = some (.cells #[v0, v1, v2, v3, v4, v5, v6, v7, v8, v9, v10, v11, v12] t fr) := by
  simpa using (heapSet (heapSet (heapSet (heapSet (heapSet (heapSet (heapSet (heapSet (heapSet (heapSet (heapSet (heapSet (heapSet h 0 v0) 1 v1) 2 v2) 3 v3) 4 v4) 5 v5) 6 v6) 7 v7) 8 v8) 9 v9) 10 v10) 11 v11) 12 v12)

/-- append in a region that draws. -/
theorem step_append_src {ops : Array Oper} {o : Oper} {a : Act} {w : World} {K : Act → World → Prop} {Q : Exit → Act → World → Prop} {E : Prop} (hg : o.guard = none) (s x : Operand)
    (hop : o.op = .call { callee := .builtin .append, args := #[s, x], argTypes := #[69, 69] }) (base : Nat) (v : Value) (n : Nat) (b0 : List Int) (hs : a.eval s = v) (hown : w.ownsRow base 5 1 v n (b0.map (Value.int .u8)))
    (ad : Addr) (m c : Nat) (bs : List Int) (hx : a.eval x = .slice (some ad) m c) (hm : bs.length = m) (hc : ∀ j u, (bs.map (Value.int .u8))[j]? = some u → w.cell? (ad.add j) = some u) (hb : n + m ≤ 4194304) (hbase : base ≤ w.heap.size)
    (hK : ∀ v' w', w'.ownsRow base 5 1 v' (n + m) ((b0 ++ bs).map (Value.int .u8)) → w.grownBy w' v.ownBlock → (v'.ownBlock = v.ownBlock ∨ v'.ownBlock = some w.heap.size) → K (a.put o.dst v') w') :
    if Region.wanted o (yielded ops a.tmps) = true then Oper.wp Tryz.prog o a w K Q else E := by
  have hw : Region.wanted o (yielded ops a.tmps) = true := by simp [Region.wanted, hg]
  rw [if_pos hw]
  obtain ⟨i0, hi, hz0, hz1, hz2⟩ := info_parts Tryz.info5
  obtain ⟨v', w', hr, h2, h3, h4, h5⟩ := run_append_own_at (P := Tryz.prog) (w := w) base 69 o.type 5 i0 (.int .u8 0) 1 1 Tryz.underlying69 hi hz0 hz1 hz2 rfl (by decide) v n _ hown ad m c (bs.map (Value.int .u8)) (by simpa using hm) hc (ints_oneCell _ _) (by unfold maxLen; omega) (by omega) hbase
  unfold Oper.wp execOp
  simp only [hop, resolve, invoke, builtin, Sem.run_bind, Sem.run_pure, Result.andThen_ok, List.map_toArray, List.map_cons, List.map_nil, hs, hx, hr]
  exact hK v' w' (by rw [List.map_append]; exact h2) h3 h5
/-- append of bytes, and where the new slice lies. -/
theorem wpList_append_srcA {ops : Array Oper} {rest : List Oper} {o : Oper} {a : Act} {Q : Exit → Act → World → Prop} {w : World} (hgd : o.guard = none) (s x : Operand)
    (ho : o.op = .call { callee := .builtin .append, args := #[s, x], argTypes := #[69, 69] }) (base : Nat) (v : Value) (n : Nat) (b0 : List Int) (hs : a.eval s = v) (hown : w.ownsRow base 5 1 v n (b0.map (Value.int .u8)))
    (vx : Value) (bs : List Int) (hx : a.eval x = vx) (hsrc : Src w vx bs) (hb : n + bs.length ≤ 4194304) (hbase : base ≤ w.heap.size)
    (h : ∀ v' w', w'.ownsRow base 5 1 v' (n + bs.length) ((b0 ++ bs).map (Value.int .u8)) → w.grownBy w' v.ownBlock → (v'.ownBlock = v.ownBlock ∨ v'.ownBlock = some w.heap.size) → wpList Tryz.prog ops Q rest (a.put o.dst v') w') : wpList Tryz.prog ops Q (o :: rest) a w := by
  obtain ⟨i0, hi, hz0, hz1, hz2⟩ := info_parts Tryz.info5
  have main : ∀ (ad : Addr) (m c : Nat), vx = .slice (some ad) m c → bs.length = m → (∀ j u, (bs.map (Value.int .u8))[j]? = some u → w.cell? (ad.add j) = some u) → wpList Tryz.prog ops Q (o :: rest) a w := by
    intro ad m c e1 e2 e3
    subst e1
    refine wpList_append_own_at (w := w) hgd s x 69 ho base 5 i0 (.int .u8 0) 1 1 Tryz.underlying69 hi hz0 hz1 hz2 rfl (by decide) v n _ hs hown ad m c (bs.map (Value.int .u8)) hx (by simpa using e2) e3 (ints_oneCell _ _) (by unfold maxLen; omega) (by omega) hbase ?_
    intro v' w' h1 h2 _ h4
    refine h v' w' ?_ h2 h4
    rw [e2, List.map_append]
    exact h1
  rcases hsrc with ⟨rfl, rfl | ⟨sg, so, cap, rfl⟩⟩ | ⟨_, sg, so, cap, e, _, hc⟩
  · refine wpList_append_own_none hgd s x 69 ho base 5 i0 1 Tryz.underlying69 hi v n _ hs hown hx ?_
    refine h v w ?_ (World.grownBy.refl w _) (Or.inl rfl)
    simpa using hown
  · exact main ⟨sg, so, none⟩ 0 cap rfl rfl (fun j u hj => by simp at hj)
  · exact main ⟨sg, so, none⟩ bs.length cap e rfl (fun j u hj => by rw [Addr.add_lit]; exact hc j u hj)
end Go.Proofs.YtlamgpeiolfffaaGreatDoor
