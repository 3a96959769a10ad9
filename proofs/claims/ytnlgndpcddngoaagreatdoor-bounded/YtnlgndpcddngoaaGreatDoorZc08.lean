import Derived.Test.YtnlgndpcddngoaaGreatDoorZc03
import Derived.Test.YtnlgndpcddngoaaGreatDoorZc00
import Derived.Maps.AppendAt
set_option linter.unusedSectionVars false
namespace Go.Proofs.YtnlgndpcddngoaaGreatDoor
open Go.RowKit
variable [dK] [iK]

/-- Bytes were put behind others: only the slice's own block turned; it lies where it lay, or in a new block. -/
structure Grw (w w' : World) (v v' : Value) : Prop where
  g : w.grownBy w' v.ownBlock
  at_ : v'.ownBlock = v.ownBlock ∨ ∃ k, v'.ownBlock = some k ∧ w.heap.size ≤ k
theorem Grw.refl (w : World) (v : Value) : Grw w w v v := ⟨World.grownBy.refl _ _, Or.inl rfl⟩
theorem Grw.trans {a b c : World} {v v' v'' : Value} (h : Grw a b v v') (k : Grw b c v' v'') : Grw a c v v'' := by
  refine ⟨⟨k.g.os.trans h.g.os, k.g.tape.trans h.g.tape, k.g.output.trans h.g.output, Nat.le_trans h.g.size k.g.size, fun i hi hne => ?_⟩, ?_⟩
  · refine (k.g.block i (Nat.lt_of_lt_of_le hi h.g.size) ?_).trans (h.g.block i hi hne)
    rcases h.at_ with e | ⟨j, e, hj⟩
    · rw [e]; exact hne
    · rw [e]; intro e'; injection e' with e'; omega
  · rcases k.at_ with e | ⟨j, e, hj⟩
    · rcases h.at_ with e2 | ⟨j, e2, hj⟩
      · exact Or.inl (e.trans e2)
      · exact Or.inr ⟨j, e.trans e2, hj⟩
    · exact Or.inr ⟨j, e, Nat.le_trans h.g.size hj⟩
theorem Grw.alloc {a b : World} {v v' : Value} (h : Grw a b v v') (o : Obj) : Grw a (b.alloc o) v v' :=
  h.trans ⟨World.grownBy_alloc _ _ _, Or.inl rfl⟩
theorem Grw.drew {a b : World} {v v' : Value} (h : Grw a b v v') : Grw a b.drew v v' := ⟨grw_drew h.g, h.at_⟩
theorem Grw.block {w w' : World} {v v' : Value} (h : Grw w w' v v') {b : Nat} {o : Obj} (hb : w.heap[b]? = some o) (hne : v.ownBlock ≠ some b) : w'.heap[b]? = some o :=
  (h.g.block b (ltB hb) (fun e => hne e.symm)).trans hb
theorem Grw.ne {w w' : World} {v v' : Value} (h : Grw w w' v v') {b : Nat} (hb : b < w.heap.size) (hne : v.ownBlock ≠ some b) : v'.ownBlock ≠ some b := by
  rcases h.at_ with e | ⟨j, e, hj⟩
  · rw [e]; exact hne
  · rw [e]; intro e'; injection e' with e'; omega
theorem Grw.one {w w' : World} {v v' : Value} (h1 : w.grownBy w' v.ownBlock) (h2 : v'.ownBlock = v.ownBlock ∨ v'.ownBlock = some w.heap.size) : Grw w w' v v' :=
  ⟨h1, h2.imp id (fun h => ⟨_, h, Nat.le_refl _⟩)⟩
theorem Grw.below {w w' : World} {v v' : Value} (h : Grw w w' v v') {B : Nat} (hB : B ≤ w.heap.size) (hv : ∀ b, v.ownBlock = some b → B ≤ b) : Below B w w' :=
  ⟨h.g.os, h.g.tape, h.g.output, h.g.size, fun k hk => h.g.block k (Nat.lt_of_lt_of_le hk hB) (fun e => by have := hv k e.symm; omega)⟩

/-- A slice of bytes of one's own. -/
abbrev Buf (w : World) (base : Nat) (v : Value) (xs : List Int) : Prop := w.ownsRow base 5 1 v xs.length (xs.map (Value.int .u8))

set_option maxRecDepth 100000 in
set_option maxHeartbeats 400000 in
theorem numG (base n : Nat) (xs : List Int) (b : Value) (v : Int) (w : World) (hn : xs.length = n) (hown : w.ownsRow base 5 1 b n (xs.map (Value.int .u8))) (hroom : n + 8 ≤ 4000000) (hbase : base ≤ w.heap.size) (_hv0 : 0 ≤ v) (_hv1 : v ≤ 18446744073709551615) :
    Calls Tryz.prog 69 #[b, .int .u64 v] w fun e w' => ∃ b', e = .returned b' ∧ w'.ownsRow base 5 1 b' (n + 8) ((xs ++ be8 v).map (Value.int .u8)) ∧ Grw w w' b b' := by
  obtain ⟨i0, hi, hz0, hz1, hz2⟩ := info_parts Tryz.info5
  have HN := hide hn
  clear hn
  go_enter Tryz.func69, Tryz.ntmps69
  go_wp2
  go_loopw [0, 5] (fun bb s wr => ∃ (j : Nat) (bj : Value), j ≤ 8 ∧ s = .int .i64 (56 - 8 * (j : Int)) ∧ bj = bb ∧ wr.ownsRow base 5 1 bj (n + j) ((xs ++ (be8 v).take j).map (Value.int .u8)) ∧ Grw w wr b bj) (fun _ s _ => (intOf s + 8).toNat)
  case atStart => exact ⟨0, b, Nat.zero_le _, rfl, rfl, by simpa using hown, Grw.refl _ _⟩
  case round =>
    obtain ⟨j, bj, hj, rfl, rfl, hownr, hgr⟩ := hrel
    have hsz := hgr.g.size
    by_cases hlt : j < 8
    · go_wp2_with (at_builtin; refine wpList_append_own_at (w := _) rfl _ _ 76 rfl base 5 i0 (.int .u8 0) 1 1 Tryz.underlying76 hi hz0 hz1 hz2 rfl (by decide) bj (n + j) _ rfl (hownr.alloc _) ⟨wr.heap.size, 0, none⟩ 1 1 [.int .u8 (v / 2 ^ (56 - 8 * j) % 256)] rfl rfl (cell_one_new _ _ _) (by simp [Value.oneCell']) (by unfold maxLen; omega) (by omega) (by simp; omega) ?_; intro b2 w2 hown2 hgrow2 _ hat2)
      go_roundw
      case rel => exact ⟨j + 1, b2, by omega, by go_num, rfl, by rw [be8_take v j hlt]; simpa [Nat.add_assoc] using hown2, (hgr.alloc _).trans (Grw.one hgrow2 hat2)⟩
      case measure => simp [intOf]; omega
    · obtain rfl : j = 8 := by omega
      go_wp2
      go_ret
      exact ⟨bj, rfl, hownr, hgr⟩

theorem Grw.cell {V w2 : World} {v v' : Value} {P j : Nat} {u : Option Value} (h : Grw V w2 v v') (hP : P < V.heap.size) (hne : v.ownBlock ≠ some P) (hc : V.cell? ⟨P, j, none⟩ = u) : w2.cell? ⟨P, j, none⟩ = u :=
  (World.cell?_of_block (w := V) (h.g.block P hP (fun e => hne e.symm))).trans hc
theorem Grw.up {V w2 : World} {o : Obj} {v v' : Value} {P j : Nat} {u : Option Value} (h : Grw (V.alloc o).drew w2 v v') (hP : P < V.heap.size) (hne : v.ownBlock ≠ some P) (hc : V.cell? ⟨P, j, none⟩ = u) : w2.cell? ⟨P, j, none⟩ = u := by
  refine Grw.cell h (by show P < (V.alloc o).heap.size; simp; omega) hne ?_
  show (V.alloc o).cell? ⟨P, j, none⟩ = u
  rw [World.cell?_alloc_lt _ _ ⟨P, j, none⟩ hP]
  exact hc

set_option maxRecDepth 100000 in
set_option maxHeartbeats 1000000 in
theorem polG (base n : Nat) (xs : List Int) (b : Value) (kd x y : Int) (w : World) (hn : xs.length = n) (hown : w.ownsRow base 5 1 b n (xs.map (Value.int .u8))) (hroom : n + 17 ≤ 4000000) (hbase : base ≤ w.heap.size) (hx0 : 0 ≤ x) (hx1 : x ≤ 18446744073709551615) (hy0 : 0 ≤ y) (hy1 : y ≤ 18446744073709551615) :
    Calls Tryz.prog 68 #[b, .agg #[.int .u8 kd, .int .u64 x, .int .u64 y]] w fun e w' => ∃ b', e = .returned b' ∧ w'.ownsRow base 5 1 b' (n + 17) ((xs ++ ([kd] ++ be8 x ++ be8 y)).map (Value.int .u8)) ∧ Grw w w' b b' := by
  obtain ⟨i0, hi, hz0, hz1, hz2⟩ := info_parts Tryz.info5
  have hbl : ∀ g, b.ownBlock = some g → g < w.heap.size := fun g e => (own_ltE hown e).2
  have HN := hide hn
  clear hn
  go_enter Tryz.func68, Tryz.ntmps68
  go_wp2_with fail
  obtain ⟨V, hV⟩ : ∃ V, V = w.alloc (.cells #[.int .u8 kd, .int .u64 x, .int .u64 y] 30) := ⟨_, rfl⟩
  rw [← hV]
  have hsV : V.heap.size = w.heap.size + 1 := by rw [hV]; simp
  have hcV : ∀ j, V.cell? ⟨w.heap.size, j, none⟩ = (#[.int .u8 kd, .int .u64 x, .int .u64 y] : Array Value)[j]? := fun j => by rw [hV]; exact World.cell?_alloc_at _ _ _ _ rfl
  have HGV : Hid (Grw w V b b) := hide (by rw [hV]; exact (Grw.refl w b).alloc _)
  have HO : Hid (V.ownsRow base 5 1 b n (xs.map (Value.int .u8))) := hide (by rw [hV]; exact hown.alloc _)
  obtain ⟨P, hP⟩ : ∃ P, P = w.heap.size := ⟨_, rfl⟩
  have HPb : b.ownBlock ≠ some P := fun e => by have := hbl P e; omega
  rw [← hP] at hsV hcV ⊢
  have e0 : V.cell? ⟨P, 0, none⟩ = some (.int .u8 kd) := hcV 0
  have e1 : V.cell? ⟨P, 1, none⟩ = some (.int .u64 x) := hcV 1
  have e2 : V.cell? ⟨P, 2, none⟩ = some (.int .u64 y) := hcV 2
  have HPl : P < V.heap.size := by omega
  have hbV : base ≤ V.heap.size := by omega
  have HBL := hide hbl
  clear hcV hsV hown hV hP hbl
  go_region_law (first
    | (refine step_append_any (by rfl) _ _ 76 5 i0 (.int .u8 0) 1 1 Tryz.underlying76 hi hz0 hz1 hz2 rfl (by decide) (by rfl) base b n _ (by rfl) (HO.out.alloc _) ⟨V.heap.size, 0, none⟩ 1 1 [.int .u8 kd] (by rfl) (by rfl) (cell_one_new V _ _) (by simp [Value.oneCell']) (by omega) (by omega) (by simp; omega) ?_; intro b2 w2 hown2 hgrow2 hat2; have hG2 := Grw.one hgrow2 hat2; have q1 := hG2.up HPl HPb e1; have q2 := hG2.up HPl HPb e2; have hs2 : V.heap.size ≤ w2.heap.size := Nat.le_trans (by simp) hG2.g.size; have hn2 := hG2.ne (b := P) (by show P < (V.alloc _).heap.size; simp; omega) HPb; have HO2 := hide hown2; have HG2 := hide hG2; clear hown2 hgrow2 hat2 hG2)
    | (refine step_fn (by rfl) 69 callAppN _ _ (by rfl) #[b2, .int .u64 x] (by simp only [List.map_toArray, List.map_cons, List.map_nil]; rfl) (numG base (n + 1) (xs ++ [kd]) b2 x w2 (by have := HN.out; simp; omega) (by simpa using HO2.out) (by omega) (by omega) hx0 hx1) ?_; rintro e w3 ⟨b3, rfl, hown3, hG3⟩; refine ⟨_, rfl, ?_⟩; have r2 := hG3.cell (P := P) (by omega) hn2 q2; have hs3 := hG3.g.size; have HO3 := hide hown3; have HG3 := hide hG3; clear hown3 hG3)
    | (refine step_fn (by rfl) 69 callAppN _ _ (by rfl) #[b3, .int .u64 y] (by simp only [List.map_toArray, List.map_cons, List.map_nil]; rfl) (numG base (n + 1 + 8) (xs ++ [kd] ++ be8 x) b3 y w3 (by have := HN.out; simp [be8]; omega) HO3.out (by omega) (by omega) hy0 hy1) ?_; rintro e w4 ⟨b4, rfl, hown4, hG4⟩; refine ⟨_, rfl, ?_⟩; have HO4 := hide hown4; have HG4 := hide hG4; clear hown4 hG4))
  all_goals go_wp2
  all_goals go_ret
  all_goals exact ⟨b4, rfl, by simpa [Nat.add_assoc] using HO4.out, (((HGV.out.alloc _).drew.trans HG2.out).trans HG3.out).trans HG4.out⟩
end Go.Proofs.YtnlgndpcddngoaaGreatDoor
