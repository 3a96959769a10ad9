import Derived.Test.YtnlgndpcddngoaaGreatDoorZc49
import Derived.Test.YtnlgndpcddngoaaGreatDoorZc02
import Derived.Lib.SmallJoins
import Derived.Deep.Slices
set_option linter.unusedSectionVars false
namespace Go.Proofs.YtnlgndpcddngoaaGreatDoor
open Go.ChangeShapes Go.WideShapes Go.ChangeAt Go.RowKit Go.Joins
variable [dK] [iK]

theorem Tryz.cellsDm : Tryz.prog.cellsOf 91 = 5 := by kernel_rfl
theorem Tryz.cellsIn : Tryz.prog.cellsOf 3 = 1 := by kernel_rfl
theorem trod_struct5 {H : Type} {enc : TypeId × Value → H} {P : Program} {w : World} {base : Nat} {spare : Nat → Bool} {held : Bool} {t : TypeId} {f0 f1 f2 f3 f4 : Field} {fuel : Nat} {cs : List Value} {x : DataW H × List MemPlace} (ht : P.underlying t = some (.struct #[f0, f1, f2, f3, f4])) (h : DataW.trod enc P w base spare held fuel t cs = some x) :
    ∃ y0 y1 y2 y3 y4 n,
      DataW.trod enc P w base spare held n f0.type ((cs.drop f0.offset).take (P.cellsOf f0.type)) = some y0 ∧ DataW.trod enc P w base spare held n f1.type ((cs.drop f1.offset).take (P.cellsOf f1.type)) = some y1 ∧
      DataW.trod enc P w base spare held n f2.type ((cs.drop f2.offset).take (P.cellsOf f2.type)) = some y2 ∧ DataW.trod enc P w base spare held n f3.type ((cs.drop f3.offset).take (P.cellsOf f3.type)) = some y3 ∧
      DataW.trod enc P w base spare held n f4.type ((cs.drop f4.offset).take (P.cellsOf f4.type)) = some y4 := by
  obtain ⟨xs, n, _, rfl, _, hlen, hf⟩ := DataW.trod_struct ht h
  match xs, hlen with
  | [y0, y1, y2, y3, y4], _ => exact ⟨y0, y1, y2, y3, y4, n, by simpa using hf 0 f0 rfl, by simpa using hf 1 f1 rfl, by simpa using hf 2 f2 rfl, by simpa using hf 3 f3 rfl, by simpa using hf 4 f4 rfl⟩
theorem int_of {H : Type} {enc : TypeId × Value → H} {W : World} {base n : Nat} {spare : Nat → Bool} {held : Bool} {c : Value} {x : DataW H × List MemPlace} (h : DataW.trod enc Tryz.prog W base spare held n 3 [c] = some x) : ∃ a, c = .int .i64 a ∧ -9223372036854775808 ≤ a ∧ a ≤ 9223372036854775807 := by
  obtain ⟨a, e, _, wa⟩ := DataW.trod_int Tryz.underlying3 h
  have hb := bounds_i64 wa
  simp at e
  exact ⟨a, e, hb.1, by omega⟩
theorem list5 {cs : List Value} (h : cs.length = 5) : ∃ c0 c1 c2 c3 c4, cs = [c0, c1, c2, c3, c4] := by
  match cs, h with
  | [c0, c1, c2, c3, c4], _ => exact ⟨c0, c1, c2, c3, c4, rfl⟩

set_option maxRecDepth 100000 in
/-- The cells of a demand: its numbers. -/
theorem dm_of {H : Type} {enc : TypeId × Value → H} {W : World} {base fuel : Nat} {spare : Nat → Bool} {held : Bool} {cs : List Value} {x : DataW H × List MemPlace}
    (hl : cs.length = 5) (hf : DataW.trod enc Tryz.prog W base spare held fuel 91 cs = some x) : ∃ d : Dm, d.ok ∧ cs = dmc d := by
  obtain ⟨c0, c1, c2, c3, c4, rfl⟩ := list5 hl
  obtain ⟨y0, y1, y2, y3, y4, n, t0, t1, t2, t3, t4⟩ := trod_struct5 Tryz.underlying91 hf
  simp only [Tryz.cellsIn] at t0 t1 t2 t3 t4
  obtain ⟨a0, rfl, l0⟩ := int_of (c := c0) t0
  obtain ⟨a1, rfl, l1⟩ := int_of (c := c1) t1
  obtain ⟨a2, rfl, l2⟩ := int_of (c := c2) t2
  obtain ⟨a3, rfl, l3⟩ := int_of (c := c3) t3
  obtain ⟨a4, rfl, l4⟩ := int_of (c := c4) t4
  exact ⟨⟨a0, a1, a2, a3, a4⟩, ⟨l0, l1, l2, l3, l4⟩, rfl⟩

set_option maxRecDepth 100000 in
/-- A list of demands that comes in. -/
theorem open_dms {H : Type} {enc : TypeId × Value → H} {W : World} {r : Reach} {b0 base : Nat} {spare : Nat → Bool} {held : Bool} {v : Value} {d : DataW H} {p : List MemPlace}
    (hv : Value.okWide Tryz.prog W r b0 44 v) (h : DataW.Trod enc Tryz.prog W base spare held 44 v d p) :
    ∃ (ao : Option Addr) (n cap : Nat) (ds : List Dm), v = .slice ao n cap ∧ ds.length = n ∧ n ≤ cap ∧ n ≤ maxLen ∧ (∀ d ∈ ds, Dm.ok d) ∧ (0 < n → ∃ A o, ao = some ⟨A, o, none⟩ ∧ A < W.heap.size ∧ ∀ i (h : i < ds.length) j, j < 5 → W.cell? ⟨A, o + i * 5 + j, none⟩ = (dmc ds[i])[j]?) := by
  obtain ⟨a, len, cap, rfl⟩ := okWide_slice Tryz.underlying44 hv
  obtain ⟨fuel, hf⟩ := h
  have hf' : DataW.trod enc Tryz.prog W base spare held fuel 44 [.slice a len cap] = some (d, p) := by simpa [Value.cells] using hf
  rcases Deep.open_slice Tryz.underlying44 hf' with ⟨e, _⟩ | ⟨a', len', cap', m, n, D, Pl, e, hb, hlc, hcm, hm, _, hel⟩
  · simp at e
    obtain ⟨rfl, rfl, rfl⟩ := e
    exact ⟨none, 0, 0, [], rfl, rfl, by omega, by simp, fun q hq => (by cases hq), fun h => absurd h (by omega)⟩
  · simp at e
    obtain ⟨rfl, rfl, rfl⟩ := e
    have hlm : len ≤ m := by rw [hm]; split <;> omega
    rw [Tryz.cellsDm] at hel
    have each : ∀ i, i < len → ∃ q : Dm, q.ok ∧ W.cells? base (a'.add (i * 5)) 5 = some (dmc q) := by
      intro i hi
      obtain ⟨cs, h1, h2⟩ := hel i (by omega)
      obtain ⟨q, h3, rfl⟩ := dm_of (World.cells?_some h1).2.1 h2
      exact ⟨q, h3, h1⟩
    rcases Nat.eq_zero_or_pos len with h0 | hp
    · subst h0
      exact ⟨_, 0, cap, [], rfl, rfl, by omega, by simp, fun q hq => (by cases hq), fun h => absurd h (by omega)⟩
    · have hchoose : ∃ Q : Nat → Dm, ∀ i, i < len → (Q i).ok ∧ W.cells? base (a'.add (i * 5)) 5 = some (dmc (Q i)) := by
        refine ⟨fun i => if h : i < len then (each i h).choose else ⟨0, 0, 0, 0, 0⟩, fun i hi => ?_⟩
        dsimp only
        rw [dif_pos hi]
        exact (each i hi).choose_spec
      obtain ⟨Q, hQ⟩ := hchoose
      have hc : ∀ i, i < len → ∀ j, j < 5 → W.cell? ((a'.add (i * 5)).add j) = (dmc (Q i))[j]? := fun i hi j hj => (World.cells?_some (hQ i hi).2).2.2 j hj
      have hsp : a'.spot = none := by
        have := hc 0 hp 0 (by omega)
        exact World.cell?_spot (v := .int .i64 (Q 0).now) (by simpa [Addr.add, dmc] using this)
      obtain ⟨A, o, sp⟩ := a'
      simp at hsp
      subst hsp
      refine ⟨_, len, cap, (List.range len).map Q, rfl, by simp, hlc, by omega, fun q hq => ?_, fun _ => ⟨A, o, rfl, ?_, fun i hi j hj => ?_⟩⟩
      · obtain ⟨i, hi, rfl⟩ := List.mem_map.1 hq
        exact (hQ i (List.mem_range.1 hi)).1
      · exact World.cells?_block (hQ 0 hp).2 (by omega)
      · have hi' : i < len := by simpa using hi
        have := hc i hi' j hj
        rw [Deep.add_add, Addr.add_lit] at this
        rw [Nat.add_assoc, this]
        simp
end Go.Proofs.YtnlgndpcddngoaaGreatDoor
