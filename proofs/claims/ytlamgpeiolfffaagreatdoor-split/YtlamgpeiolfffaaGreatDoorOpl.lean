import Derived.Test.YtlamgpeiolfffaaGreatDoorSpl
import Derived.Test.YtlamgpeiolfffaaGreatDoorZz37
import Derived.Lib.SmallJoins
import Derived.Deep.Slices
set_option linter.unusedSectionVars false
namespace Go.Proofs.YtlamgpeiolfffaaGreatDoor
open Go.ChangeShapes Go.WideShapes Go.ChangeAt Go.RowKit Go.Joins
variable [dK] [iK]

theorem Tryz.cells28 : Tryz.prog.cellsOf 58 = 13 := by kernel_rfl
theorem Tryz.cells23 : Tryz.prog.cellsOf 56 = 8 := by kernel_rfl
theorem Tryz.cells26 : Tryz.prog.cellsOf 30 = 3 := by kernel_rfl
theorem Tryz.cells5 : Tryz.prog.cellsOf 5 = 1 := by kernel_rfl
theorem Tryz.cells24 : Tryz.prog.cellsOf 23 = 1 := by kernel_rfl
theorem list13 {cs : List Value} (h : cs.length = 13) : ∃ c0 c1 c2 c3 c4 c5 c6 c7 c8 c9 c10 c11 c12, cs = [c0, c1, c2, c3, c4, c5, c6, c7, c8, c9, c10, c11, c12] := by
  match cs, h with
  | [c0, c1, c2, c3, c4, c5, c6, c7, c8, c9, c10, c11, c12], _ => exact ⟨c0, c1, c2, c3, c4, c5, c6, c7, c8, c9, c10, c11, c12, rfl⟩
theorem u8_of {H : Type} {enc : TypeId × Value → H} {W : World} {base n : Nat} {spare : Nat → Bool} {held : Bool} {c : Value} {x : DataW H × List MemPlace} (h : DataW.trod enc Tryz.prog W base spare held n 5 [c] = some x) : ∃ a, c = .int .u8 a ∧ 0 ≤ a ∧ a ≤ 255 := by
  obtain ⟨a, e, _, wa⟩ := DataW.trod_int Tryz.underlying5 h
  have hb := bounds_u8 wa
  simp at e
  exact ⟨a, e, hb.1, by omega⟩
theorem u64_of {H : Type} {enc : TypeId × Value → H} {W : World} {base n : Nat} {spare : Nat → Bool} {held : Bool} {c : Value} {x : DataW H × List MemPlace} (h : DataW.trod enc Tryz.prog W base spare held n 23 [c] = some x) : ∃ a, c = .int .u64 a ∧ 0 ≤ a ∧ a ≤ 18446744073709551615 := by
  obtain ⟨a, e, _, wa⟩ := DataW.trod_int Tryz.underlying23 h
  have hb := bounds_u64 wa
  simp at e
  exact ⟨a, e, hb.1, by omega⟩

set_option maxRecDepth 100000 in
/-- The cells of a request: its numbers. -/
theorem req_of {H : Type} {enc : TypeId × Value → H} {W : World} {base fuel : Nat} {spare : Nat → Bool} {held : Bool} {cs : List Value} {x : DataW H × List MemPlace}
    (hl : cs.length = 13) (hf : DataW.trod enc Tryz.prog W base spare held fuel 58 cs = some x) : ∃ q : Rq, (q.ok ∧ q.byt) ∧ cs = rqcl q := by
  obtain ⟨c0, c1, c2, c3, c4, c5, c6, c7, c8, c9, c10, c11, c12, rfl⟩ := list13 hl
  obtain ⟨y0, y1, y2, y3, n, _, _, t0, t1, t2, t3⟩ := trod_struct4 Tryz.underlying58 hf
  simp only [Tryz.cells5, Tryz.cells23, Tryz.cells26, Tryz.cells24] at t0 t1 t2 t3
  obtain ⟨op, rfl, o1, o2⟩ := u8_of (c := c0) t0
  obtain ⟨nn, rfl, n1, n2⟩ := u64_of (c := c12) t3
  obtain ⟨xs, m, _, _, _, hxl, hk⟩ := DataW.trod_array Tryz.underlying56 t1
  obtain ⟨z0, z1, z2, n', _, _, s0, s1, s2⟩ := Deep.trod_struct3 Tryz.underlying30 t2
  simp only [Tryz.cells5, Tryz.cells24] at s0 s1 s2
  obtain ⟨kd, rfl, d1, d2⟩ := u8_of (c := c9) s0
  obtain ⟨x, rfl, x1, x2⟩ := u64_of (c := c10) s1
  obtain ⟨y, rfl, g1, g2⟩ := u64_of (c := c11) s2
  have hkk : ∀ i, i < 8 → ∃ z, DataW.trod enc Tryz.prog W base spare held m 5 ((List.drop i [c1, c2, c3, c4, c5, c6, c7, c8]).take 1) = some z := by
    intro i hi
    have := hk i hi
    rw [Tryz.cells5, Nat.mul_one, List.getElem?_eq_getElem (by omega)] at this
    exact ⟨_, this⟩
  obtain ⟨_, e0⟩ := hkk 0 (by omega)
  obtain ⟨_, e1⟩ := hkk 1 (by omega)
  obtain ⟨_, e2⟩ := hkk 2 (by omega)
  obtain ⟨_, e3⟩ := hkk 3 (by omega)
  obtain ⟨_, e4⟩ := hkk 4 (by omega)
  obtain ⟨_, e5⟩ := hkk 5 (by omega)
  obtain ⟨_, e6⟩ := hkk 6 (by omega)
  obtain ⟨_, e7⟩ := hkk 7 (by omega)
  obtain ⟨k0, rfl, a0, b0'⟩ := u8_of (c := c1) e0
  obtain ⟨k1, rfl, a1, b1⟩ := u8_of (c := c2) e1
  obtain ⟨k2, rfl, a2, b2⟩ := u8_of (c := c3) e2
  obtain ⟨k3, rfl, a3, b3⟩ := u8_of (c := c4) e3
  obtain ⟨k4, rfl, a4, b4⟩ := u8_of (c := c5) e4
  obtain ⟨k5, rfl, a5, b5⟩ := u8_of (c := c6) e5
  obtain ⟨k6, rfl, a6, b6⟩ := u8_of (c := c7) e6
  obtain ⟨k7, rfl, a7, b7⟩ := u8_of (c := c8) e7
  exact ⟨⟨op, k0, k1, k2, k3, k4, k5, k6, k7, kd, x, y, nn⟩, ⟨⟨⟨⟨a0, b0'⟩, ⟨a1, b1⟩, ⟨a2, b2⟩, ⟨a3, b3⟩, ⟨a4, b4⟩, ⟨a5, b5⟩, ⟨a6, b6⟩, ⟨a7, b7⟩⟩, ⟨x1, x2⟩, ⟨g1, g2⟩, ⟨n1, n2⟩⟩, ⟨⟨o1, o2⟩, ⟨d1, d2⟩⟩⟩, rfl⟩

set_option maxRecDepth 100000 in
/-- A list of requests that comes in. -/
theorem open_reqs {H : Type} {enc : TypeId × Value → H} {W : World} {r : Reach} {b0 base : Nat} {spare : Nat → Bool} {held : Bool} {v : Value} {d : DataW H} {p : List MemPlace}
    (hv : Value.okWide Tryz.prog W r b0 28 v) (h : DataW.Trod enc Tryz.prog W base spare held 28 v d p) : ∃ qs : List Rq, RqsAt W v qs ∧ (∀ q ∈ qs, q.ok ∧ q.byt) ∧ qs.length ≤ maxLen := by
  obtain ⟨a, len, cap, rfl⟩ := okWide_slice Tryz.underlying28 hv
  obtain ⟨fuel, hf⟩ := h
  have hf' : DataW.trod enc Tryz.prog W base spare held fuel 28 [.slice a len cap] = some (d, p) := by simpa [Value.cells] using hf
  rcases Deep.open_slice Tryz.underlying28 hf' with ⟨e, _⟩ | ⟨a', len', cap', m, n, D, Pl, e, hb, hlc, hcm, hm, _, hel⟩
  · simp at e
    obtain ⟨rfl, rfl, rfl⟩ := e
    exact ⟨[], Or.inl ⟨rfl, none, 0, rfl⟩, fun q hq => by simp at hq, by simp⟩
  · simp at e
    obtain ⟨rfl, rfl, rfl⟩ := e
    have hlm : len ≤ m := by rw [hm]; split <;> omega
    rw [Tryz.cells28] at hel
    have each : ∀ i, i < len → ∃ q : Rq, (q.ok ∧ q.byt) ∧ W.cells? base (a'.add (i * 13)) 13 = some (rqcl q) := by
      intro i hi
      obtain ⟨cs, h1, h2⟩ := hel i (by omega)
      obtain ⟨q, h3, rfl⟩ := req_of (World.cells?_some h1).2.1 h2
      exact ⟨q, h3, h1⟩
    rcases Nat.eq_zero_or_pos len with h0 | hp
    · subst h0
      exact ⟨[], Or.inl ⟨rfl, some a', cap, rfl⟩, fun q hq => by simp at hq, by simp⟩
    · have hchoose : ∃ Q : Nat → Rq, ∀ i, i < len → ((Q i).ok ∧ (Q i).byt) ∧ W.cells? base (a'.add (i * 13)) 13 = some (rqcl (Q i)) := by
        refine ⟨fun i => if h : i < len then (each i h).choose else Rq.zero, fun i hi => ?_⟩
        dsimp only
        rw [dif_pos hi]
        exact (each i hi).choose_spec
      obtain ⟨Q, hQ⟩ := hchoose
      have hc : ∀ i, i < len → ∀ j, j < 13 → W.cell? ((a'.add (i * 13)).add j) = (rqcl (Q i))[j]? := fun i hi j hj => (World.cells?_some (hQ i hi).2).2.2 j hj
      have hsp : a'.spot = none := by
        have := hc 0 hp 0 (by omega)
        exact World.cell?_spot (v := .int .u8 (Q 0).op) (by simpa [Addr.add] using this)
      obtain ⟨A, o, sp⟩ := a'
      simp at hsp
      subst hsp
      refine ⟨(List.range len).map Q, Or.inr ⟨by simpa using hp, A, o, cap, by simp, by simpa using hlc, ?_, fun i hi j => ?_⟩, fun q hq => ?_, by simp; omega⟩
      · exact World.cells?_block (hQ 0 hp).2 (by omega)
      · rcases Nat.lt_or_ge j 13 with hj | hj
        · left
          have hi' : i < len := by simpa using hi
          have := hc i hi' j hj
          rw [Deep.add_add, Addr.add_lit] at this
          rw [Nat.add_assoc, this]
          simp
        · right; exact hj
      · obtain ⟨i, hi, rfl⟩ := List.mem_map.1 hq
        exact (hQ i (List.mem_range.1 hi)).1
end Go.Proofs.YtlamgpeiolfffaaGreatDoor
