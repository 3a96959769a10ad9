import Derived.Test.YtjkepphpahfdgaaDoorRows
import Derived.Test.YtjkepphpahfdgaaDoorMath
import Derived.ProofKit
import Derived.OpenShut
import Derived.Lib.SmallJoins
namespace Go.Proofs.YtjkepphpahfdgaaDoor
open Go.ChangeShapes Go.WideShapes Go.ChangeAt Go.RowKit Go.Joins

theorem Tryd.cells28 : Tryd.prog.cellsOf 28 = 13 := by kernel_rfl
theorem Tryd.cells23 : Tryd.prog.cellsOf 23 = 8 := by kernel_rfl
theorem Tryd.cells26 : Tryd.prog.cellsOf 26 = 3 := by kernel_rfl
theorem Tryd.cells5 : Tryd.prog.cellsOf 5 = 1 := by kernel_rfl
theorem Tryd.cells24 : Tryd.prog.cellsOf 24 = 1 := by kernel_rfl
theorem array13 {cs : Array Value} (h : cs.size = 13) : ∃ c0 c1 c2 c3 c4 c5 c6 c7 c8 c9 c10 c11 c12, cs = #[c0, c1, c2, c3, c4, c5, c6, c7, c8, c9, c10, c11, c12] := by
  obtain ⟨l⟩ := cs
  match l, h with
  | [c0, c1, c2, c3, c4, c5, c6, c7, c8, c9, c10, c11, c12], _ => exact ⟨c0, c1, c2, c3, c4, c5, c6, c7, c8, c9, c10, c11, c12, rfl⟩
theorem u8_of {H : Type} {enc : TypeId × Value → H} {W : World} {base n : Nat} {spare : Nat → Bool} {held : Bool} {c : Value} {x : DataW H × List MemPlace} (h : DataW.trod enc Tryd.prog W base spare held n 5 [c] = some x) : ∃ a, c = .int .u8 a ∧ 0 ≤ a ∧ a ≤ 255 := by
  obtain ⟨a, e, _, wa⟩ := DataW.trod_int Tryd.underlying5 h
  have hb := bounds_u8 wa
  simp at e
  exact ⟨a, e, hb.1, by omega⟩
theorem u64_of {H : Type} {enc : TypeId × Value → H} {W : World} {base n : Nat} {spare : Nat → Bool} {held : Bool} {c : Value} {x : DataW H × List MemPlace} (h : DataW.trod enc Tryd.prog W base spare held n 24 [c] = some x) : ∃ a, c = .int .u64 a ∧ 0 ≤ a ∧ a ≤ 18446744073709551615 := by
  obtain ⟨a, e, _, wa⟩ := DataW.trod_int Tryd.underlying24 h
  have hb := bounds_u64 wa
  simp at e
  exact ⟨a, e, hb.1, by omega⟩

set_option maxRecDepth 100000 in
/-- A request that comes in: its numbers. -/
theorem open_req {H : Type} {enc : TypeId × Value → H} {W : World} {r : Reach} {b0 base : Nat} {spare : Nat → Bool} {held : Bool} {v : Value} {d : DataW H} {p : List MemPlace}
    (hv : Value.okWide Tryd.prog W r b0 28 v) (h : DataW.Trod enc Tryd.prog W base spare held 28 v d p) : ∃ q : Rq, q.ok ∧ v = .agg #[.int .u8 q.op, .int .u8 q.k0, .int .u8 q.k1, .int .u8 q.k2, .int .u8 q.k3, .int .u8 q.k4, .int .u8 q.k5, .int .u8 q.k6, .int .u8 q.k7, .int .u8 q.kd, .int .u64 q.x, .int .u64 q.y, .int .u64 q.n] := by
  obtain ⟨cs, rfl, hsz⟩ := okWide_struct Tryd.underlying28 hv
  obtain ⟨c0, c1, c2, c3, c4, c5, c6, c7, c8, c9, c10, c11, c12, rfl⟩ := array13 (hsz.trans Tryd.cells28)
  obtain ⟨fuel, hf⟩ := h
  obtain ⟨y0, y1, y2, y3, n, _, _, t0, t1, t2, t3⟩ := trod_struct4 Tryd.underlying28 hf
  simp only [Tryd.cells5, Tryd.cells23, Tryd.cells26, Tryd.cells24, Value.cells] at t0 t1 t2 t3
  obtain ⟨op, rfl, o1, o2⟩ := u8_of (c := c0) t0
  obtain ⟨nn, rfl, n1, n2⟩ := u64_of (c := c12) t3
  obtain ⟨xs, m, _, _, _, hxl, hk⟩ := DataW.trod_array Tryd.underlying23 t1
  obtain ⟨z0, z1, z2, n', _, _, s0, s1, s2⟩ := Deep.trod_struct3 Tryd.underlying26 t2
  simp only [Tryd.cells5, Tryd.cells24] at s0 s1 s2
  obtain ⟨kd, rfl, d1, d2⟩ := u8_of (c := c9) s0
  obtain ⟨x, rfl, x1, x2⟩ := u64_of (c := c10) s1
  obtain ⟨y, rfl, g1, g2⟩ := u64_of (c := c11) s2
  have hkk : ∀ i, i < 8 → ∃ z, DataW.trod enc Tryd.prog W base spare held m 5 ((List.drop i [c1, c2, c3, c4, c5, c6, c7, c8]).take 1) = some z := by
    intro i hi
    have := hk i hi
    rw [Tryd.cells5, Nat.mul_one, List.getElem?_eq_getElem (by omega)] at this
    exact ⟨_, this⟩
  obtain ⟨_, e0⟩ := hkk 0 (by omega)
  obtain ⟨_, e1⟩ := hkk 1 (by omega)
  obtain ⟨_, e2⟩ := hkk 2 (by omega)
  obtain ⟨_, e3⟩ := hkk 3 (by omega)
  obtain ⟨_, e4⟩ := hkk 4 (by omega)
  obtain ⟨_, e5⟩ := hkk 5 (by omega)
  obtain ⟨_, e6⟩ := hkk 6 (by omega)
  obtain ⟨_, e7⟩ := hkk 7 (by omega)
  obtain ⟨k0, rfl, a0, b0'⟩ := u8_of (c := c1) e0
  obtain ⟨k1, rfl, a1, b1⟩ := u8_of (c := c2) e1
  obtain ⟨k2, rfl, a2, b2⟩ := u8_of (c := c3) e2
  obtain ⟨k3, rfl, a3, b3⟩ := u8_of (c := c4) e3
  obtain ⟨k4, rfl, a4, b4⟩ := u8_of (c := c5) e4
  obtain ⟨k5, rfl, a5, b5⟩ := u8_of (c := c6) e5
  obtain ⟨k6, rfl, a6, b6⟩ := u8_of (c := c7) e6
  obtain ⟨k7, rfl, a7, b7⟩ := u8_of (c := c8) e7
  exact ⟨⟨op, k0, k1, k2, k3, k4, k5, k6, k7, kd, x, y, nn⟩, ⟨⟨o1, o2⟩, ⟨a0, b0'⟩, ⟨a1, b1⟩, ⟨a2, b2⟩, ⟨a3, b3⟩, ⟨a4, b4⟩, ⟨a5, b5⟩, ⟨a6, b6⟩, ⟨a7, b7⟩, ⟨d1, d2⟩, ⟨x1, x2⟩, ⟨g1, g2⟩, ⟨n1, n2⟩⟩, rfl⟩
end Go.Proofs.YtjkepphpahfdgaaDoor
