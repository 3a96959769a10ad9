import Derived.Test.YtlamgpeiolfffaaGreatDoorZz37
import Derived.Lib.SmallJoins
import Derived.Deep.Slices
import Derived.Test.YtlamgpeiolfffaaGreatDoorZz36
namespace Go.Proofs.YtlamgpeiolfffaaGreatDoor
open Go.ChangeShapes Go.WideShapes Go.ChangeAt Go.RowKit Go.Joins

theorem Tryz.cells28 : Tryz.prog.cellsOf 58 = 13 := by kernel_rfl
theorem Tryz.cells23 : Tryz.prog.cellsOf 56 = 8 := by kernel_rfl
theorem Tryz.cells26 : Tryz.prog.cellsOf 30 = 3 := by kernel_rfl
theorem Tryz.cells5 : Tryz.prog.cellsOf 5 = 1 := by kernel_rfl
theorem Tryz.cells24 : Tryz.prog.cellsOf 23 = 1 := by kernel_rfl
theorem list13 {cs : List Value} (h : cs.length = 13) : ∃ c0 c1 c2 c3 c4 c5 c6 c7 c8 c9 c10 c11 c12, cs = [c0, c1, c2, c3, c4, c5, c6, c7, c8, c9, c10, c11, c12] := by
  match cs, h with
  | [c0, c1, c2, c3, c4, c5, c6, c7, c8, c9, c10, c11, c12], _ => exact ⟨c0, c1, c2, c3, c4, c5, c6, c7, c8, c9, c10, c11, c12, rfl⟩
theorem u8_of {H : Type} {enc : TypeId × Value → H} {W : World} {base n : Nat} {spare : Nat → Bool} {held : Bool} {c : Value} {x : DataW H × List MemPlace} (h : DataW.trod enc Tryz.prog W base spare held n 5 [c] = some x) : ∃ a, c = .int .u8 a ∧ 0 ≤ a ∧ a ≤ 255 := by
  obtain ⟨a, e, _, wa⟩ := DataW.trod_int Tryz.underlying5 h
  have hb := bounds_u8 wa
  simp at e
  exact ⟨a, e, hb.1, by omega⟩
theorem u64_of {H : Type} {enc : TypeId × Value → H} {W : World} {base n : Nat} {spare : Nat → Bool} {held : Bool} {c : Value} {x : DataW H × List MemPlace} (h : DataW.trod enc Tryz.prog W base spare held n 23 [c] = some x) : ∃ a, c = .int .u64 a ∧ 0 ≤ a ∧ a ≤ 18446744073709551615 := by
  obtain ⟨a, e, _, wa⟩ := DataW.trod_int Tryz.underlying23 h
  have hb := bounds_u64 wa
  simp at e
  exact ⟨a, e, hb.1, by omega⟩

set_option maxRecDepth 100000 in
/-- The cells of a request: its numbers. -/
theorem req_of {H : Type} {enc : TypeId × Value → H} {W : World} {base fuel : Nat} {spare : Nat → Bool} {held : Bool} {cs : List Value} {x : DataW H × List MemPlace}
    (hl : cs.length = 13) (hf : DataW.trod enc Tryz.prog W base spare held fuel 58 cs = some x) : ∃ q : Rq, (q.ok ∧ q.byt) ∧ cs = rqcl q := by
  obtain ⟨c0, c1, c2, c3, c4, c5, c6, c7, c8, c9, c10, c11, c12, rfl⟩ := list13 hl
  obtain ⟨y0, y1, y2, y3, n, _, _, t0, t1, t2, t3⟩ := trod_struct4 Tryz.underlying58 hf
  simp only [Tryz.cells5, Tryz.cells23, Tryz.cells26, Tryz.cells24] at t0 t1 t2 t3
  obtain ⟨op, rfl, o1, o2⟩ := u8_of (c := c0) t0
  obtain ⟨nn, rfl, n1, n2⟩ := u64_of (c := c12) t3
  obtain ⟨xs, m, _, _, _, hxl, hk⟩ := DataW.trod_array Tryz.underlying56 t1
  obtain ⟨z0, z1, z2, n', _, _, s0, s1, s2⟩ := Deep.trod_struct3 Tryz.underlying30 t2
  simp only [Tryz.cells5, Tryz.cells24] at s0 s1 s2
  obtain ⟨kd, rfl, d1, d2⟩ := u8_of (c := c9) s0
  obtain ⟨x, rfl, x1, x2⟩ := u64_of (c := c10) s1
  obtain ⟨y, rfl, g1, g2⟩ := u64_of (c := c11) s2
  have hkk : ∀ i, i < 8 → ∃ z, DataW.trod enc Tryz.prog W base spare held m 5 ((List.drop i [c1, c2, c3, c4, c5, c6, c7, c8]).take 1) = some z := by
    intro i hi
    have := hk i hi
    rw [Tryz.cells5, Nat.mul_one, List.getElem?_eq_getElem (by omega)] at this
    exact ⟨_, this⟩
  obtain ⟨_, e0⟩ := hkk 0 (by omega)
  obtain ⟨_, e1⟩ := hkk 1 (by omega)
  obtain ⟨_, e2⟩ := hkk 2 (by omega)
  obtain ⟨_, e3⟩ := hkk 3 (by omega)
  obtain ⟨_, e4⟩ := hkk 4 (by omega)
  obtain ⟨_, e5⟩ := hkk 5 (by omega)
  obtain ⟨_, e6⟩ := hkk 6 (by omega)
  obtain ⟨_, e7⟩ := hkk 7 (by omega)
  obtain ⟨k0, rfl, a0, b0'⟩ := u8_of (c := c1) e0
  obtain ⟨k1, rfl, a1, b1⟩ := u8_of (c := c2) e1
  obtain ⟨k2, rfl, a2, b2⟩ := u8_of (c := c3) e2
  obtain ⟨k3, rfl, a3, b3⟩ := u8_of (c := c4) e3
  obtain ⟨k4, rfl, a4, b4⟩ := u8_of (c := c5) e4
  obtain ⟨k5, rfl, a5, b5⟩ := u8_of (c := c6) e5
  obtain ⟨k6, rfl, a6, b6⟩ := u8_of (c := c7) e6
  obtain ⟨k7, rfl, a7, b7⟩ := u8_of (c := c8) e7
  exact ⟨⟨op, k0, k1, k2, k3, k4, k5, k6, k7, kd, x, y, nn⟩, ⟨⟨⟨⟨a0, b0'⟩, ⟨a1, b1⟩, ⟨a2, b2⟩, ⟨a3, b3⟩, ⟨a4, b4⟩, ⟨a5, b5⟩, ⟨a6, b6⟩, ⟨a7, b7⟩⟩, ⟨x1, x2⟩, ⟨g1, g2⟩, ⟨n1, n2⟩⟩, ⟨⟨o1, o2⟩, ⟨d1, d2⟩⟩⟩, rfl⟩

set_option maxRecDepth 100000 in
/-- A list of requests that comes in. -/
theorem open_reqs {H : Type} {enc : TypeId × Value → H} {W : World} {r : Reach} {b0 base : Nat} {spare : Nat → Bool} {held : Bool} {v : Value} {d : DataW H} {p : List MemPlace}
    (hv : Value.okWide Tryz.prog W r b0 28 v) (h : DataW.Trod enc Tryz.prog W base spare held 28 v d p) : ∃ qs : List Rq, RqsAt W v qs ∧ (∀ q ∈ qs, q.ok ∧ q.byt) ∧ qs.length ≤ maxLen := by
  obtain ⟨a, len, cap, rfl⟩ := okWide_slice Tryz.underlying28 hv
  obtain ⟨fuel, hf⟩ := h
  have hf' : DataW.trod enc Tryz.prog W base spare held fuel 28 [.slice a len cap] = some (d, p) := by simpa [Value.cells] using hf
  rcases Deep.open_slice Tryz.underlying28 hf' with ⟨e, _⟩ | ⟨a', len', cap', m, n, D, Pl, e, hb, hlc, hcm, hm, _, hel⟩
  · simp at e
    obtain ⟨rfl, rfl, rfl⟩ := e
    exact ⟨[], Or.inl ⟨rfl, none, 0, rfl⟩, fun q hq => by simp at hq, by simp⟩
  · simp at e
    obtain ⟨rfl, rfl, rfl⟩ := e
    have hlm : len ≤ m := by rw [hm]; split <;> omega
    rw [Tryz.cells28] at hel
    have each : ∀ i, i < len → ∃ q : Rq, (q.ok ∧ q.byt) ∧ W.cells? base (a'.add (i * 13)) 13 = some (rqcl q) := by
      intro i hi
      obtain ⟨cs, h1, h2⟩ := hel i (by omega)
      obtain ⟨q, h3, rfl⟩ := req_of (World.cells?_some h1).2.1 h2
      exact ⟨q, h3, h1⟩
    rcases Nat.eq_zero_or_pos len with h0 | hp
    · subst h0
      exact ⟨[], Or.inl ⟨rfl, some a', cap, rfl⟩, fun q hq => by simp at hq, by simp⟩
    · have hchoose : ∃ Q : Nat → Rq, ∀ i, i < len → ((Q i).ok ∧ (Q i).byt) ∧ W.cells? base (a'.add (i * 13)) 13 = some (rqcl (Q i)) := by
        refine ⟨fun i => if h : i < len then (each i h).choose else Rq.zero, fun i hi => ?_⟩
        dsimp only
        rw [dif_pos hi]
        exact (each i hi).choose_spec
      obtain ⟨Q, hQ⟩ := hchoose
      have hc : ∀ i, i < len → ∀ j, j < 13 → W.cell? ((a'.add (i * 13)).add j) = (rqcl (Q i))[j]? := fun i hi j hj => (World.cells?_some (hQ i hi).2).2.2 j hj
      have hsp : a'.spot = none := by
        have := hc 0 hp 0 (by omega)
        exact World.cell?_spot (v := .int .u8 (Q 0).op) (by simpa [Addr.add] using this)
      obtain ⟨A, o, sp⟩ := a'
      simp at hsp
      subst hsp
      refine ⟨(List.range len).map Q, Or.inr ⟨by simpa using hp, A, o, cap, by simp, by simpa using hlc, ?_, fun i hi j => ?_⟩, fun q hq => ?_, by simp; omega⟩
      · exact World.cells?_block (hQ 0 hp).2 (by omega)
      · rcases Nat.lt_or_ge j 13 with hj | hj
        · left
          have hi' : i < len := by simpa using hi
          have := hc i hi' j hj
          rw [Deep.add_add, Addr.add_lit] at this
          rw [Nat.add_assoc, this]
          simp
        · right; exact hj
      · obtain ⟨i, hi, rfl⟩ := List.mem_map.1 hq
        exact (hQ i (List.mem_range.1 hi)).1
end Go.Proofs.YtlamgpeiolfffaaGreatDoor

namespace Go.Proofs.YtlamgpeiolfffaaGreatDoor
open Go.ChangeShapes Go.WideShapes Go.ChangeAt Go.RowKit Go.Joins

theorem bulk_one {H : Type} (d : DataW H) : 1 ≤ Rows.uptoBulk d := by
  cases d with
  | lit l => cases l <;> simp [Rows.uptoBulk]
  | nil => simp [Rows.uptoBulk]
  | ptr d => simp [Rows.uptoBulk]
  | slice a b => simp [Rows.uptoBulk]
  | agg a => simp [Rows.uptoBulk]
  | iface a b => simp [Rows.uptoBulk]
  | map a => simp [Rows.uptoBulk]
  | held a => simp [Rows.uptoBulk]
theorem bulk_mem {H : Type} {d : DataW H} : ∀ {l : List (DataW H)}, d ∈ l → Rows.uptoBulk d ≤ Rows.uptoBulkAll l
  | x :: r, h => by
    simp only [Rows.uptoBulkAll]
    rcases List.mem_cons.1 h with rfl | h
    · omega
    · have := bulk_mem h; omega
theorem bulk_len {H : Type} : ∀ (l : List (DataW H)), l.length ≤ Rows.uptoBulkAll l
  | [] => by simp
  | x :: r => by have := bulk_len r; have := bulk_one x; simp only [Rows.uptoBulkAll, List.length_cons]; omega
theorem trod_struct10 {H : Type} {enc : TypeId × Value → H} {P : Program} {w : World} {base : Nat} {spare : Nat → Bool} {held : Bool} {t : TypeId} {f0 f1 f2 f3 f4 f5 f6 f7 f8 f9 : Field} {fuel : Nat} {cs : List Value} {x : DataW H × List MemPlace} (ht : P.underlying t = some (.struct #[f0, f1, f2, f3, f4, f5, f6, f7, f8, f9])) (h : DataW.trod enc P w base spare held fuel t cs = some x) :
    ∃ y0 y1 y2 y3 y4 y5 y6 y7 y8 y9 n, x.1 = .agg [y0.1, y1.1, y2.1, y3.1, y4.1, y5.1, y6.1, y7.1, y8.1, y9.1] ∧ cs.length = P.cellsOf t ∧
      DataW.trod enc P w base spare held n f0.type ((cs.drop f0.offset).take (P.cellsOf f0.type)) = some y0 ∧ DataW.trod enc P w base spare held n f1.type ((cs.drop f1.offset).take (P.cellsOf f1.type)) = some y1 ∧
      DataW.trod enc P w base spare held n f2.type ((cs.drop f2.offset).take (P.cellsOf f2.type)) = some y2 ∧ DataW.trod enc P w base spare held n f3.type ((cs.drop f3.offset).take (P.cellsOf f3.type)) = some y3 ∧
      DataW.trod enc P w base spare held n f4.type ((cs.drop f4.offset).take (P.cellsOf f4.type)) = some y4 ∧ DataW.trod enc P w base spare held n f5.type ((cs.drop f5.offset).take (P.cellsOf f5.type)) = some y5 ∧
      DataW.trod enc P w base spare held n f6.type ((cs.drop f6.offset).take (P.cellsOf f6.type)) = some y6 ∧ DataW.trod enc P w base spare held n f7.type ((cs.drop f7.offset).take (P.cellsOf f7.type)) = some y7 ∧
      DataW.trod enc P w base spare held n f8.type ((cs.drop f8.offset).take (P.cellsOf f8.type)) = some y8 ∧ DataW.trod enc P w base spare held n f9.type ((cs.drop f9.offset).take (P.cellsOf f9.type)) = some y9 := by
  obtain ⟨xs, n, _, rfl, hl, hlen, hf⟩ := DataW.trod_struct ht h
  match xs, hlen with
  | [y0, y1, y2, y3, y4, y5, y6, y7, y8, y9], _ => exact ⟨y0, y1, y2, y3, y4, y5, y6, y7, y8, y9, n, by simp, hl, by simpa using hf 0 f0 rfl, by simpa using hf 1 f1 rfl, by simpa using hf 2 f2 rfl, by simpa using hf 3 f3 rfl, by simpa using hf 4 f4 rfl, by simpa using hf 5 f5 rfl, by simpa using hf 6 f6 rfl, by simpa using hf 7 f7 rfl, by simpa using hf 8 f8 rfl, by simpa using hf 9 f9 rfl⟩
theorem Tryz.cells62 : Tryz.prog.cellsOf 62 = 10 := by kernel_rfl
theorem Tryz.cells3' : Tryz.prog.cellsOf 3 = 1 := by kernel_rfl
theorem Tryz.cells9' : Tryz.prog.cellsOf 9 = 1 := by kernel_rfl
theorem Tryz.cells28' : Tryz.prog.cellsOf 28 = 1 := by kernel_rfl
theorem i64_of {H : Type} {enc : TypeId × Value → H} {W : World} {base n : Nat} {spare : Nat → Bool} {held : Bool} {c : Value} {x : DataW H × List MemPlace} (h : DataW.trod enc Tryz.prog W base spare held n 3 [c] = some x) : ∃ a, c = .int .i64 a ∧ -9223372036854775808 ≤ a ∧ a ≤ 9223372036854775807 := by
  obtain ⟨a, e, _, wa⟩ := DataW.trod_int Tryz.underlying3 h
  have hb := bounds_i64 wa
  simp at e
  exact ⟨a, e, hb.1, by omega⟩
theorem list10 {cs : List Value} (h : cs.length = 10) : ∃ c0 c1 c2 c3 c4 c5 c6 c7 c8 c9, cs = [c0, c1, c2, c3, c4, c5, c6, c7, c8, c9] := by
  match cs, h with
  | [c0, c1, c2, c3, c4, c5, c6, c7, c8, c9], _ => exact ⟨c0, c1, c2, c3, c4, c5, c6, c7, c8, c9, rfl⟩

set_option maxRecDepth 100000 in
/-- The requests of a step. -/
theorem reqs_of {H : Type} {enc : TypeId × Value → H} {W : World} {base fuel : Nat} {spare : Nat → Bool} {held : Bool} {c : Value} {x : DataW H × List MemPlace} (hf : DataW.trod enc Tryz.prog W base spare held fuel 28 [c] = some x) :
    ∃ qs : List Rq, RqAt W c qs ∧ (∀ q ∈ qs, q.ok) ∧ qs.length ≤ Rows.uptoBulk x.1 := by
  rcases Deep.open_slice Tryz.underlying28 hf with ⟨e, _⟩ | ⟨a', len, cap, m, n, D, Pl, e, hb, hlc, hcm, hm, hx, hel⟩
  · simp at e
    subst e
    exact ⟨[], ⟨none, 0, rfl, by simp, fun h => (by simp at h)⟩, fun q hq => (by cases hq), by simp⟩
  · simp at e
    subst e
    have hlm : len ≤ m := by rw [hm]; split <;> omega
    rw [Tryz.cells28] at hel
    have hbk : len ≤ Rows.uptoBulk x.1 := by
      rw [hx]
      simp only [Rows.uptoBulk]
      have := bulk_len ((List.range len).map D)
      simp at this
      omega
    have each : ∀ i, i < len → ∃ q : Rq, q.ok ∧ W.cells? base (a'.add (i * 13)) 13 = some (rqcl q) := by
      intro i hi
      obtain ⟨cs, h1, h2⟩ := hel i (by omega)
      obtain ⟨q, h3, rfl⟩ := req_of (World.cells?_some h1).2.1 h2
      exact ⟨q, h3.1, h1⟩
    rcases Nat.eq_zero_or_pos len with h0 | hp
    · subst h0
      exact ⟨[], ⟨some a', cap, rfl, by simp, fun h => (by simp at h)⟩, fun q hq => (by cases hq), by simp⟩
    · have hchoose : ∃ Q : Nat → Rq, ∀ i, i < len → (Q i).ok ∧ W.cells? base (a'.add (i * 13)) 13 = some (rqcl (Q i)) := by
        refine ⟨fun i => if h : i < len then (each i h).choose else Rq.zero, fun i hi => ?_⟩
        dsimp only
        rw [dif_pos hi]
        exact (each i hi).choose_spec
      obtain ⟨Q, hQ⟩ := hchoose
      have hc : ∀ i, i < len → ∀ j, j < 13 → W.cell? ((a'.add (i * 13)).add j) = (rqcl (Q i))[j]? := fun i hi j hj => (World.cells?_some (hQ i hi).2).2.2 j hj
      have hsp : a'.spot = none := by
        have := hc 0 hp 0 (by omega)
        exact World.cell?_spot (v := .int .u8 (Q 0).op) (by simpa [Addr.add] using this)
      obtain ⟨A, o, sp⟩ := a'
      simp at hsp
      subst hsp
      refine ⟨(List.range len).map Q, ⟨some ⟨A, o, none⟩, cap, by simp, by simpa using hlc, fun _ => ⟨A, o, rfl, World.cells?_block (hQ 0 hp).2 (by omega), fun i hi j hj => ?_⟩⟩, fun q hq => ?_, by simpa using hbk⟩
      · have hi' : i < len := by simpa using hi
        have := hc i hi' j hj
        rw [Deep.add_add, Addr.add_lit] at this
        rw [Nat.add_assoc, this]
        simp
      · obtain ⟨i, hi, rfl⟩ := List.mem_map.1 hq
        exact (hQ i (List.mem_range.1 hi)).1

set_option maxRecDepth 100000 in
/-- The cells of a step. -/
theorem step_of {H : Type} {enc : TypeId × Value → H} {W : World} {base fuel : Nat} {spare : Nat → Bool} {held : Bool} {cs : List Value} {x : DataW H × List MemPlace}
    (hl : cs.length = 10) (hf : DataW.trod enc Tryz.prog W base spare held fuel 62 cs = some x) : ∃ (p : Sp) (v : Value), p.ok ∧ p.qs.length ≤ Rows.uptoBulk x.1 ∧ p.raw.size ≤ Rows.uptoBulk x.1 ∧ cs = stv p v ∧ RqAt W v p.qs := by
  obtain ⟨c0, c1, c2, c3, c4, c5, c6, c7, c8, c9, rfl⟩ := list10 hl
  obtain ⟨y0, y1, y2, y3, y4, y5, y6, y7, y8, y9, n, hx, _, t0, t1, t2, t3, t4, t5, t6, t7, t8, t9⟩ := trod_struct10 Tryz.underlying62 hf
  simp only [Tryz.cells3', Tryz.cells9', Tryz.cells28', Tryz.cells24] at t0 t1 t2 t3 t4 t5 t6 t7 t8 t9
  obtain ⟨kd, rfl, _, _⟩ := i64_of (c := c0) t0
  obtain ⟨cn, rfl, cn1, cn2⟩ := i64_of (c := c1) t1
  obtain ⟨nw, rfl, nw1, nw2⟩ := u64_of (c := c2) t2
  obtain ⟨qs, hq1, hq2, hq3⟩ := reqs_of (c := c3) t3
  obtain ⟨s, hs, hy4, _⟩ := DataW.trod_string Tryz.underlying9 t4
  obtain rfl : c4 = .string s := by simpa using hs
  obtain ⟨ct, rfl, ct1, ct2⟩ := i64_of (c := c5) t5
  obtain ⟨lf, rfl, _, _⟩ := i64_of (c := c6) t6
  obtain ⟨fl, rfl, _, _⟩ := i64_of (c := c7) t7
  obtain ⟨kp, rfl, _, _⟩ := i64_of (c := c8) t8
  obtain ⟨pt, rfl, _, _⟩ := i64_of (c := c9) t9
  have b3 : Rows.uptoBulk y3.1 ≤ Rows.uptoBulk x.1 := by
    rw [hx]
    simp only [Rows.uptoBulk]
    have := bulk_mem (d := y3.1) (l := [y0.1, y1.1, y2.1, y3.1, y4.1, y5.1, y6.1, y7.1, y8.1, y9.1]) (by simp)
    omega
  have b4 : Rows.uptoBulk y4.1 ≤ Rows.uptoBulk x.1 := by
    rw [hx]
    simp only [Rows.uptoBulk]
    have := bulk_mem (d := y4.1) (l := [y0.1, y1.1, y2.1, y3.1, y4.1, y5.1, y6.1, y7.1, y8.1, y9.1]) (by simp)
    omega
  have b5 : s.size + 1 = Rows.uptoBulk y4.1 := by rw [hy4, Rows.uptoBulk, Array.length_toList]; rfl
  exact ⟨⟨kd, cn, nw, qs, s, ct, lf, fl, kp, pt⟩, c3, ⟨⟨cn1, cn2⟩, ⟨nw1, nw2⟩, ⟨ct1, ct2⟩, hq2⟩, Nat.le_trans hq3 b3, by show s.size ≤ _; omega, rfl, hq1⟩

set_option maxRecDepth 100000 in
/-- A script that comes in. -/
theorem open_steps {H : Type} {enc : TypeId × Value → H} {W : World} {r : Reach} {b0 base : Nat} {spare : Nat → Bool} {held : Bool} {v : Value} {d : DataW H} {pl : List MemPlace}
    (hv : Value.okWide Tryz.prog W r b0 22 v) (h : DataW.Trod enc Tryz.prog W base spare held 22 v d pl) : ∃ ao n cap, v = .slice ao n cap ∧ n ≤ cap ∧ n ≤ Rows.uptoBulk d ∧ ∃ sps : List Sp, sps.length = n ∧ (∀ p ∈ sps, p.ok ∧ p.qs.length ≤ Rows.uptoBulk d ∧ p.raw.size ≤ Rows.uptoBulk d) ∧
      (0 < n → ∃ A o, ao = some ⟨A, o, none⟩ ∧ A < W.heap.size ∧ ∀ i (h : i < sps.length), ∃ v, (∀ x, x < 10 → W.cell? ⟨A, o + i * 10 + x, none⟩ = (stv sps[i] v)[x]?) ∧ RqAt W v sps[i].qs) := by
  obtain ⟨a, len, cap, rfl⟩ := okWide_slice Tryz.underlying22 hv
  obtain ⟨fuel, hf⟩ := h
  have hf' : DataW.trod enc Tryz.prog W base spare held fuel 22 [.slice a len cap] = some (d, pl) := by simpa [Value.cells] using hf
  rcases Deep.open_slice Tryz.underlying22 hf' with ⟨e, _⟩ | ⟨a', len', cap', m, n, D, Pl, e, hb, hlc, hcm, hm, hx, hel⟩
  · simp at e
    obtain ⟨rfl, rfl, rfl⟩ := e
    exact ⟨none, 0, 0, rfl, by omega, by omega, [], rfl, fun p hp => (by cases hp), fun h => (by omega)⟩
  · simp at e
    obtain ⟨rfl, rfl, rfl⟩ := e
    have hlm : len ≤ m := by rw [hm]; split <;> omega
    rw [Tryz.cells62] at hel
    have hd : d = .slice ((List.range len).map D) ((List.range (m - len)).map fun j => D (len + j)) := congrArg Prod.fst hx
    have hbk : len ≤ Rows.uptoBulk d := by
      rw [hd]
      simp only [Rows.uptoBulk]
      have := bulk_len ((List.range len).map D)
      simp at this
      omega
    have hbi : ∀ i, i < len → Rows.uptoBulk (D i) ≤ Rows.uptoBulk d := fun i hi => by
      rw [hd]
      simp only [Rows.uptoBulk]
      have := bulk_mem (d := D i) (l := (List.range len).map D) (List.mem_map.2 ⟨i, List.mem_range.2 hi, rfl⟩)
      omega
    have each : ∀ i, i < len → ∃ pv : Sp × Value, (pv.1.ok ∧ pv.1.qs.length ≤ Rows.uptoBulk d ∧ pv.1.raw.size ≤ Rows.uptoBulk d) ∧ RqAt W pv.2 pv.1.qs ∧ W.cells? base (a'.add (i * 10)) 10 = some (stv pv.1 pv.2) := by
      intro i hi
      obtain ⟨cs, h1, h2⟩ := hel i (by omega)
      obtain ⟨p, v, h3, h4, h5, rfl, h6⟩ := step_of (World.cells?_some h1).2.1 h2
      have := hbi i hi
      exact ⟨(p, v), ⟨h3, Nat.le_trans h4 this, Nat.le_trans h5 this⟩, h6, h1⟩
    refine ⟨some a', len, cap, rfl, hlc, hbk, ?_⟩
    have hchoose : ∃ Q : Nat → Sp × Value, ∀ i, i < len → ((Q i).1.ok ∧ (Q i).1.qs.length ≤ Rows.uptoBulk d ∧ (Q i).1.raw.size ≤ Rows.uptoBulk d) ∧ RqAt W (Q i).2 (Q i).1.qs ∧ W.cells? base (a'.add (i * 10)) 10 = some (stv (Q i).1 (Q i).2) := by
      refine ⟨fun i => if h : i < len then (each i h).choose else (⟨0, 0, 0, [], ByteArray.empty, 0, 0, 0, 0, 0⟩, .slice none 0 0), fun i hi => ?_⟩
      dsimp only
      rw [dif_pos hi]
      exact (each i hi).choose_spec
    obtain ⟨Q, hQ⟩ := hchoose
    refine ⟨(List.range len).map (fun i => (Q i).1), by simp, fun p hp => ?_, fun hp => ?_⟩
    · obtain ⟨i, hi, rfl⟩ := List.mem_map.1 hp
      exact (hQ i (List.mem_range.1 hi)).1
    · have hc : ∀ i, i < len → ∀ j, j < 10 → W.cell? ((a'.add (i * 10)).add j) = (stv (Q i).1 (Q i).2)[j]? := fun i hi j hj => (World.cells?_some (hQ i hi).2.2).2.2 j hj
      have hsp : a'.spot = none := by
        have := hc 0 hp 0 (by omega)
        exact World.cell?_spot (v := .int .i64 (Q 0).1.kind) (by simpa [Addr.add] using this)
      obtain ⟨A, o, sp⟩ := a'
      simp at hsp
      subst hsp
      refine ⟨A, o, rfl, World.cells?_block (hQ 0 hp).2.2 (by omega), fun i hi => ?_⟩
      have hi' : i < len := by simpa using hi
      refine ⟨(Q i).2, fun x hx => ?_, ?_⟩
      · have := hc i hi' x hx
        rw [Deep.add_add, Addr.add_lit] at this
        rw [Nat.add_assoc, this]
        simp
      · have := (hQ i hi').2.1
        simpa using this
end Go.Proofs.YtlamgpeiolfffaaGreatDoor
