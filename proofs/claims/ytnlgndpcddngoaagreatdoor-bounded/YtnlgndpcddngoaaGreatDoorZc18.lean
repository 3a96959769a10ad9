import Derived.Test.YtnlgndpcddngoaaGreatDoorZc00
import Derived.Test.YtnlgndpcddngoaaGreatDoorZc04
import Derived.Test.YtnlgndpcddngoaaGreatDoorZc08
import Derived.Deep.RegionLaw
import Derived.Test.YtnlgndpcddngoaaGreatDoorZc10
import Derived.Test.YtnlgndpcddngoaaGreatDoorZc11
import Derived.Test.YtnlgndpcddngoaaGreatDoorZc12
import Derived.Test.YtnlgndpcddngoaaGreatDoorZc13
import Derived.Test.YtnlgndpcddngoaaGreatDoorZc14
import Derived.Test.YtnlgndpcddngoaaGreatDoorZc15
import Derived.Test.YtnlgndpcddngoaaGreatDoorZc16
import Derived.Test.YtnlgndpcddngoaaGreatDoorZc17
set_option linter.unusedSectionVars false
namespace Go.Proofs.YtnlgndpcddngoaaGreatDoor
open Go.RowKit
variable [dK] [iK]

set_option maxRecDepth 100000 in
set_option maxHeartbeats 400000 in
theorem body_frame (lo hi : Int) (f : Nat) (v : Value) (w : World)
    (hbeg : Hid (∀ w1, Below w.heap.size w w1 → Calls Tryz.prog 132 #[.agg #[.int .u8 lo, .int .u8 hi, .func (.func f) #[] #[]], v] w1 fun e w' => e = .returned (.iface 53 (.int .i64 2)) ∧ Below w1.heap.size w1 w')) :
    Calls Tryz.prog 103 #[.agg #[.int .u8 lo, .int .u8 hi, .func (.func f) #[] #[]], v] w fun e w' => e = .returned (.tuple #[.slice none 0 0, .iface 53 (.int .i64 2)]) ∧ Below w.heap.size w w' := by
  go_enter Tryz.func103, Tryz.ntmps103
  go_wp2_with fail
  refine (hbeg.out _ ((Below.refl _ w).alloc (Nat.le_refl _) _)).mono ?_
  rintro e w1 ⟨rfl, hb1⟩
  go_wp2_with fail
  refine (is_same _ _).mono ?_
  rintro e w2 ⟨rfl, rfl⟩
  go_wp2
  go_ret2
  exact ⟨rfl, ((Below.refl _ w).alloc (Nat.le_refl _) _).trans (hb1.mono (by simp))⟩

set_option maxRecDepth 100000 in
set_option maxHeartbeats 400000 in
theorem body_short (lo hi : Int) (f : Nat) (v : Value) (w : World)
    (hbeg : Hid (∀ w1, Below w.heap.size w w1 → Calls Tryz.prog 132 #[.agg #[.int .u8 lo, .int .u8 hi, .func (.func f) #[] #[]], v] w1 fun e w' => e = .returned (.iface 53 (.int .i64 1)) ∧ Below w1.heap.size w1 w')) :
    Calls Tryz.prog 103 #[.agg #[.int .u8 lo, .int .u8 hi, .func (.func f) #[] #[]], v] w fun e w' => e = .returned (.tuple #[.slice none 0 0, .iface 53 (.int .i64 1)]) ∧ Below w.heap.size w w' := by
  go_enter Tryz.func103, Tryz.ntmps103
  go_wp2_with fail
  refine (hbeg.out _ ((Below.refl _ w).alloc (Nat.le_refl _) _)).mono ?_
  rintro e w1 ⟨rfl, hb1⟩
  go_wp2_with fail
  refine (is_other _ _ _ (by decide)).mono ?_
  rintro e w2 ⟨rfl, rfl⟩
  go_wp2_with fail
  refine (is_same _ _).mono ?_
  rintro e w2 ⟨rfl, rfl⟩
  go_wp2
  go_ret2
  exact ⟨rfl, ((Below.refl _ w).alloc (Nat.le_refl _) _).trans (hb1.mono (by simp))⟩

set_option maxRecDepth 100000 in
set_option maxHeartbeats 400000 in
theorem body_short2 (lo hi : Int) (f : Nat) (g so n cap : Nat) (b0 : Int) (w : World) (hn : 0 < n) (h0 : 0 ≤ b0) (h1 : b0 ≤ 255) (hg : g < w.heap.size) (hc0 : w.cell? ⟨g, so, none⟩ = some (.int .u8 b0)) (hle : (n : Int) ≤ b0)
    (hbeg : Hid (∀ w1, Below w.heap.size w w1 → Calls Tryz.prog 132 #[.agg #[.int .u8 lo, .int .u8 hi, .func (.func f) #[] #[]], .slice (some ⟨g, so, none⟩) n cap] w1 fun e w' => e = .returned .nilIface ∧ Below w1.heap.size w1 w')) :
    Calls Tryz.prog 103 #[.agg #[.int .u8 lo, .int .u8 hi, .func (.func f) #[] #[]], .slice (some ⟨g, so, none⟩) n cap] w fun e w' => e = .returned (.tuple #[.slice none 0 0, .iface 53 (.int .i64 1)]) ∧ Below w.heap.size w w' := by
  go_enter Tryz.func103, Tryz.ntmps103
  go_wp2_with fail
  refine (hbeg.out _ ((Below.refl _ w).alloc (Nat.le_refl _) _)).mono ?_
  rintro e w1 ⟨rfl, hb1⟩
  have hB1 : Below w.heap.size w w1 := ((Below.refl _ w).alloc (Nat.le_refl _) _).trans (hb1.mono (by simp))
  have hc1 : w1.cell? ⟨g, so, none⟩ = some (.int .u8 b0) := (hB1.cell (p := ⟨g, so, none⟩) hg).trans hc0
  clear hb1
  go_wp2_with fail
  refine (is_nil _ _).mono ?_
  rintro e w2 ⟨rfl, rfl⟩
  go_wp2_with fail
  refine (is_nil _ _).mono ?_
  rintro e w2 ⟨rfl, rfl⟩
  go_wp2
  go_ret2
  exact ⟨rfl, hB1⟩

set_option maxRecDepth 100000 in
set_option maxHeartbeats 400000 in
theorem body_ok (lo hi : Int) (f : Nat) (g so n cap : Nat) (b0 : Nat) (w : World) (hn : b0 < n) (hnc : n ≤ cap) (hn1 : n ≤ 1048576) (h0 : 0 < b0) (h1 : b0 ≤ 255) (hg : g < w.heap.size) (hc0 : w.cell? ⟨g, so, none⟩ = some (.int .u8 b0))
    (hbeg : Hid (∀ w1, Below w.heap.size w w1 → Calls Tryz.prog 132 #[.agg #[.int .u8 lo, .int .u8 hi, .func (.func f) #[] #[]], .slice (some ⟨g, so, none⟩) n cap] w1 fun e w' => e = .returned .nilIface ∧ Below w1.heap.size w1 w')) :
    Calls Tryz.prog 103 #[.agg #[.int .u8 lo, .int .u8 hi, .func (.func f) #[] #[]], .slice (some ⟨g, so, none⟩) n cap] w fun e w' => e = .returned (.tuple #[.slice (some ⟨g, so + 1, none⟩) b0 b0, .nilIface]) ∧ Below w.heap.size w w' := by
  have hnp : 0 < n := by omega
  have hcm : 0 < cap := by omega
  go_enter Tryz.func103, Tryz.ntmps103
  go_wp2_with fail
  refine (hbeg.out _ ((Below.refl _ w).alloc (Nat.le_refl _) _)).mono ?_
  rintro e w1 ⟨rfl, hb1⟩
  have hB1 : Below w.heap.size w w1 := ((Below.refl _ w).alloc (Nat.le_refl _) _).trans (hb1.mono (by simp))
  have hc1 : w1.cell? ⟨g, so, none⟩ = some (.int .u8 b0) := (hB1.cell (p := ⟨g, so, none⟩) hg).trans hc0
  clear hb1
  go_wp2_with fail
  refine (is_nil _ _).mono ?_
  rintro e w2 ⟨rfl, rfl⟩
  go_wp2_with fail
  refine (is_nil _ _).mono ?_
  rintro e w2 ⟨rfl, rfl⟩
  go_wp2
  go_ret2
  rw [Nat.add_sub_cancel_left]
  exact ⟨rfl, hB1⟩
end Go.Proofs.YtnlgndpcddngoaaGreatDoor

namespace Go.Proofs.YtnlgndpcddngoaaGreatDoor
open Go.RowKit
variable [dK] [iK]

set_option maxRecDepth 100000 in
set_option maxHeartbeats 400000 in
theorem told_nil (w : World) : Calls Tryz.prog 35 #[.nilIface] w fun e w' => e = .returned (.int .i64 0) ∧ Below w.heap.size w w' := by
  go_enter Tryz.func35, Tryz.ntmps35
  go_wp2
  go_ret
  exact ⟨rfl, (Below.refl _ w).alloc (Nat.le_refl _) _⟩

set_option maxRecDepth 100000 in
set_option maxHeartbeats 1000000 in
theorem told_err (n : Int) (w : World) (hg : w.cell? ⟨0, 0, none⟩ = some (.iface 236 (.agg #[.pointer (some ⟨5, 97, none⟩)]))) :
    Calls Tryz.prog 35 #[.iface 53 (.int .i64 n)] w fun e w' => e = .returned (.int .i64 n) ∧ Below w.heap.size w w' := by
  have hlt : 0 < w.heap.size := by
    rcases Nat.eq_zero_or_pos w.heap.size with h0 | h
    · simp [World.cell?, h0] at hg
    · exact h
  have hgA : (w.alloc (.cells #[.int .i64 0] 53)).cell? ⟨0, 0, none⟩ = some (.iface 236 (.agg #[.pointer (some ⟨5, 97, none⟩)])) := by
    rw [World.cell?_alloc_lt _ _ ⟨0, 0, none⟩ hlt]; exact hg
  have htA : (w.alloc (.cells #[.int .i64 0] 53)).cell? ⟨w.heap.size, 0, none⟩ = some (.int .i64 0) := by simp
  have hfA : (w.alloc (.cells #[.int .i64 0] 53)).frozen? ⟨w.heap.size, 0, none⟩ = false := by simp
  go_enter Tryz.func35, Tryz.ntmps35
  go_wp2_with (first | (go_at_call 51; refine (as_hit _ _ (.int .i64 0) _ hgA htA hfA).mono ?_; rintro e w' ⟨rfl, rfl⟩) | (go_at_call 52; refine (is_same _ _).mono ?_; rintro e w' ⟨rfl, rfl⟩))
  go_ret
  exact ⟨rfl, (((((Below.refl _ w).alloc (Nat.le_refl _) _).alloc (by simp) _).alloc (by simp; omega) _).alloc (by simp; omega) _).alloc (by simp; omega) _⟩
end Go.Proofs.YtnlgndpcddngoaaGreatDoor

namespace Go.Proofs.YtnlgndpcddngoaaGreatDoor
open Go.RowKit
variable [dK] [iK]

/-- A quota as bytes. -/
def qby (q : Qt) : List Int := [q.kd] ++ be8 q.x ++ be8 q.y ++ be8 q.lv ++ be8 q.wn
theorem qby_length (q : Qt) : (qby q).length = 33 := by simp [qby, be8]
/-- Numbers of a quota that lie in 64 bits. -/
structure Qt.fit (q : Qt) : Prop where
  kd : 0 ≤ q.kd ∧ q.kd ≤ 255
  x : 0 ≤ q.x ∧ q.x ≤ 18446744073709551615
  y : 0 ≤ q.y ∧ q.y ≤ 18446744073709551615
  lv : 0 ≤ q.lv ∧ q.lv ≤ 18446744073709551615
  wn : 0 ≤ q.wn ∧ q.wn ≤ 18446744073709551615
abbrev qcells (q : Qt) : Array Value := #[.int .u8 q.kd, .int .u64 q.x, .int .u64 q.y, .int .u64 q.lv, .int .u64 q.wn]

set_option maxRecDepth 100000 in
set_option maxHeartbeats 1000000 in
theorem qapp (base n : Nat) (xs : List Int) (b : Value) (q : Qt) (w : World) (hn : xs.length = n) (hown : w.ownsRow base 5 1 b n (xs.map (Value.int .u8))) (hroom : n + 33 ≤ 4000000) (hbase : base ≤ w.heap.size) (hq : q.fit) :
    Calls Tryz.prog 194 #[.agg #[.int .u8 q.kd, .int .u64 q.x, .int .u64 q.y, .int .u64 q.lv, .int .u64 q.wn], b] w fun e w' => ∃ b', e = .returned b' ∧ w'.ownsRow base 5 1 b' (n + 33) ((xs ++ qby q).map (Value.int .u8)) ∧ Grw w w' b b' := by
  have hbl : ∀ g, b.ownBlock = some g → g < w.heap.size := fun g e => (own_ltE hown e).2
  obtain ⟨V, hV⟩ : ∃ V, V = w.alloc (.cells #[.int .u8 q.kd, .int .u64 q.x, .int .u64 q.y, .int .u64 q.lv, .int .u64 q.wn] 173) := ⟨_, rfl⟩
  have hsV : V.heap.size = w.heap.size + 1 := by rw [hV]; simp
  have hP0 : V.heap[w.heap.size]? = some (.cells #[.int .u8 q.kd, .int .u64 q.x, .int .u64 q.y, .int .u64 q.lv, .int .u64 q.wn] 173) := hV ▸ heapNew _ _
  have HGV : Hid (Grw w V b b) := hide (by rw [hV]; exact (Grw.refl w b).alloc _)
  have HO : Hid (V.ownsRow base 5 1 b n (xs.map (Value.int .u8))) := hide (by rw [hV]; exact hown.alloc _)
  obtain ⟨P, hP⟩ : ∃ P, P = w.heap.size := ⟨_, rfl⟩
  have HPb : b.ownBlock ≠ some P := fun e => by have := hbl P e; omega
  rw [← hP] at hP0
  have HNN := hide hn
  have HPP := hide hP
  have HSV := hide hsV
  have HXX := hide hq
  have c0 := cellB hP0
  clear hown hbl hn hP hsV hq
  go_enter Tryz.func194, Tryz.ntmps194
  go_wp2_with fail
  rw [← hV, ← HPP.out]
  clear hV
  go_wp2_with fail
  refine (polG base n xs b q.kd q.x q.y V HNN.out HO.out (by omega) (by have := HSV.out; omega) HXX.out.x.1 HXX.out.x.2 HXX.out.y.1 HXX.out.y.2).mono ?_
  rintro e w1 ⟨b1, rfl, o1, G1⟩
  have hP1 := G1.block hP0 HPb
  have n1 := G1.ne (ltB hP0) HPb
  have c1 := cellB hP1
  have hs1 := G1.g.size
  have HO1 := hide o1
  have HG1 := hide G1
  clear o1 G1 c0
  go_wp2_with fail
  refine (numG base (n + 17) _ b1 q.lv w1 (by have := HNN.out; simp [be8]; omega) HO1.out (by omega) (by have := HSV.out; omega) HXX.out.lv.1 HXX.out.lv.2).mono ?_
  rintro e w2 ⟨b2, rfl, o2, G2⟩
  have hP2 := G2.block hP1 n1
  have c2 := cellB hP2
  have hs2 := G2.g.size
  have HO2 := hide o2
  have HG2 := hide G2
  clear o2 G2 c1
  go_wp2_with fail
  refine (numG base (n + 17 + 8) _ b2 q.wn w2 (by have := HNN.out; simp [be8]; omega) HO2.out (by omega) (by have := HSV.out; omega) HXX.out.wn.1 HXX.out.wn.2).mono ?_
  rintro e w3 ⟨b3, rfl, o3, G3⟩
  have HO3 := hide o3
  have HG3 := hide G3
  clear o3 G3 c2
  go_wp2
  go_ret
  exact ⟨b3, rfl, by have := HO3.out; simpa [qby, Nat.add_assoc, List.append_assoc] using this, ((HGV.out.trans HG1.out).trans HG2.out).trans HG3.out⟩
end Go.Proofs.YtnlgndpcddngoaaGreatDoor

namespace Go.Proofs.YtnlgndpcddngoaaGreatDoor
open Go.RowKit
variable [dK] [iK]

def kby (k : Ky) : List Int := [k.k0, k.k1, k.k2, k.k3, k.k4, k.k5, k.k6, k.k7]
/-- The first byte of a slice of one's own is written. -/
theorem own_set0 {w : World} {base n cap g : Nat} {x y : Int} {xs : List Int} (h : w.ownsRow base 5 1 (.slice (some ⟨g, 0, none⟩) n cap) n ((x :: xs).map (Value.int .u8))) : (w.setCell ⟨g, 0, none⟩ (.int .u8 y)).ownsRow base 5 1 (.slice (some ⟨g, 0, none⟩) n cap) n ((y :: xs).map (Value.int .u8)) := by
  obtain ⟨h1, h2⟩ := h
  refine ⟨by simpa using h1, ?_⟩
  rcases h2 with ⟨h2, _⟩ | ⟨g', cap', cur, hv, hg, hh, r⟩
  · simp at h2
  · simp at hv
    obtain ⟨e1, e2⟩ := hv
    subst e1 e2
    refine Or.inr ⟨g, cap, cur.setIfInBounds 0 (.int .u8 y), rfl, hg, heapSet hh 0 _, ?_⟩
    obtain ⟨r1, r2, r3, r4⟩ := r
    refine ⟨r1, r2, by simpa using r3, ?_⟩
    have hn : n = xs.length + 1 := by simpa using h1.symm
    subst hn
    rw [Array.toList_setIfInBounds]
    cases hc : cur.toList with
    | nil => rw [hc] at r4; simp at r4
    | cons c rest =>
      rw [hc] at r4
      simp at r4 ⊢
      exact r4.2

set_option maxRecDepth 100000 in
set_option maxHeartbeats 2000000 in
theorem tell193 (bb base n : Nat) (x0 : Int) (xs : List Int) (b : Value) (k : Ky) (q : Qt) (w : World) (hn : xs.length = n) (hbox : w.heap[bb]? = some (.cells #[b] 76)) (hown : w.ownsRow base 5 1 b (n + 1) ((x0 :: xs).map (Value.int .u8))) (hx : 0 ≤ x0 ∧ x0 < 255) (hroom : n + 50 ≤ 4000000) (hbase : base ≤ w.heap.size) (hq : q.fit) :
    Calls Tryz.prog 193 #[.agg #[.int .u8 k.k0, .int .u8 k.k1, .int .u8 k.k2, .int .u8 k.k3, .int .u8 k.k4, .int .u8 k.k5, .int .u8 k.k6, .int .u8 k.k7, .int .u8 q.kd, .int .u64 q.x, .int .u64 q.y, .int .u64 q.lv, .int .u64 q.wn], .pointer (some ⟨bb, 0, none⟩)] w fun e w' => e = .returned (.tuple #[]) ∧ ∃ b', w'.heap[bb]? = some (.cells #[b'] 76) ∧ w'.ownsRow base 5 1 b' (n + 42) (((x0 + 1) :: (xs ++ kby k ++ qby q)).map (Value.int .u8)) ∧ Keep (fun c => c = bb ∨ b.ownBlock = some c) w w' ∧ (b'.ownBlock = b.ownBlock ∨ ∃ g, b'.ownBlock = some g ∧ w.heap.size ≤ g) := by
  obtain ⟨i0, hi, hz0, hz1, hz2⟩ := info_parts Tryz.info5
  obtain ⟨g, cap, hb⟩ : ∃ g cap, b = .slice (some ⟨g, 0, none⟩) (n + 1) cap := by
    rcases hown.2 with ⟨_, h⟩ | ⟨g, cap, _, h, _⟩
    · omega
    · exact ⟨g, cap, h⟩
  subst hb
  have hgb : g ≠ bb := own_neE hown rfl hbox (by decide)
  have hbl : g < w.heap.size := (own_ltE hown (g := g) rfl).2
  have hbg : base ≤ g := (own_ltE hown (g := g) rfl).1
  obtain ⟨V, hV⟩ : ∃ V, V = w.alloc (.cells #[.int .u8 k.k0, .int .u8 k.k1, .int .u8 k.k2, .int .u8 k.k3, .int .u8 k.k4, .int .u8 k.k5, .int .u8 k.k6, .int .u8 k.k7, .int .u8 q.kd, .int .u64 q.x, .int .u64 q.y, .int .u64 q.lv, .int .u64 q.wn] 175) := ⟨_, rfl⟩
  have hsV : V.heap.size = w.heap.size + 1 := by rw [hV]; simp
  have hR0 : V.heap[w.heap.size]? = some (.cells #[.int .u8 k.k0, .int .u8 k.k1, .int .u8 k.k2, .int .u8 k.k3, .int .u8 k.k4, .int .u8 k.k5, .int .u8 k.k6, .int .u8 k.k7, .int .u8 q.kd, .int .u64 q.x, .int .u64 q.y, .int .u64 q.lv, .int .u64 q.wn] 175) := hV ▸ heapNew _ _
  have hbV : V.heap[bb]? = some (.cells #[.slice (some ⟨g, 0, none⟩) (n + 1) cap] 76) := hV ▸ upB hbox _
  have hoV : V.ownsRow base 5 1 (.slice (some ⟨g, 0, none⟩) (n + 1) cap) (n + 1) ((x0 :: xs).map (Value.int .u8)) := hV ▸ hown.alloc _
  obtain ⟨R, hR⟩ : ∃ R, R = w.heap.size := ⟨_, rfl⟩
  have hgR : g ≠ R := by omega
  have hbR : bb ≠ R := by have := ltB hbox; omega
  rw [← hR] at hR0
  obtain ⟨cur, hg0, hcur⟩ : ∃ cur, V.heap[g]? = some (.cells cur 5 (0, 0)) ∧ cur[0]? = some (.int .u8 x0) := by
    rcases hoV.2 with ⟨h, _⟩ | ⟨g', cap', cur, h, _, hh, _, _, hcs, ht⟩
    · simp at h
    · simp at h
      obtain ⟨e1, e2⟩ := h
      subst e1 e2
      refine ⟨cur, hh, ?_⟩
      have := congrArg (fun l => l[0]?) ht
      simpa [List.getElem?_take] using this
  have hKV : Keep (fun c => c = bb ∨ (Value.slice (some ⟨g, 0, none⟩) (n + 1) cap).ownBlock = some c) w V := hV ▸ (Keep.refl _ w).alloc _
  have a0 := cellB hbV 0
  have a1 : V.cell? ⟨g, 0, none⟩ = some (.int .u8 x0) := (cellB hg0 0).trans hcur
  have a2 := frozenB hg0 0
  have e1 : IntKind.u8.wrap (x0 + 1) = x0 + 1 := by rw [IntKind.wrap_u8]; omega
  have hn1 : (0 : Int) < ((n + 1 : Nat) : Int) := by omega
  obtain ⟨V1, hV1⟩ : ∃ V1, V1 = V.setCell ⟨g, 0, none⟩ (.int .u8 (x0 + 1)) := ⟨_, rfl⟩
  have hR1 : V1.heap[R]? = _ := hV1 ▸ (heapSetO (fun e => hgR e.symm) _ _).trans hR0
  have hb1 : V1.heap[bb]? = _ := hV1 ▸ (heapSetO (fun e => hgb e.symm) _ _).trans hbV
  have ho1 : V1.ownsRow base 5 1 (.slice (some ⟨g, 0, none⟩) (n + 1) cap) (n + 1) (((x0 + 1) :: xs).map (Value.int .u8)) := hV1 ▸ own_set0 hoV
  have hK1 : Keep (fun c => c = bb ∨ (Value.slice (some ⟨g, 0, none⟩) (n + 1) cap).ownBlock = some c) w V1 := hV1 ▸ hKV.set (Or.inl (Or.inr rfl)) _ _
  have hs1 : V1.heap.size = w.heap.size + 1 := by rw [hV1, World.size_setCell]; exact hsV
  have HNN := hide hn
  have HR := hide hR
  have HK1 := hide hK1
  have HO1 := hide ho1
  have HS1 := hide hs1
  have HQ := hide hq
  have HBL := hide hbl
  have HBS := hide hbase
  clear hown hbox hn hR hKV hK1 ho1 hs1 hsV hoV hcur hq hbl hbase hbg
  go_enter Tryz.func193, Tryz.ntmps193
  go_upto_region 1 with fail
  rw [← hV, ← HR.out]
  clear hV
  go_upto_region 2 with fail
  rw [← hV1]
  clear hV1 a0 a1 a2
  have c0 := cellB hb1 0
  have cR : ∀ j u, ((kby k).map (Value.int .u8))[j]? = some u → V1.drew.cell? ((⟨R, 0, none⟩ : Addr).add j) = some u := by
    intro j u hj
    rw [Addr.add_lit, Nat.zero_add]
    show V1.cell? ⟨R, j, none⟩ = _
    rw [cellB hR1]
    match j, hj with
    | 0, hj => exact hj
    | 1, hj => exact hj
    | 2, hj => exact hj
    | 3, hj => exact hj
    | 4, hj => exact hj
    | 5, hj => exact hj
    | 6, hj => exact hj
    | 7, hj => exact hj
    | j + 8, hj => simp [kby] at hj
  have HCR := hide cR
  have HB1 := hide hb1
  have HR1 := hide hR1
  clear cR
  go_region_law (refine step_append_any (by rfl) _ _ 76 5 i0 (.int .u8 0) 1 1 Tryz.underlying76 hi hz0 hz1 hz2 rfl (by decide) (by rfl) base (.slice (some ⟨g, 0, none⟩) (n + 1) cap) (n + 1) _ (by rfl) HO1.out ⟨R, 0, none⟩ 8 8 ((kby k).map (Value.int .u8)) (by rfl) (by rfl) HCR.out (ints_oneCell _ _) (by omega) (by omega) (by have := HBS.out; have := HS1.out; show base ≤ V1.heap.size; omega) ?_; intro b2 w2 hown2 hgrow2 hat2; obtain ⟨a2, c2, e2⟩ := own_sliceE hown2; subst e2; have hG2 : Grw V1.drew w2 _ (.slice a2 (n + 1 + 8) c2) := Grw.one hgrow2 hat2; have hb2 := hG2.block (b := bb) HB1.out (by intro e; injection e with e; exact hgb e); have hR2 := hG2.block (b := R) HR1.out (by intro e; injection e with e; exact hgR e); have d0 := cellB hb2 0; have d1 := frozenB hb2 0; have HO2 := hide hown2; have HG2 := hide hG2; clear hown2 hgrow2 hat2 hG2)
  all_goals go_upto_region 3 with fail
  all_goals (
    obtain ⟨W2, hW2⟩ : ∃ W2, W2 = w2.setCell ⟨bb, 0, none⟩ (.slice a2 (n + 1 + 8) c2) := ⟨_, rfl⟩
    have hb3 : W2.heap[bb]? = some (.cells #[.slice a2 (n + 1 + 8) c2] 76) := by rw [hW2]; simpa using heapSet hb2 0 (.slice a2 (n + 1 + 8) c2)
    have hR3 : W2.heap[R]? = _ := hW2 ▸ (heapSetO (fun e => hbR e.symm) _ _).trans hR2
    have nb2 : (Value.slice a2 (n + 1 + 8) c2).ownBlock ≠ some bb := HG2.out.ne (b := bb) (ltB HB1.out) (by intro e; injection e with e; exact hgb e)
    have hO3 : W2.ownsRow base 5 1 (.slice a2 (n + 1 + 8) c2) (n + 1 + 8) ((((x0 + 1) :: xs) ++ kby k).map (Value.int .u8)) := by rw [hW2, List.map_append]; exact ownsRow_setCell_other HO2.out nb2 _
    have hK3 : Keep (fun c => c = bb ∨ (Value.slice (some ⟨g, 0, none⟩) (n + 1) cap).ownBlock = some c) w W2 := by
      rw [hW2]
      refine Keep.set ?_ (Or.inl (Or.inl rfl)) _ _
      exact HK1.out.then (T := fun c => (Value.slice (some ⟨g, 0, none⟩) (n + 1) cap).ownBlock = some c) ⟨HG2.out.g.os, HG2.out.g.tape, HG2.out.g.output, HG2.out.g.size, fun i hi hn => HG2.out.g.block i hi (fun e => hn e.symm)⟩ (fun i _ h => Or.inr h)
    have hs3 : w.heap.size + 1 ≤ W2.heap.size := by rw [hW2, World.size_setCell]; have := HG2.out.g.size; have h1 := HS1.out; have h2 : V1.heap.size ≤ w2.heap.size := this; omega
    rw [← hW2]
    have HO3 := hide hO3
    have HK3 := hide hK3
    have HS3 := hide hs3
    have HB3 := hide hb3
    have f3 := cellB hR3
    have f4 := cellB hb3
    clear hW2 hO3 hK3 hs3 d0 d1 c0
    go_wp2_with fail
    refine (qapp base (n + 1 + 8) _ (.slice a2 (n + 1 + 8) c2) q W2 (by have := HNN.out; simp [kby]; omega) HO3.out (by omega) (by have := HBS.out; have := HS3.out; omega) HQ.out).mono ?_
    rintro e w4 ⟨b4, rfl, o4, G4⟩
    obtain ⟨a4, c4, e4⟩ := own_sliceE o4
    subst e4
    have hb4 := G4.block HB3.out nb2
    have n4 := G4.ne (ltB HB3.out) nb2
    have g1 := cellB hb4
    have g2 := frozenB hb4
    have HO4 := hide o4
    have HG4 := hide G4
    clear o4 G4 f3 f4
    go_wp2
    go_end0
    refine ⟨rfl, _, by simpa using heapSet hb4 0 (.slice a4 (n + 1 + 8 + 33) c4), ?_, ?_, ?_⟩
    · have := ownsRow_setCell_other HO4.out (a := ⟨bb, 0, none⟩) n4 (.slice a4 (n + 1 + 8 + 33) c4)
      simpa [Nat.add_assoc, List.append_assoc] using this
    · refine Keep.set ?_ (Or.inl (Or.inl rfl)) _ _
      refine HK3.out.then (T := fun c => (Value.slice a2 (n + 1 + 8) c2).ownBlock = some c) ⟨HG4.out.g.os, HG4.out.g.tape, HG4.out.g.output, HG4.out.g.size, fun i hi hn => HG4.out.g.block i hi (fun e => hn e.symm)⟩ (fun i hi h => ?_)
      rcases HG2.out.at_ with e | ⟨j, e, hj⟩
      · exact Or.inr (e ▸ h)
      · rw [e] at h; injection h with h; have h1 : V1.heap.size ≤ j := hj; have := HS1.out; omega
    · rcases HG4.out.at_ with e | ⟨j, e, hj⟩
      · rcases HG2.out.at_ with e2 | ⟨j, e2, hj⟩
        · exact Or.inl (e.trans e2)
        · exact Or.inr ⟨j, e.trans e2, by have h1 : V1.heap.size ≤ j := hj; have := HS1.out; omega⟩
      · exact Or.inr ⟨j, e, by have := HS3.out; omega⟩)
end Go.Proofs.YtnlgndpcddngoaaGreatDoor

namespace Go.Proofs.YtnlgndpcddngoaaGreatDoor
open Go.RowKit
variable [dK] [iK]

theorem u64w (n : Int) (h0 : 0 ≤ n) (h1 : n ≤ 18446744073709551615) : IntKind.u64.wrap n = n := by rw [IntKind.wrap_u64]; omega

/-- The number of the window is the quotient. -/
theorem div64 (now y : Int) (hy : 1 ≤ y) (h0 : 0 ≤ now) (h1 : now ≤ 18446744073709551615) : IntKind.u64.wrap (now.tdiv y) = now / y ∧ 0 ≤ now / y ∧ now / y ≤ 18446744073709551615 ∧ now / y * y ≤ now ∧ 0 ≤ now / y * y := by
  have e : now.tdiv y = now / y := Int.tdiv_eq_ediv_of_nonneg h0
  have d0 : 0 ≤ now / y := Int.ediv_nonneg h0 (by omega)
  have d1 : now / y ≤ now := Int.ediv_le_self y h0
  have d2 : now / y * y ≤ now := Int.ediv_mul_le now (by omega)
  exact ⟨by rw [e]; exact u64w _ d0 (by omega), d0, by omega, d2, Int.mul_nonneg d0 (by omega)⟩

/-- The quota at a time, by the program. -/
theorem qturn2 (q : Qt) (now : Int) (w : World) (hk : q.kd = 2) (hy : 1 ≤ q.y) (h0 : 0 ≤ now) (h1 : now ≤ 18446744073709551615) :
    Calls Tryz.prog 177 #[.agg #[.int .u8 2, .int .u64 q.x, .int .u64 q.y, .int .u64 q.lv, .int .u64 q.wn], .int .u64 now] w fun e w' =>
      e = .returned (.agg #[.int .u8 (turnM q now).kd, .int .u64 (turnM q now).x, .int .u64 (turnM q now).y, .int .u64 (turnM q now).lv, .int .u64 (turnM q now).wn]) ∧ Below w.heap.size w w' := by
  obtain ⟨e1, _⟩ := div64 now q.y hy h0 h1
  have hk1 : ¬ q.kd = 1 := by omega
  by_cases h : now / q.y = q.wn
  · have e : turnM q now = q := by unfold turnM; rw [if_neg hk1, if_pos h]
    rw [e, hk]
    refine (qturnWindow_same 2 q.x q.y q.lv q.wn now w (by omega) (by rw [e1, h])).mono ?_
    rintro e w' ⟨rfl, rfl⟩
    exact ⟨rfl, ((Below.refl _ w).alloc (Nat.le_refl _) _).alloc (by simp) _⟩
  · have e : turnM q now = ⟨q.kd, q.x, q.y, 0, now / q.y⟩ := by unfold turnM; rw [if_neg hk1, if_neg h]
    rw [e, hk]
    refine (qturnWindow_new 2 q.x q.y q.lv q.wn now (now / q.y) w (by omega) e1 (by simpa using h)).mono ?_
    rintro e w' ⟨rfl, rfl⟩
    exact ⟨rfl, ((Below.refl _ w).alloc (Nat.le_refl _) _).alloc (by simp) _⟩

theorem qturn1 (q : Qt) (now : Int) (w : World) :
    Calls Tryz.prog 174 #[.agg #[.int .u8 1, .int .u64 q.x, .int .u64 q.y, .int .u64 q.lv, .int .u64 q.wn], .int .u64 now] w fun e w' =>
      e = .returned (.agg #[.int .u8 1, .int .u64 q.x, .int .u64 q.y, .int .u64 q.lv, .int .u64 q.wn]) ∧ Below w.heap.size w w' := by
  refine (qturnSpaced 1 q.x q.y q.lv q.wn now w).mono ?_
  rintro e w' ⟨rfl, rfl⟩
  exact ⟨rfl, ((Below.refl _ w).alloc (Nat.le_refl _) _).alloc (by simp) _⟩

/-- How a key stands, by the program. -/
theorem qquery_any (q : Qt) (now : Int) (w : World) (hq : q.ok) (h0 : 0 ≤ now) (h1 : now ≤ 18446744073709551615) :
    Calls Tryz.prog 140 #[.agg #[.int .u8 q.kd, .int .u64 q.x, .int .u64 q.y, .int .u64 q.lv, .int .u64 q.wn], .int .u64 now] w fun e w' =>
      e = .returned (.agg #[.int .u8 1, .int .u64 (turnM q now).lv, .int .u64 (turnM q now).wn]) ∧ Below w.heap.size w w' := by
  rcases hq.kd with ⟨hk, _⟩ | ⟨hk, hy⟩
  · have e : turnM q now = q := by unfold turnM; rw [if_pos hk]
    rw [e, hk]
    exact qquery1 q.x q.y q.lv q.wn now 1 q.x q.y q.lv q.wn w (fun w1 => qturn1 q now w1)
  · rw [hk]
    exact qquery2 q.x q.y q.lv q.wn now _ _ _ _ _ w (fun w1 => qturn2 q now w1 hk hy h0 h1)

theorem turnM_ok (q : Qt) (now : Int) (hq : q.ok) (h0 : 0 ≤ now) (h1 : now ≤ 18446744073709551615) : (turnM q now).ok := by
  unfold turnM
  split
  · exact hq
  · split
    · exact hq
    · rcases hq.kd with ⟨hk, _⟩ | ⟨hk, hy⟩
      · contradiction
      · obtain ⟨_, d0, d1, _⟩ := div64 now q.y hy h0 h1
        exact ⟨hq.kd, hq.x, hq.y, ⟨by simp, by simp⟩, ⟨d0, d1⟩⟩
theorem turnM_wn (q : Qt) (now : Int) (hk : q.kd = 2) : (turnM q now).wn = now / q.y ∧ (turnM q now).y = q.y ∧ (turnM q now).x = q.x ∧ (turnM q now).kd = q.kd := by
  unfold turnM
  rw [if_neg (by omega)]
  split
  · exact ⟨by omega, rfl, rfl, rfl⟩
  · exact ⟨rfl, rfl, rfl, rfl⟩

/-- n are asked for, by the program. -/
theorem qadmit_any (q : Qt) (now n : Int) (w : World) (hq : q.ok) (h0 : 0 ≤ now) (h1 : now ≤ 18446744073709551615) (n0 : 0 ≤ n) (n1 : n ≤ 18446744073709551615) (z : Qt × Rp) (hz : z = admQ q now n) :
    Calls Tryz.prog 137 #[.agg #[.int .u8 q.kd, .int .u64 q.x, .int .u64 q.y, .int .u64 q.lv, .int .u64 q.wn], .int .u64 now, .int .u64 n] w fun e w' =>
      e = .returned (.tuple #[.agg #[.int .u8 z.1.kd, .int .u64 z.1.x, .int .u64 z.1.y, .int .u64 z.1.lv, .int .u64 z.1.wn], .agg #[.int .u8 z.2.c, .int .u64 z.2.a, .int .u64 z.2.b]]) ∧ Below w.heap.size w w' := by
  rcases hq.kd with ⟨hk, hx⟩ | ⟨hk, hy⟩
  · have e : z = admS q now n := by rw [hz]; unfold admQ; rw [if_pos hk]
    rw [hk]
    refine qadmit1 q.x q.y q.lv q.wn now n 1 q.x q.y q.lv q.wn _ _ _ _ _ _ _ _ w (fun w1 => qturn1 q now w1) (fun w1 => ?_)
    subst e
    clear hz
    unfold admS
    by_cases hn : n = 0
    · rw [if_pos hn]
      simp only [hk]
      exact qadmS_zero 1 q.x q.y q.lv q.wn now n w1 hn
    rw [if_neg hn]
    have hs0 : 0 ≤ startM q now := by unfold startM; have := hq.lv; split <;> omega
    have hp0 : 0 ≤ n * q.x := Int.mul_nonneg n0 (by omega)
    have hn1 : 0 ≤ (n - 1) * q.x := Int.mul_nonneg (by omega) (by omega)
    have hnx : n * q.x = (n - 1) * q.x + q.x := by rw [Int.sub_mul]; omega
    by_cases c1 : 18446744073709551615 < startM q now + n * q.x
    · rw [if_pos c1]
      simp only [hk]
      exact qadmS_none 1 q.x q.y q.lv q.wn now n w1 n0 n1 hq.x.1 hq.x.2 hq.y.1 hq.y.2 hq.lv.1 hq.lv.2 h0 h1 hn (startM q now) _ rfl rfl hp0 c1
    rw [if_neg c1]
    have m1 : IntKind.u64.wrap (n - 1) = n - 1 := u64w _ (by omega) (by omega)
    have m2 : IntKind.u64.wrap ((n - 1) * q.x) = (n - 1) * q.x := u64w _ hn1 (by omega)
    by_cases c2 : q.y < (n - 1) * q.x
    · rw [if_pos c2]
      simp only [hk]
      exact qadmS_far 1 q.x q.y q.lv q.wn now n w1 n0 n1 hq.x.1 hq.x.2 hq.y.1 hq.y.2 hq.lv.1 hq.lv.2 h0 h1 hn (startM q now) _ rfl rfl hp0 (by omega) (n - 1) _ m1 m2 c2
    rw [if_neg c2]
    have m3 : IntKind.u64.wrap (startM q now + (n - 1) * q.x) = startM q now + (n - 1) * q.x := u64w _ (by omega) (by omega)
    by_cases c3 : orNever (now + q.y) < startM q now + (n - 1) * q.x
    · rw [if_pos c3]
      simp only [hk]
      have hge : q.y ≤ startM q now + (n - 1) * q.x := by
        unfold orNever at c3
        split at c3 <;> omega
      exact qadmS_late 1 q.x q.y q.lv q.wn now n w1 n0 n1 hq.x.1 hq.x.2 hq.y.1 hq.y.2 hq.lv.1 hq.lv.2 h0 h1 hn (startM q now) _ rfl rfl hp0 (by omega) (n - 1) _ m1 m2 (by omega) _ m3 _ rfl c3 _ (u64w _ (by omega) (by omega))
    · rw [if_neg c3]
      simp only [hk]
      exact qadmS_in 1 q.x q.y q.lv q.wn now n w1 n0 n1 hq.x.1 hq.x.2 hq.y.1 hq.y.2 hq.lv.1 hq.lv.2 h0 h1 hn (startM q now) _ rfl rfl hp0 (by omega) (n - 1) _ m1 m2 (by omega) _ m3 _ rfl (by omega)
  · have e : z = admW (turnM q now) n := by rw [hz]; unfold admQ; rw [if_neg (by omega)]
    obtain ⟨t1, t2, t3, t4⟩ := turnM_wn q now hk
    obtain ⟨_, d0, d1, d2, d3⟩ := div64 now q.y hy h0 h1
    have hto := turnM_ok q now hq h0 h1
    have htu : ∀ w1, _ := fun w1 => qturn2 q now w1 hk hy h0 h1
    rw [hk]
    generalize turnM q now = u at e t1 t2 t3 t4 hto htu
    refine qadmit2 q.x q.y q.lv q.wn now n u.kd u.x u.y u.lv u.wn _ _ _ _ _ _ _ _ w htu (fun w1 => ?_)
    subst e
    unfold admW
    by_cases c1 : u.lv + n ≤ u.x
    · rw [if_pos c1]
      exact qadmW_in u.kd u.x u.y u.lv u.wn now n w1 hto.lv.1 n0 hto.x.2 c1
    rw [if_neg c1]
    by_cases c2 : u.x < n
    · rw [if_pos c2]
      exact qadmW_never u.kd u.x u.y u.lv u.wn now n w1 hto.lv.1 hto.lv.2 n0 n1 hto.x.2 (by omega) c2
    · rw [if_neg c2]
      have hm : IntKind.u64.wrap (u.wn * u.y) = u.wn * u.y := u64w _ (by rw [t1, t2]; exact d3) (by rw [t1, t2]; omega)
      exact qadmW_next u.kd u.x u.y u.lv u.wn now n w1 hto.lv.1 hto.lv.2 n0 n1 hto.x.2 (by omega) (by omega) _ hm (by rw [t1, t2]; exact d3) (by rw [t1, t2]; omega) hto.y.1 hto.y.2
end Go.Proofs.YtnlgndpcddngoaaGreatDoor
