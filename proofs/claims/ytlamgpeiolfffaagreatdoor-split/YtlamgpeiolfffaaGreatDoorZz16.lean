import Derived.Test.YtlamgpeiolfffaaGreatDoorZz12
import Derived.Test.YtlamgpeiolfffaaGreatDoorZz15
import Derived.Maps.AppendAt
import Derived.Test.YtlamgpeiolfffaaGreatDoorZz01
import Derived.Shelf.Bits.Mul64
set_option linter.unusedSectionVars false
namespace Go.Proofs.YtlamgpeiolfffaaGreatDoor
open Go.RowKit
variable [dK] [iK]

/-- A reply with more behind it, read. -/
theorem rp_back (r : Rp) (h1 : 1 ≤ r.c) (h9 : r.c ≤ 9) (ha : 0 ≤ r.a ∧ r.a ≤ 18446744073709551615) (hb : 0 ≤ r.b ∧ r.b ≤ 18446744073709551615) (t : List Int) :
    rpErr (encRep r.c r.a r.b ++ t) = 0 ∧ rpN (encRep r.c r.a r.b ++ t) = 18 ∧ rpQ (encRep r.c r.a r.b ++ t) = r := by
  have e0 : encRep r.c r.a r.b ++ t = 17 :: r.c :: (be8 r.a ++ (be8 r.b ++ t)) := by simp [encRep]
  have hl : (encRep r.c r.a r.b ++ t).length = 18 + t.length := by rw [List.length_append]; rfl
  have hE : rpErr (encRep r.c r.a r.b ++ t) = 0 := by
    rw [e0]
    simp only [rpErr]
    rw [if_neg (by omega), if_pos (by unfold repLen; rw [if_neg (by omega)]), if_neg]
    rw [← e0, hl]; omega
  refine ⟨hE, by unfold rpN; rw [if_pos hE], ?_⟩
  unfold rpQ
  rw [if_pos hE]
  have hc : (encRep r.c r.a r.b ++ t).getD 1 0 = r.c := by rw [e0]; rfl
  have hA : num8 (encRep r.c r.a r.b ++ t) 2 = r.a := by
    rw [e0]
    refine Eq.trans ?_ (rd_be8 r.a ha.1 ha.2)
    unfold num8
    simp [rdTo, be8, List.getD]
  have hB : num8 (encRep r.c r.a r.b ++ t) 10 = r.b := by
    rw [e0]
    refine Eq.trans ?_ (rd_be8 r.b hb.1 hb.2)
    unfold num8
    simp [rdTo, be8, List.getD]
  rw [hc, hA, hB]
end Go.Proofs.YtlamgpeiolfffaaGreatDoor

namespace Go.Proofs.YtlamgpeiolfffaaGreatDoor
open Go.RowKit Go.Lib Go.Shelf
variable [dK] [iK]

namespace Mul
def ren : Go.Shelf.Ren := ⟨fun _ => 145, fun n => if n = 46 then 223 else 23, fun n => n⟩
theorem lays : Lays.n264 Tryz.prog ren where
  mixed := by first | exact Tryz.mixed | kernel_rfl | decide
  f264 := by kernel_rfl
  t46 := by first | exact Tryz.underlying223 | kernel_rfl
  a46 := by first | exact Tryz.isAgg223 | (intro w; kernel_rfl)
  z46 := by first | exact Tryz.sizeOf223 | (intro w; kernel_rfl)
  v46 := by first | exact Tryz.zeroValue223 | (intro w; kernel_rfl)
  t53 := by first | exact Tryz.underlying23 | kernel_rfl
  a53 := by first | exact Tryz.isAgg23 | (intro w; kernel_rfl)
  z53 := by first | exact Tryz.sizeOf23 | (intro w; kernel_rfl)
  v53 := by first | exact Tryz.zeroValue23 | (intro w; kernel_rfl)
end Mul

theorem mul64_any (x y : Nat) (hx : x < 18446744073709551616) (hy : y < 18446744073709551616) (w : World) :
    Calls Tryz.prog 145 #[.int .u64 x, .int .u64 y] w fun e w' => e = .returned (.tuple #[.int .u64 ((x * y / 18446744073709551616 : Nat) : Int), .int .u64 ((x * y % 18446744073709551616 : Nat) : Int)]) ∧ w' = w :=
  Any.bits_Mul64 Mul.lays x y hx hy w

set_option maxRecDepth 100000 in
theorem product_room (a b : Int) (w : World) (ha : 0 ≤ a) (hb : 0 ≤ b) (ha1 : a ≤ 18446744073709551615) (hb1 : b ≤ 18446744073709551615) (p : Int) (hp : a * b = p) (h : p ≤ 18446744073709551615) :
    Calls Tryz.prog 143 #[.int .u64 a, .int .u64 b] w fun e w' => e = .returned (.tuple #[.int .u64 p, .bool true]) ∧ w' = w := by
  obtain ⟨x, rfl⟩ := Int.eq_ofNat_of_zero_le ha
  obtain ⟨y, rfl⟩ := Int.eq_ofNat_of_zero_le hb
  have hc := mul64_any x y (by omega) (by omega) w
  have hp' : ((x * y : Nat) : Int) = p := by rw [← hp]; exact Int.natCast_mul x y
  generalize x * y = z at hc hp'
  subst hp'
  clear hp
  rw [Nat.div_eq_of_lt (by omega), Nat.mod_eq_of_lt (by omega)] at hc
  go_enter Tryz.func143, Tryz.ntmps143
  go_wp2_with (go_at_call 145; refine hc.mono ?_; rintro e w' ⟨rfl, rfl⟩)
  go_ret2
  exact ⟨rfl, rfl⟩

set_option maxRecDepth 100000 in
theorem product_none (a b : Int) (w : World) (ha : 0 ≤ a) (hb : 0 ≤ b) (ha1 : a ≤ 18446744073709551615) (hb1 : b ≤ 18446744073709551615) (p : Int) (hp : a * b = p) (h : 18446744073709551615 < p) :
    Calls Tryz.prog 143 #[.int .u64 a, .int .u64 b] w fun e w' => e = .returned (.tuple #[.int .u64 0, .bool false]) ∧ w' = w := by
  obtain ⟨x, rfl⟩ := Int.eq_ofNat_of_zero_le ha
  obtain ⟨y, rfl⟩ := Int.eq_ofNat_of_zero_le hb
  have hc := mul64_any x y (by omega) (by omega) w
  have hp' : ((x * y : Nat) : Int) = p := by rw [← hp]; exact Int.natCast_mul x y
  generalize x * y = z at hc hp'
  subst hp'
  clear hp
  have h2 : 0 < z / 18446744073709551616 := Nat.div_pos (by omega) (by omega)
  generalize z / 18446744073709551616 = q at hc h2
  have h4 : ¬ ((q : Int) = 0) := by omega
  have h3 : ((q : Int) != 0) = true := by simp; omega
  clear h2 h
  go_enter Tryz.func143, Tryz.ntmps143
  go_wp2_with (go_at_call 145; refine hc.mono ?_; rintro e w' ⟨rfl, rfl⟩)
  go_ret2
  exact ⟨rfl, rfl⟩
end Go.Proofs.YtlamgpeiolfffaaGreatDoor
