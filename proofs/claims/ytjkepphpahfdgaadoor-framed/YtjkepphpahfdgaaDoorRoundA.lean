import Derived.Test.YtjkepphpahfdgaaDoorPlain
import Derived.Test.YtjkepphpahfdgaaDoorMath
import Derived.Test.YtjkepphpahfdgaaDoorWreq
namespace Go.Proofs.YtjkepphpahfdgaaDoor
open Go.RowKit

theorem ret_int {k : IntKind} {a b : Int} (h : a = b) : Ending.returned (.int k a) = .returned (.int k b) := by rw [h]

set_option maxRecDepth 100000 in
set_option maxHeartbeats 400000 in
theorem pick_any (c : Int) (n : Nat) (w : World) (hn : 0 < n) (hn1 : n ≤ 1048576) (h0 : -9223372036854775808 ≤ c) (h1 : c ≤ 9223372036854775807) :
    Calls Tryd.prog 11 #[.int .i64 c, .int .i64 n] w fun e w' => ∃ p : Nat, p < n ∧ e = .returned (.int .i64 p) ∧ w' = w := by
  have hnz : ((n : Int) == 0) = false := by simp; omega
  by_cases hc : c < 0
  · go_enter Tryd.func11, Tryd.ntmps11
    go_wp2
    go_ret
    refine ⟨((-(c + 1)) % n).toNat, by have := Int.emod_lt_of_pos (-(c + 1)) (show (0 : Int) < n by omega); have := Int.emod_nonneg (-(c + 1)) (show (n : Int) ≠ 0 by omega); omega, ret_int ?_, rfl⟩
    have e : -((c + 1).tmod (n : Int)) = (-(c + 1)) % (n : Int) := by rw [← Int.neg_tmod, Int.tmod_eq_emod_of_nonneg (by omega)]
    rw [e, Int.toNat_of_nonneg (Int.emod_nonneg _ (by omega))]
  · go_enter Tryd.func11, Tryd.ntmps11
    go_wp2
    go_ret
    refine ⟨(c % n).toNat, by have := Int.emod_lt_of_pos c (show (0 : Int) < n by omega); have := Int.emod_nonneg c (show (n : Int) ≠ 0 by omega); omega, ret_int ?_, rfl⟩
    rw [Int.toNat_of_nonneg (Int.emod_nonneg _ (by omega))]

/-- quotaledger.Request, of a request's numbers. -/
theorem request_q (q : Rq) (hq : q.ok) (w : World) :
    Calls Tryd.prog 5 #[.agg #[.int .u8 q.op, .int .u8 q.k0, .int .u8 q.k1, .int .u8 q.k2, .int .u8 q.k3, .int .u8 q.k4, .int .u8 q.k5, .int .u8 q.k6, .int .u8 q.k7, .int .u8 q.kd, .int .u64 q.x, .int .u64 q.y, .int .u64 q.n]] w
      fun e w' => Below w.heap.size w w' ∧ ((reqLen q.op = 0 ∧ e = .returned (.slice none 0 0)) ∨
        (reqLen q.op ≠ 0 ∧ ∃ g L, w.heap.size ≤ g ∧ L = q.enc.length ∧ e = .returned (.slice (some ⟨g, 0, none⟩) L L) ∧ w'.ownsRow w.heap.size 5 1 (.slice (some ⟨g, 0, none⟩) L L) L (q.enc.map (Value.int .u8)))) :=
  request_any q.op q.k0 q.k1 q.k2 q.k3 q.k4 q.k5 q.k6 q.k7 q.kd q.x q.y q.n w hq.x.1 hq.x.2 hq.y.1 hq.y.2 hq.n.1 hq.n.2

def q258 : Rq := ⟨2, 1, 0, 0, 0, 0, 0, 0, 0, 0, 0, 0, 258⟩
theorem q258_ok : q258.ok := by constructor <;> decide
theorem request258 (w : World) :
    Calls Tryd.prog 5 #[.agg #[.int .u8 2, .int .u8 1, .int .u8 0, .int .u8 0, .int .u8 0, .int .u8 0, .int .u8 0, .int .u8 0, .int .u8 0, .int .u8 0, .int .u64 0, .int .u64 0, .int .u64 258]] w
      fun e w' => Below w.heap.size w w' ∧ ∃ g, w.heap.size ≤ g ∧ g < w'.heap.size ∧ e = .returned (.slice (some ⟨g, 0, none⟩) 18 18) ∧ w'.cell? ⟨g, 0, none⟩ = some (.int .u8 17) ∧ w'.cell? ⟨g, 16, none⟩ = some (.int .u8 1) ∧ w'.cell? ⟨g, 17, none⟩ = some (.int .u8 2) := by
  refine (request_q q258 q258_ok w).mono ?_
  rintro e w' ⟨hb, ⟨h, _⟩ | ⟨_, g, L, hg, hL, rfl, ho⟩⟩
  · exact absurd h (by decide)
  · have e18 : L = 18 := hL.trans (by decide)
    subst e18
    exact ⟨hb, g, hg, (ho.lt g rfl).2, rfl, ho.cellAt 0 (by omega), ho.cellAt 16 (by omega), ho.cellAt 17 (by omega)⟩
end Go.Proofs.YtjkepphpahfdgaaDoor
