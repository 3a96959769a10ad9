import Derived.Test.YtlamgpeiolfffaaGreatDoorZz12
import Derived.LoopN
import Derived.Maps.RangeWalk
import Derived.Laws.IdiomRangeMap
import Derived.Test.YtlamgpeiolfffaaGreatDoorZz18
import Derived.Defers
import Derived.Recover
import Derived.Laws.Pointers
import Derived.Laws.EntriesVeiled
set_option linter.unusedSectionVars false
namespace Go.Proofs.YtlamgpeiolfffaaGreatDoor
open Go.RowKit
variable [dK] [iK]

set_option maxRecDepth 1000000 in
theorem len64_zero (w : World) : Calls Tryz.prog 179 #[.int .u64 0] w fun e w' => e = .returned (.int .i64 0) ∧ w' = w := by
  go_enter Tryz.func179, Tryz.ntmps179
  go_wp2
  go_ret
  exact ⟨by kernel_rfl, rfl⟩

set_option maxRecDepth 100000 in
theorem insertion_nil (w : World) : Calls Tryz.prog 169 #[.slice none 0 0, .int .i64 0, .int .i64 0] w fun e w' => e = .returned (.tuple #[]) ∧ w' = w := by
  go_enter Tryz.func169, Tryz.ntmps169
  go_wp2
  refine wp_loop_rounds 1 ?_
  rw [rounds_succ]
  go_wp2
  go_end0
  exact ⟨rfl, rfl⟩

set_option maxRecDepth 100000 in
theorem pdq_nil (w : World) : Calls Tryz.prog 167 #[.slice none 0 0, .int .i64 0, .int .i64 0, .int .i64 0] w fun e w' => e = .returned (.tuple #[]) ∧ w' = w := by
  go_enter Tryz.func167, Tryz.ntmps167
  go_wp2
  refine wp_loop_rounds 1 ?_
  rw [rounds_succ]
  go_wp2_with (go_at_call 169; refine (insertion_nil _).mono ?_; rintro e w' ⟨rfl, rfl⟩)
  exact bodyPost_ret (results_none rfl _ _ _) rfl ⟨rfl, rfl⟩

set_option maxRecDepth 100000 in
theorem sort_nil (w : World) : Calls Tryz.prog 165 #[.slice none 0 0] w fun e w' => e = .returned (.tuple #[]) ∧ w' = w := by
  go_enter Tryz.func165, Tryz.ntmps165
  go_wp2_with (first | (go_at_call 167; refine (pdq_nil _).mono ?_; rintro e w' ⟨rfl, rfl⟩) | (go_at_call 179; refine (len64_zero _).mono ?_; rintro e w' ⟨rfl, rfl⟩) | (go_at_call 166; go_in) | (go_at_call 168; go_in))
  go_end0
  go_wp2
  go_end0
  exact ⟨rfl, rfl⟩

set_option maxRecDepth 100000 in
set_option maxHeartbeats 1000000 in
/-- The names of an empty disk. -/
theorem names164 (db nb : Nat) (c0 c2 c3 c4 : Value) (w : World) (hd : w.heap[db]? = some (.cells #[c0, .map (some nb), c2, c3, c4, .bool false] 81)) (hn : w.heap[nb]? = some (.map #[] 0)) :
    Calls Tryz.prog 164 #[.pointer (some ⟨db, 0, none⟩)] w fun e w' => e = .returned (.tuple #[.slice none 0 0, .nilIface]) ∧ Below w.heap.size w w' := by
  have a1 := cellB hd
  have hr := run_range_map (P := Tryz.prog) w 78 9 86 nb #[] 0 Tryz.underlying78 hn
  have hx : ∀ ty, (Instr.next (.pointer (some ⟨w.heap.size, 0, none⟩)) false ty).run Tryz.prog (w.alloc (.mapIter (some nb) 0 #[] 0)) = .ok (.tuple #[.bool false]) (w.alloc (.mapIter (some nb) 0 #[] 0)) := fun ty => by
    rcases run_next_map (P := Tryz.prog) w ty nb 0 0 #[] #[] 0 hn (by simp) (Nat.le_refl _) with ⟨_, h⟩ | ⟨e, he, _⟩
    · exact h
    · simp [leftOf] at he
  go_enter Tryz.func164, Tryz.ntmps164
  go_wp2
  refine wp_loop_rounds 1 ?_
  rw [rounds_succ]
  go_wp2_with (go_at_call 165; refine (sort_nil _).mono ?_; rintro e w' ⟨rfl, rfl⟩)
  go_ret2
  exact ⟨rfl, (Below.refl _ w).alloc (Nat.le_refl _) _⟩
end Go.Proofs.YtlamgpeiolfffaaGreatDoor

namespace Go.Proofs.YtlamgpeiolfffaaGreatDoor
open Go.RowKit
variable [dK] [iK]

theorem askCatch (p : Addr) (w : World) :
    CallsD Tryz.prog 71 #[.pointer (some p)] .returning w fun e u' w' => e = .returned (.tuple #[]) ∧ u' = .returning ∧ w' = w := by
  refine callsD_of_wpS Tryz.func71 rfl fun c₀ cs hu => ?_
  apply wpS_seq
  apply wpS_region
  simp [wpOpsS, go_sem, recoverD, hu, Tryz.ntmps71, Exit.thenS]
  refine wpS_cond (t := false) (by simp [Act.eval, Array.replicate]) ?_
  simp only [Bool.false_eq_true, if_false]
  refine wpS_of_wp (wp_skip ?_)
  cases c₀
  simp_all [bodyPostS, results, Tryz.results71]

theorem methodNames (h : Value) (w : World) : (Go.method 409 71 h "Names").run Tryz.prog w = .ok (164, h) w := by kernel_rfl

set_option maxRecDepth 100000 in
set_option maxHeartbeats 1000000 in
theorem ask46 (db nb : Nat) (c0 c2 c3 c4 : Value) (w : World) (hd : w.heap[db]? = some (.cells #[c0, .map (some nb), c2, c3, c4, .bool false] 81)) (hn : w.heap[nb]? = some (.map #[] 0)) :
    Calls Tryz.prog 46 #[.iface 71 (.pointer (some ⟨db, 0, none⟩))] w fun e w' => e = .returned .nilIface ∧ Below w.heap.size w w' := by
  have hmf : ∀ (fn : Fn) (first cap : Array Value) (w : World), (Instr.makeFunc fn first cap).run Tryz.prog w = .ok (.func fn first cap) w := fun _ _ _ _ => rfl
  have hmn := methodNames (.pointer (some ⟨db, 0, none⟩))
  have hd1 := upB hd (.cells #[.nilIface] 88)
  have hn1 := upB hn (.cells #[.nilIface] 88)
  go_enter_defers Tryz.func46, Tryz.ntmps46
  go_wp2_with (go_at_call 164; refine (names164 db nb c0 c2 c3 c4 _ hd1 hn1).mono ?_; rintro e w2 ⟨rfl, hb2⟩; have hr2 := (hb2.block w.heap.size (by simp)).trans (heapNew w (.cells #[.nilIface] 88)); have a1 := cellB hr2; have a2 := frozenB hr2)
  have hB : Below w.heap.size w ((w2.setCell ⟨w.heap.size, 0, none⟩ .nilIface).setCell ⟨w.heap.size, 0, none⟩ .nilIface) := ((((Below.refl _ w).alloc (Nat.le_refl _) _).trans (hb2.mono (by simp))).setCell (Nat.le_refl _) _).setCell (Nat.le_refl _) _
  refine leaves_cons (f := 71) (args := #[.pointer (some ⟨w.heap.size, 0, none⟩)]) (by simp) (by simp [go_sem]) ?_
  refine (askCatch ⟨w.heap.size, 0, none⟩ _).mono ?_
  rintro e u' w'' ⟨rfl, rfl, rfl⟩
  simp [Leaves, settle, results, Tryz.results46, go_sem, a1, hB]

set_option maxRecDepth 100000 in
theorem connect25 (sb : Nat) (w : World) : Calls Tryz.prog 25 #[.pointer (some ⟨sb, 0, none⟩)] w fun e w' => e = .returned (.pointer (some ⟨w.heap.size, 0, none⟩)) ∧ w' = w.alloc (.cells #[.pointer (some ⟨sb, 0, none⟩), .slice none 0 0, .bool false] 103) := by
  go_enter Tryz.func25, Tryz.ntmps25
  go_wp2
  go_ret
  exact ⟨rfl, rfl⟩

set_option maxRecDepth 100000 in
set_option maxHeartbeats 1000000 in
theorem open30 (db nb : Nat) (c0 c2 c3 c4 : Value) (blk : Int) (w : World) (hd : w.heap[db]? = some (.cells #[c0, .map (some nb), c2, c3, c4, .bool false] 81)) (hn : w.heap[nb]? = some (.map #[] 0)) :
    Calls Tryz.prog 30 #[.iface 71 (.pointer (some ⟨db, 0, none⟩)), .int .u64 blk] w fun e w' => ∃ sb, e = .returned (.tuple #[.pointer (some ⟨sb, 0, none⟩), .nilIface]) ∧ w.heap.size ≤ sb ∧ SrvAt w' 0 sb ⟨0, 0, []⟩ (fun b => b = sb) ∧ Below w.heap.size w w' := by
  go_enter Tryz.func30, Tryz.ntmps30
  go_wp2_with (go_at_call 46; refine (ask46 db nb c0 c2 c3 c4 _ hd hn).mono ?_; rintro e w2 ⟨rfl, hb2⟩)
  go_ret2
  have hs := hb2.size
  refine ⟨w2.heap.size, rfl, hs, ⟨⟨none, heapNew _ _, rfl, fun b h => by simp at h⟩, rfl, fun b h => by rw [h]; simp⟩, hb2.alloc hs _⟩
end Go.Proofs.YtlamgpeiolfffaaGreatDoor
