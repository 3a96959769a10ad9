import Derived.Test.YtlamgpeiolfffaaGreatDoorZz21
import Derived.Test.YtlamgpeiolfffaaGreatDoorZz22
import Derived.Carry
import Derived.Test.YtlamgpeiolfffaaGreatDoorZz09
set_option linter.unusedSectionVars false
namespace Go.Proofs.YtlamgpeiolfffaaGreatDoor
open Go.RowKit
variable [dK] [iK]

set_option maxRecDepth 100000 in
set_option maxHeartbeats 1000000 in
theorem up29 (db mb : Nat) (nv pv c3 c4 dv : Value) (w : World) (hd : w.heap[db]? = some (.cells #[.map (some mb), nv, pv, c3, c4, dv] 81)) (hm : w.heap[mb]? = some (.map #[] 0)) :
    Calls Tryz.prog 29 #[.pointer (some ⟨db, 0, none⟩)] w fun e w' => e = .returned (.tuple #[]) ∧ w'.heap[db]? = some (.cells #[.map (some mb), .map (some w.heap.size), .slice none 0 0, c3, c4, .bool false] 81) ∧ w'.heap[w.heap.size]? = some (.map #[] 0) ∧ Keep (fun b => b = db) w w' := by
  have ld := ltB hd
  have lm := ltB hm
  have hne : db ≠ mb := by
    intro e; subst e
    rw [hd] at hm; simp at hm
  obtain ⟨V, hV⟩ : ∃ V, V = (w.alloc (.map #[] 0)).setCell ⟨db, 1, none⟩ (.map (some w.heap.size)) := ⟨_, rfl⟩
  have hdV : V.heap[db]? = some (.cells #[.map (some mb), .map (some w.heap.size), pv, c3, c4, dv] 81) := by rw [hV]; simpa using heapSet (upB hd (.map #[] 0)) 1 (.map (some w.heap.size))
  have hmV : V.heap[mb]? = some (.map #[] 0) := by rw [hV, heapSetO (fun e => hne e.symm)]; exact upB hm _
  have hnV : V.heap[w.heap.size]? = some (.map #[] 0) := by rw [hV, heapSetO (by omega)]; exact heapNew _ _
  have hKV : Keep (fun b => b = db) w V := hV ▸ Keep.set (S := fun b => b = db) (b := db) ((Keep.refl _ w).alloc _) (Or.inl rfl) _ _
  have hVs : V.heap.size = w.heap.size + 1 := by rw [hV]; simp
  have b1 := upC hd (.map #[] 0)
  have b2 := upF hd (.map #[] 0)
  have hmm := @run_makeMap Tryz.prog
  have hr := run_range_map (P := Tryz.prog) V 78 9 86 mb #[] 0 Tryz.underlying78 hmV
  have hx : ∀ ty, (Instr.next (.pointer (some ⟨V.heap.size, 0, none⟩)) false ty).run Tryz.prog (V.alloc (.mapIter (some mb) 0 #[] 0)) = .ok (.tuple #[.bool false]) (V.alloc (.mapIter (some mb) 0 #[] 0)) := fun ty => by
    rcases run_next_map (P := Tryz.prog) V ty mb 0 0 #[] #[] 0 hmV (by simp) (Nat.le_refl _) with ⟨_, h⟩ | ⟨e, he, _⟩
    · exact h
    · simp [leftOf] at he
  have a1 := cellB hdV
  have a2 := upC hdV (.mapIter (some mb) 0 #[] 0)
  have a3 := upF hdV (.mapIter (some mb) 0 #[] 0)
  have HVS := hide hVs
  have HLD := hide ld
  have HLM := hide lm
  clear hVs ld lm
  go_enter Tryz.func29, Tryz.ntmps29
  go_upto_region 1 with fail
  rw [← hV]
  clear hV b1 b2
  go_wp2
  refine wp_loop_rounds 1 ?_
  rw [rounds_succ]
  go_wp2
  go_end0
  have ld := HLD.out
  have hVs := HVS.out
  refine ⟨rfl, by simpa using heapSet (heapSet (upB hdV (.mapIter (some mb) 0 #[] 0)) 2 (.slice none 0 0)) 5 (.bool false), ?_, ?_⟩
  · rw [heapSetO (by omega), heapSetO (by omega)]
    exact upB hnV _
  · exact Keep.set (S := fun b => b = db) (b := db) (Keep.set (S := fun b => b = db) (b := db) (hKV.alloc _) (Or.inl rfl) _ _) (Or.inl rfl) _ _

set_option maxRecDepth 100000 in
set_option maxHeartbeats 1000000 in
theorem newhost15 (blk : Int) (w : World) :
    Calls Tryz.prog 15 #[.slice none 0 0, .int .u64 blk] w fun e w' => ∃ nb, e = .returned (.pointer (some ⟨w.heap.size + 2, 0, none⟩)) ∧ w'.heap[w.heap.size + 2]? = some (.cells #[.pointer (some ⟨w.heap.size + 1, 0, none⟩), .pointer none, .slice none 0 0, .int .u64 blk] 75) ∧ w'.heap[w.heap.size + 1]? = some (.cells #[.map (some w.heap.size), .map (some nb), .slice none 0 0, .int .i64 (-1), .int .i64 (-1), .bool false] 81) ∧ w'.heap[w.heap.size]? = some (.map #[] 0) ∧ w'.heap[nb]? = some (.map #[] 0) ∧ w.heap.size + 2 < nb ∧ Below w.heap.size w w' := by
  have hmm := @run_makeMap Tryz.prog
  obtain ⟨V, hV⟩ : ∃ V, V = ((w.alloc (.map #[] 0)).alloc (.cells #[.map (some w.heap.size), .map none, .slice none 0 0, .int .i64 (-1), .int .i64 (-1), .bool false] 81)).alloc (.cells #[.pointer (some ⟨w.heap.size + 1, 0, none⟩), .pointer none, .slice none 0 0, .int .u64 blk] 75) := ⟨_, rfl⟩
  have h2 : V.heap[w.heap.size + 2]? = some (.cells #[.pointer (some ⟨w.heap.size + 1, 0, none⟩), .pointer none, .slice none 0 0, .int .u64 blk] 75) := hV ▸ heapN (by simp)
  have h1 : V.heap[w.heap.size + 1]? = some (.cells #[.map (some w.heap.size), .map none, .slice none 0 0, .int .i64 (-1), .int .i64 (-1), .bool false] 81) := hV ▸ upB (heapN (by simp)) _
  have h0 : V.heap[w.heap.size]? = some (.map #[] 0) := hV ▸ upB (upB (heapNew _ _) _) _
  have hB : Below w.heap.size w V := hV ▸ (((Below.refl _ w).alloc (Nat.le_refl _) _).alloc (by simp) _).alloc (by simp <;> omega) _
  have hVs : V.heap.size = w.heap.size + 3 := by rw [hV]; simp
  have a2 := cellB h2
  have HVS := hide hVs
  clear hVs
  go_enter Tryz.func15, Tryz.ntmps15
  go_upto_region 2 with fail
  rw [← hV]
  clear hV
  go_wp2
  refine wp_loop_rounds 1 ?_
  rw [rounds_succ]
  go_wp2_with (go_at_call 29; refine (up29 (w.heap.size + 1) w.heap.size _ _ _ _ _ _ h1 h0).mono ?_; rintro e w2 ⟨rfl, g1, g2, g3⟩)
  go_ret
  have hVs := HVS.out
  refine ⟨V.heap.size, rfl, (g3.block _ (by omega) (by omega)).trans h2, g1, (g3.block _ (by omega) (by omega)).trans h0, g2, by omega, hB.trans (Keep.below g3 (by omega) (fun k hk => by omega))⟩
end Go.Proofs.YtlamgpeiolfffaaGreatDoor

namespace Go.Proofs.YtlamgpeiolfffaaGreatDoor
open Go.RowKit
variable [dK] [iK]

set_option maxRecDepth 100000 in
set_option maxHeartbeats 2000000 in
theorem hostopen16 (hb db nb : Nat) (dm : Value) (sv cv : Value) (blk l f : Int) (w : World) (hh : w.heap[hb]? = some (.cells #[.pointer (some ⟨db, 0, none⟩), sv, cv, .int .u64 blk] 75)) (hd : w.heap[db]? = some (.cells #[dm, .map (some nb), .slice none 0 0, .int .i64 l, .int .i64 f, .bool false] 81)) (hdm : ∃ mb, dm = .map mb) (hn : w.heap[nb]? = some (.map #[] 0)) :
    Calls Tryz.prog 16 #[.pointer (some ⟨hb, 0, none⟩), .int .i64 (-1), .int .i64 (-1), .int .i64 0, .int .i64 0] w fun e w' => ∃ sb, e = .returned (.int .i64 0) ∧ w.heap.size ≤ sb ∧ w'.heap[hb]? = some (.cells #[.pointer (some ⟨db, 0, none⟩), .pointer (some ⟨sb, 0, none⟩), .slice none 0 0, .int .u64 blk] 75) ∧ w'.heap[db]? = some (.cells #[dm, .map (some nb), .slice none 0 0, .int .i64 (-1), .int .i64 (-1), .bool false] 81) ∧ SrvAt w' 0 sb ⟨0, 0, []⟩ (fun b => b = sb) ∧ Keep (fun b => b = hb ∨ b = db) w w' := by
  obtain ⟨mb, rfl⟩ := hdm
  have lh := ltB hh
  have ld := ltB hd
  have hne : hb ≠ db := by
    intro e; subst e
    rw [hh] at hd; simp at hd
  have hnd : nb ≠ db := by
    intro e; subst e
    rw [hd] at hn; simp at hn
  have hnh : nb ≠ hb := by
    intro e; subst e
    rw [hh] at hn; simp at hn
  obtain ⟨V, hV⟩ : ∃ V, V = ((w.setCell ⟨db, 3, none⟩ (.int .i64 (-1))).setCell ⟨db, 4, none⟩ (.int .i64 (-1))).drew := ⟨_, rfl⟩
  have hhV : V.heap[hb]? = some (.cells #[.pointer (some ⟨db, 0, none⟩), sv, cv, .int .u64 blk] 75) := by rw [hV, heapDrew, heapSetO hne, heapSetO hne]; exact hh
  have hdV : V.heap[db]? = some (.cells #[.map mb, .map (some nb), .slice none 0 0, .int .i64 (-1), .int .i64 (-1), .bool false] 81) := by rw [hV, heapDrew]; simpa using heapSet (heapSet hd 3 (.int .i64 (-1))) 4 (.int .i64 (-1))
  have hnV : V.heap[nb]? = some (.map #[] 0) := by rw [hV, heapDrew, heapSetO hnd, heapSetO hnd]; exact hn
  have hKV : Keep (fun b => b = hb ∨ b = db) w V := hV ▸ (Keep.set (S := fun b => b = hb ∨ b = db) (b := db) (Keep.set (S := fun b => b = hb ∨ b = db) (b := db) (Keep.refl _ w) (Or.inl (Or.inr rfl)) _ _) (Or.inl (Or.inr rfl)) _ _).drew
  have a0 := cellB hh 0
  have a1 := cellB hd
  have a2 := frozenB hd
  have n1 : ¬ hb = db := hne
  have n2 : ¬ db = hb := fun e => hne e.symm
  go_enter Tryz.func16, Tryz.ntmps16
  go_upto_region 1 with fail
  go_cut [] (fun wx => wx = V)
  case first =>
    go_region_held3 (fun w' => w'.cell? ⟨hb, 0, none⟩ = some (.pointer (some ⟨db, 0, none⟩))) (go_keep) (fail)
    all_goals (go_wp2_with fail; go_meet)
    all_goals exact hV.symm
  case rest =>
    subst hcut
    clear hV a0 a1 a2
    have hdD := (heapDrew _ db).trans hdV
    have hnD := (heapDrew _ nb).trans hnV
    have b0 := cellB hhV 0
    have b3 := cellB hhV 3
    go_upto_region 2 with fail
    go_region_held3 (fun w' => w'.cell? ⟨hb, 0, none⟩ = some (.pointer (some ⟨db, 0, none⟩)) ∧ w'.cell? ⟨hb, 3, none⟩ = some (.int .u64 blk)) (first | go_keep | (exact ⟨cellB hh2 0, cellB hh2 3⟩))
      (first | (go_at_call 30; refine (open30 db nb _ _ _ _ blk _ hdD hnD).mono ?_; rintro e w2 ⟨sb, rfl, hsb, hS2, hb2⟩; have hh2 := (hb2.block hb (ltB hhV)).trans hhV))
    have hsz2 := hb2.size
    have hszV := hKV.size
    have hd2 := (hb2.block db (ltB hdV)).trans hdV
    go_wp2_with fail
    refine (told_nil _).mono ?_
    rintro e w3 ⟨rfl, hb3⟩
    have hh3 := (hb3.block hb (ltB hh2)).trans hh2
    have hd3 := (hb3.block db (ltB hd2)).trans hd2
    have hS3 := hS2.below hb3 (Nat.le_refl _)
    have c1 := cellB hh3
    have c2 := frozenB hh3
    clear b0 b3
    go_wp2_with fail
    obtain ⟨U, hU⟩ : ∃ U, U = (w3.setCell ⟨hb, 1, none⟩ (.pointer (some ⟨sb, 0, none⟩))).setCell ⟨hb, 2, none⟩ (.slice none 0 0) := ⟨_, rfl⟩
    rw [← hU]
    have hhU : U.heap[hb]? = some (.cells #[.pointer (some ⟨db, 0, none⟩), .pointer (some ⟨sb, 0, none⟩), .slice none 0 0, .int .u64 blk] 75) := by rw [hU]; simpa using heapSet (heapSet hh3 1 (.pointer (some ⟨sb, 0, none⟩))) 2 (.slice none 0 0)
    have hdU : U.heap[db]? = some (.cells #[.map mb, .map (some nb), .slice none 0 0, .int .i64 (-1), .int .i64 (-1), .bool false] 81) := by rw [hU, heapSetO n2, heapSetO n2]; exact hd3
    have hsbh : sb ≠ hb := by have h : _ ≤ sb := hsb; have h' := ltB hhV; intro e; subst e; exact absurd h' (Nat.not_lt.2 h)
    have hsbd : sb ≠ db := by have h : _ ≤ sb := hsb; have h' := ltB hdV; intro e; subst e; exact absurd h' (Nat.not_lt.2 h)
    have hSU : SrvAt U 0 sb ⟨0, 0, []⟩ (fun b => b = sb) := hS3.kept (by rw [hU]; simp) (fun b hb' => by rw [hU, hb', heapSetO hsbh, heapSetO hsbh])
    have hKU : Keep (fun b => b = hb ∨ b = db) w U := by
      have k1 := (hKV.drew.trans (Keep.of_below hb2)).trans (Keep.of_below hb3)
      rw [hU]
      exact Keep.set (S := fun b => b = hb ∨ b = db) (b := hb) (Keep.set (S := fun b => b = hb ∨ b = db) (b := hb) k1 (Or.inl (Or.inl rfl)) _ _) (Or.inl (Or.inl rfl)) _ _
    clear hU c1 c2
    refine (after28 hb db mb (some nb) _ _ _ _ (-1) (-1) 0 0 U hhU hdU).mono ?_
    rintro e w4 ⟨rfl, g1, g2⟩
    go_wp2
    go_ret
    refine ⟨sb, rfl, Nat.le_trans hszV hsb, (g2.block hb (ltB hhU) hne).trans hhU, g1, hSU.kept g2.size (fun b hb' => by rw [hb']; exact g2.block sb (ltB hSU.mem.choose_spec.1) hsbd), hKU.then g2 (fun i _ h => Or.inr h)⟩
end Go.Proofs.YtlamgpeiolfffaaGreatDoor
