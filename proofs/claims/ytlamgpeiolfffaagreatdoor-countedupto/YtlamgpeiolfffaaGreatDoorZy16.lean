import Derived.Test.YtlamgpeiolfffaaGreatDoorZy00
import Derived.Test.YtlamgpeiolfffaaGreatDoorZy05
set_option linter.unusedSectionVars false
namespace Go.Proofs.YtlamgpeiolfffaaGreatDoor
open Go.RowKit
variable [dK] [iK]

set_option maxRecDepth 100000 in
set_option maxHeartbeats 400000 in
theorem body_frame (lo hi : Int) (f : Nat) (v : Value) (w : World)
    (hbeg : Hid (∀ w1, Below w.heap.size w w1 → Calls Tryz.prog 121 #[.agg #[.int .u8 lo, .int .u8 hi, .func (.func f) #[] #[]], v] w1 fun e w' => e = .returned (.iface 46 (.int .i64 2)) ∧ Below w1.heap.size w1 w')) :
    Calls Tryz.prog 98 #[.agg #[.int .u8 lo, .int .u8 hi, .func (.func f) #[] #[]], v] w fun e w' => e = .returned (.tuple #[.slice none 0 0, .iface 46 (.int .i64 2)]) ∧ Below w.heap.size w w' := by
  go_enter Tryz.func98, Tryz.ntmps98
  go_wp2_with fail
  refine (hbeg.out _ ((Below.refl _ w).alloc (Nat.le_refl _) _)).mono ?_
  rintro e w1 ⟨rfl, hb1⟩
  go_wp2_with fail
  refine (is_same _ _).mono ?_
  rintro e w2 ⟨rfl, rfl⟩
  go_wp2
  go_ret2
  exact ⟨rfl, ((Below.refl _ w).alloc (Nat.le_refl _) _).trans (hb1.mono (by simp))⟩

set_option maxRecDepth 100000 in
set_option maxHeartbeats 400000 in
theorem body_short (lo hi : Int) (f : Nat) (v : Value) (w : World)
    (hbeg : Hid (∀ w1, Below w.heap.size w w1 → Calls Tryz.prog 121 #[.agg #[.int .u8 lo, .int .u8 hi, .func (.func f) #[] #[]], v] w1 fun e w' => e = .returned (.iface 46 (.int .i64 1)) ∧ Below w1.heap.size w1 w')) :
    Calls Tryz.prog 98 #[.agg #[.int .u8 lo, .int .u8 hi, .func (.func f) #[] #[]], v] w fun e w' => e = .returned (.tuple #[.slice none 0 0, .iface 46 (.int .i64 1)]) ∧ Below w.heap.size w w' := by
  go_enter Tryz.func98, Tryz.ntmps98
  go_wp2_with fail
  refine (hbeg.out _ ((Below.refl _ w).alloc (Nat.le_refl _) _)).mono ?_
  rintro e w1 ⟨rfl, hb1⟩
  go_wp2_with fail
  refine (is_other _ _ _ (by decide)).mono ?_
  rintro e w2 ⟨rfl, rfl⟩
  go_wp2_with fail
  refine (is_same _ _).mono ?_
  rintro e w2 ⟨rfl, rfl⟩
  go_wp2
  go_ret2
  exact ⟨rfl, ((Below.refl _ w).alloc (Nat.le_refl _) _).trans (hb1.mono (by simp))⟩

set_option maxRecDepth 100000 in
set_option maxHeartbeats 400000 in
theorem body_short2 (lo hi : Int) (f : Nat) (g so n cap : Nat) (b0 : Int) (w : World) (hn : 0 < n) (h0 : 0 ≤ b0) (h1 : b0 ≤ 255) (hg : g < w.heap.size) (hc0 : w.cell? ⟨g, so, none⟩ = some (.int .u8 b0)) (hle : (n : Int) ≤ b0)
    (hbeg : Hid (∀ w1, Below w.heap.size w w1 → Calls Tryz.prog 121 #[.agg #[.int .u8 lo, .int .u8 hi, .func (.func f) #[] #[]], .slice (some ⟨g, so, none⟩) n cap] w1 fun e w' => e = .returned .nilIface ∧ Below w1.heap.size w1 w')) :
    Calls Tryz.prog 98 #[.agg #[.int .u8 lo, .int .u8 hi, .func (.func f) #[] #[]], .slice (some ⟨g, so, none⟩) n cap] w fun e w' => e = .returned (.tuple #[.slice none 0 0, .iface 46 (.int .i64 1)]) ∧ Below w.heap.size w w' := by
  go_enter Tryz.func98, Tryz.ntmps98
  go_wp2_with fail
  refine (hbeg.out _ ((Below.refl _ w).alloc (Nat.le_refl _) _)).mono ?_
  rintro e w1 ⟨rfl, hb1⟩
  have hB1 : Below w.heap.size w w1 := ((Below.refl _ w).alloc (Nat.le_refl _) _).trans (hb1.mono (by simp))
  have hc1 : w1.cell? ⟨g, so, none⟩ = some (.int .u8 b0) := (hB1.cell (p := ⟨g, so, none⟩) hg).trans hc0
  clear hb1
  go_wp2_with fail
  refine (is_nil _ _).mono ?_
  rintro e w2 ⟨rfl, rfl⟩
  go_wp2_with fail
  refine (is_nil _ _).mono ?_
  rintro e w2 ⟨rfl, rfl⟩
  go_wp2
  go_ret2
  exact ⟨rfl, hB1⟩

set_option maxRecDepth 100000 in
set_option maxHeartbeats 400000 in
theorem body_ok (lo hi : Int) (f : Nat) (g so n cap : Nat) (b0 : Nat) (w : World) (hn : b0 < n) (hnc : n ≤ cap) (hn1 : n ≤ 1048576) (h0 : 0 < b0) (h1 : b0 ≤ 255) (hg : g < w.heap.size) (hc0 : w.cell? ⟨g, so, none⟩ = some (.int .u8 b0))
    (hbeg : Hid (∀ w1, Below w.heap.size w w1 → Calls Tryz.prog 121 #[.agg #[.int .u8 lo, .int .u8 hi, .func (.func f) #[] #[]], .slice (some ⟨g, so, none⟩) n cap] w1 fun e w' => e = .returned .nilIface ∧ Below w1.heap.size w1 w')) :
    Calls Tryz.prog 98 #[.agg #[.int .u8 lo, .int .u8 hi, .func (.func f) #[] #[]], .slice (some ⟨g, so, none⟩) n cap] w fun e w' => e = .returned (.tuple #[.slice (some ⟨g, so + 1, none⟩) b0 b0, .nilIface]) ∧ Below w.heap.size w w' := by
  have hnp : 0 < n := by omega
  have hcm : 0 < cap := by omega
  go_enter Tryz.func98, Tryz.ntmps98
  go_wp2_with fail
  refine (hbeg.out _ ((Below.refl _ w).alloc (Nat.le_refl _) _)).mono ?_
  rintro e w1 ⟨rfl, hb1⟩
  have hB1 : Below w.heap.size w w1 := ((Below.refl _ w).alloc (Nat.le_refl _) _).trans (hb1.mono (by simp))
  have hc1 : w1.cell? ⟨g, so, none⟩ = some (.int .u8 b0) := (hB1.cell (p := ⟨g, so, none⟩) hg).trans hc0
  clear hb1
  go_wp2_with fail
  refine (is_nil _ _).mono ?_
  rintro e w2 ⟨rfl, rfl⟩
  go_wp2_with fail
  refine (is_nil _ _).mono ?_
  rintro e w2 ⟨rfl, rfl⟩
  go_wp2
  go_ret2
  rw [Nat.add_sub_cancel_left]
  exact ⟨rfl, hB1⟩
end Go.Proofs.YtlamgpeiolfffaaGreatDoor

namespace Go.Proofs.YtlamgpeiolfffaaGreatDoor
open Go.RowKit
variable [dK] [iK]

set_option maxRecDepth 100000 in
set_option maxHeartbeats 400000 in
theorem told_nil (w : World) : Calls Tryz.prog 31 #[.nilIface] w fun e w' => e = .returned (.int .i64 0) ∧ Below w.heap.size w w' := by
  go_enter Tryz.func31, Tryz.ntmps31
  go_wp2
  go_ret
  exact ⟨rfl, (Below.refl _ w).alloc (Nat.le_refl _) _⟩

set_option maxRecDepth 100000 in
set_option maxHeartbeats 1000000 in
theorem told_err (n : Int) (w : World) (hg : w.cell? ⟨0, 0, none⟩ = some (.iface 201 (.agg #[.pointer (some ⟨1, 88, none⟩)]))) :
    Calls Tryz.prog 31 #[.iface 46 (.int .i64 n)] w fun e w' => e = .returned (.int .i64 n) ∧ Below w.heap.size w w' := by
  have hlt : 0 < w.heap.size := by
    rcases Nat.eq_zero_or_pos w.heap.size with h0 | h
    · simp [World.cell?, h0] at hg
    · exact h
  have hgA : (w.alloc (.cells #[.int .i64 0] 46)).cell? ⟨0, 0, none⟩ = some (.iface 201 (.agg #[.pointer (some ⟨1, 88, none⟩)])) := by
    rw [World.cell?_alloc_lt _ _ ⟨0, 0, none⟩ hlt]; exact hg
  have htA : (w.alloc (.cells #[.int .i64 0] 46)).cell? ⟨w.heap.size, 0, none⟩ = some (.int .i64 0) := by simp
  have hfA : (w.alloc (.cells #[.int .i64 0] 46)).frozen? ⟨w.heap.size, 0, none⟩ = false := by simp
  go_enter Tryz.func31, Tryz.ntmps31
  go_wp2_with (first | (go_at_call 47; refine (as_hit _ _ (.int .i64 0) _ hgA htA hfA).mono ?_; rintro e w' ⟨rfl, rfl⟩) | (go_at_call 48; refine (is_same _ _).mono ?_; rintro e w' ⟨rfl, rfl⟩))
  go_ret
  exact ⟨rfl, (((((Below.refl _ w).alloc (Nat.le_refl _) _).alloc (by simp) _).alloc (by simp; omega) _).alloc (by simp; omega) _).alloc (by simp; omega) _⟩
end Go.Proofs.YtlamgpeiolfffaaGreatDoor

namespace Go.Proofs.YtlamgpeiolfffaaGreatDoor
open Go.RowKit
variable [dK] [iK]

set_option maxRecDepth 100000 in
set_option maxHeartbeats 2000000 in
theorem hostopen16 (hb db nb : Nat) (dm : Value) (sv cv : Value) (blk l f : Int) (w : World) (hh : w.heap[hb]? = some (.cells #[.pointer (some ⟨db, 0, none⟩), sv, cv, .int .u64 blk] 75)) (hd : w.heap[db]? = some (.cells #[dm, .map (some nb), .slice none 0 0, .int .i64 l, .int .i64 f, .bool false] 81)) (hdm : ∃ mb, dm = .map mb) (hn : w.heap[nb]? = some (.map #[] 0)) :
    Calls Tryz.prog 16 #[.pointer (some ⟨hb, 0, none⟩), .int .i64 (-1), .int .i64 (-1), .int .i64 0, .int .i64 0] w fun e w' => ∃ sb, e = .returned (.int .i64 0) ∧ w.heap.size ≤ sb ∧ w'.heap[hb]? = some (.cells #[.pointer (some ⟨db, 0, none⟩), .pointer (some ⟨sb, 0, none⟩), .slice none 0 0, .int .u64 blk] 75) ∧ w'.heap[db]? = some (.cells #[dm, .map (some nb), .slice none 0 0, .int .i64 (-1), .int .i64 (-1), .bool false] 81) ∧ SrvAt w' 0 sb ⟨0, 0, []⟩ (fun b => b = sb) ∧ Keep (fun b => b = hb ∨ b = db) w w' := by
  obtain ⟨mb, rfl⟩ := hdm
  have lh := ltB hh
  have ld := ltB hd
  have hne : hb ≠ db := by
    intro e; subst e
    rw [hh] at hd; simp at hd
  have hnd : nb ≠ db := by
    intro e; subst e
    rw [hd] at hn; simp at hn
  have hnh : nb ≠ hb := by
    intro e; subst e
    rw [hh] at hn; simp at hn
  obtain ⟨V, hV⟩ : ∃ V, V = ((w.setCell ⟨db, 3, none⟩ (.int .i64 (-1))).setCell ⟨db, 4, none⟩ (.int .i64 (-1))).drew := ⟨_, rfl⟩
  have hhV : V.heap[hb]? = some (.cells #[.pointer (some ⟨db, 0, none⟩), sv, cv, .int .u64 blk] 75) := by rw [hV, heapDrew, heapSetO hne, heapSetO hne]; exact hh
  have hdV : V.heap[db]? = some (.cells #[.map mb, .map (some nb), .slice none 0 0, .int .i64 (-1), .int .i64 (-1), .bool false] 81) := by rw [hV, heapDrew]; simpa using heapSet (heapSet hd 3 (.int .i64 (-1))) 4 (.int .i64 (-1))
  have hnV : V.heap[nb]? = some (.map #[] 0) := by rw [hV, heapDrew, heapSetO hnd, heapSetO hnd]; exact hn
  have hKV : Keep (fun b => b = hb ∨ b = db) w V := hV ▸ (Keep.set (S := fun b => b = hb ∨ b = db) (b := db) (Keep.set (S := fun b => b = hb ∨ b = db) (b := db) (Keep.refl _ w) (Or.inl (Or.inr rfl)) _ _) (Or.inl (Or.inr rfl)) _ _).drew
  have a0 := cellB hh 0
  have a1 := cellB hd
  have a2 := frozenB hd
  have n1 : ¬ hb = db := hne
  have n2 : ¬ db = hb := fun e => hne e.symm
  go_enter Tryz.func16, Tryz.ntmps16
  go_upto_region 1 with fail
  go_cut [] (fun wx => wx = V)
  case first =>
    go_region_held3 (fun w' => w'.cell? ⟨hb, 0, none⟩ = some (.pointer (some ⟨db, 0, none⟩))) (go_keep) (fail)
    all_goals (go_wp2_with fail; go_meet)
    all_goals exact hV.symm
  case rest =>
    subst hcut
    clear hV a0 a1 a2
    have hdD := (heapDrew _ db).trans hdV
    have hnD := (heapDrew _ nb).trans hnV
    have b0 := cellB hhV 0
    have b3 := cellB hhV 3
    go_upto_region 2 with fail
    go_region_held3 (fun w' => w'.cell? ⟨hb, 0, none⟩ = some (.pointer (some ⟨db, 0, none⟩)) ∧ w'.cell? ⟨hb, 3, none⟩ = some (.int .u64 blk)) (first | go_keep | (exact ⟨cellB hh2 0, cellB hh2 3⟩))
      (first | (go_at_call 30; refine (open30 db nb _ _ _ _ blk _ hdD hnD).mono ?_; rintro e w2 ⟨sb, rfl, hsb, hS2, hb2⟩; have hh2 := (hb2.block hb (ltB hhV)).trans hhV))
    have hsz2 := hb2.size
    have hszV := hKV.size
    have hd2 := (hb2.block db (ltB hdV)).trans hdV
    go_wp2_with fail
    refine (told_nil _).mono ?_
    rintro e w3 ⟨rfl, hb3⟩
    have hh3 := (hb3.block hb (ltB hh2)).trans hh2
    have hd3 := (hb3.block db (ltB hd2)).trans hd2
    have hS3 := hS2.below hb3 (Nat.le_refl _)
    have c1 := cellB hh3
    have c2 := frozenB hh3
    clear b0 b3
    go_wp2_with fail
    obtain ⟨U, hU⟩ : ∃ U, U = (w3.setCell ⟨hb, 1, none⟩ (.pointer (some ⟨sb, 0, none⟩))).setCell ⟨hb, 2, none⟩ (.slice none 0 0) := ⟨_, rfl⟩
    rw [← hU]
    have hhU : U.heap[hb]? = some (.cells #[.pointer (some ⟨db, 0, none⟩), .pointer (some ⟨sb, 0, none⟩), .slice none 0 0, .int .u64 blk] 75) := by rw [hU]; simpa using heapSet (heapSet hh3 1 (.pointer (some ⟨sb, 0, none⟩))) 2 (.slice none 0 0)
    have hdU : U.heap[db]? = some (.cells #[.map mb, .map (some nb), .slice none 0 0, .int .i64 (-1), .int .i64 (-1), .bool false] 81) := by rw [hU, heapSetO n2, heapSetO n2]; exact hd3
    have hsbh : sb ≠ hb := by have h : _ ≤ sb := hsb; have h' := ltB hhV; intro e; subst e; exact absurd h' (Nat.not_lt.2 h)
    have hsbd : sb ≠ db := by have h : _ ≤ sb := hsb; have h' := ltB hdV; intro e; subst e; exact absurd h' (Nat.not_lt.2 h)
    have hSU : SrvAt U 0 sb ⟨0, 0, []⟩ (fun b => b = sb) := hS3.kept (by rw [hU]; simp) (fun b hb' => by rw [hU, hb', heapSetO hsbh, heapSetO hsbh])
    have hKU : Keep (fun b => b = hb ∨ b = db) w U := by
      have k1 := (hKV.drew.trans (Keep.of_below hb2)).trans (Keep.of_below hb3)
      rw [hU]
      exact Keep.set (S := fun b => b = hb ∨ b = db) (b := hb) (Keep.set (S := fun b => b = hb ∨ b = db) (b := hb) k1 (Or.inl (Or.inl rfl)) _ _) (Or.inl (Or.inl rfl)) _ _
    clear hU c1 c2
    refine (after28 hb db mb (some nb) _ _ _ _ (-1) (-1) 0 0 U hhU hdU).mono ?_
    rintro e w4 ⟨rfl, g1, g2⟩
    go_wp2
    go_ret
    refine ⟨sb, rfl, Nat.le_trans hszV hsb, (g2.block hb (ltB hhU) hne).trans hhU, g1, hSU.kept g2.size (fun b hb' => by rw [hb']; exact g2.block sb (ltB hSU.mem.choose_spec.1) hsbd), hKU.then g2 (fun i _ h => Or.inr h)⟩
end Go.Proofs.YtlamgpeiolfffaaGreatDoor
