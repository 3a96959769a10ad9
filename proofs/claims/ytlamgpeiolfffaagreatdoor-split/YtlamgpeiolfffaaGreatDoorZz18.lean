import Derived.Test.YtlamgpeiolfffaaGreatDoorZz12
import Derived.Laws.LoneSync
import Derived.Laws.Small
import Derived.Test.YtlamgpeiolfffaaGreatDoorZz17
set_option linter.unusedSectionVars false
namespace Go.Proofs.YtlamgpeiolfffaaGreatDoor
open Go.RowKit
variable [dK] [iK]

set_option maxRecDepth 100000 in
theorem bpass (sb : Nat) (s0 s1 mv adm : Value) (time now t : Int) (ht : (if time < now then now else time) = t) (w : World) (hs : w.heap[sb]? = some (.cells #[s0, s1, .int .u64 time, mv, adm] 119)) :
    Calls Tryz.prog 43 #[.pointer (some ⟨sb, 2, none⟩), .int .u64 now] w fun e w' => e = .returned (.tuple #[]) ∧ w'.heap[sb]? = some (.cells #[s0, s1, .int .u64 t, mv, adm] 119) ∧ Keep (fun b => b = sb) w w' := by
  have a1 := cellB hs
  have a2 := frozenB hs
  by_cases h : time < now
  · rw [if_pos h] at ht
    subst ht
    go_enter Tryz.func43, Tryz.ntmps43
    go_wp2
    go_end0
    exact ⟨rfl, by simpa using heapSet hs 2 (.int .u64 now), Keep.set (S := fun b => b = sb) (b := sb) (Keep.refl _ w) (Or.inl rfl) _ _⟩
  · rw [if_neg h] at ht
    subst ht
    go_enter Tryz.func43, Tryz.ntmps43
    go_wp2
    go_end0
    exact ⟨rfl, by simpa using heapSet hs 2 (.int .u64 time), Keep.set (S := fun b => b = sb) (b := sb) (Keep.refl _ w) (Or.inl rfl) _ _⟩

set_option maxRecDepth 100000 in
theorem bclock (sb : Nat) (s0 s1 mv adm : Value) (time : Int) (w : World) (hs : w.heap[sb]? = some (.cells #[s0, s1, .int .u64 time, mv, adm] 119)) :
    Calls Tryz.prog 107 #[.pointer (some ⟨sb, 2, none⟩)] w fun e w' => e = .returned (.agg #[.int .u8 1, .int .u64 time, .int .u64 0]) ∧ Below w.heap.size w w' := by
  have a1 := upC hs (.cells #[.int .u8 0, .int .u64 0, .int .u64 0] 40)
  go_enter Tryz.func107, Tryz.ntmps107
  go_wp2
  exact bodyPost_ret (v := .agg #[.int .u8 1, .int .u64 time, .int .u64 0]) (by simp [results, Tryz.results107, go_sem]) rfl ⟨rfl, (Below.refl _ w).alloc (Nat.le_refl _) _⟩

set_option maxRecDepth 100000 in
theorem atomAdd (sb : Nat) (s0 s1 s2 s3 : Value) (x n t : Int) (ht : IntKind.u64.wrap (x + n) = t) (w : World) (hs : w.heap[sb]? = some (.cells #[s0, s1, s2, s3, .int .u64 x] 119)) :
    Calls Tryz.prog 124 #[.pointer (some ⟨sb, 4, none⟩), .int .u64 n] w fun e w' => e = .returned (.int .u64 t) ∧ w' = w.setCell ⟨sb, 4, none⟩ (.int .u64 t) := by
  have a1 := cellB hs 4
  have a2 := frozenB hs 4
  have hadd := run_call_add (P := Tryz.prog) Tryz.func131 (by kernel_rfl) (by kernel_rfl) (by kernel_rfl) .u64 (by kernel_rfl) (a := ⟨sb, 4, none⟩) (x := x) (y := n) (s := t) a1 a2 (by rw [← ht]; simp [go_sem])
  go_enter Tryz.func124, Tryz.ntmps124
  go_wp2
  go_ret
  exact ⟨rfl, rfl⟩

set_option maxRecDepth 100000 in
theorem atomLoad (sb : Nat) (s0 s1 s2 s3 : Value) (x : Int) (w : World) (hs : w.heap[sb]? = some (.cells #[s0, s1, s2, s3, .int .u64 x] 119)) :
    Calls Tryz.prog 83 #[.pointer (some ⟨sb, 4, none⟩)] w fun e w' => e = .returned (.int .u64 x) ∧ w' = w := by
  have a1 := cellB hs 4
  have hadd := run_call_load (P := Tryz.prog) Tryz.func110 (by kernel_rfl) (by kernel_rfl) (by kernel_rfl) .u64 (by kernel_rfl) (a := ⟨sb, 4, none⟩) (x := x) a1
  go_enter Tryz.func83, Tryz.ntmps83
  go_wp2
  go_ret
  exact ⟨rfl, rfl⟩

set_option maxRecDepth 100000 in
theorem admitted54 (sb : Nat) (s0 s1 s2 s3 : Value) (x : Int) (w : World) (hs : w.heap[sb]? = some (.cells #[s0, s1, s2, s3, .int .u64 x] 119)) :
    Calls Tryz.prog 54 #[.pointer (some ⟨sb, 0, none⟩)] w fun e w' => e = .returned (.int .u64 x) ∧ w' = w := by
  go_enter Tryz.func54, Tryz.ntmps54
  go_wp2_with (go_at_call 83; refine (atomLoad sb s0 s1 s2 s3 x _ hs).mono ?_; rintro e w' ⟨rfl, rfl⟩)
  go_ret
  exact ⟨rfl, rfl⟩

set_option maxRecDepth 100000 in
theorem scount_in (sb : Nat) (s0 s1 s2 s3 : Value) (x n t a b : Int) (ht : IntKind.u64.wrap (x + n) = t) (w : World) (hs : w.heap[sb]? = some (.cells #[s0, s1, s2, s3, .int .u64 x] 119)) :
    Calls Tryz.prog 103 #[.pointer (some ⟨sb, 0, none⟩), .int .u64 n, .agg #[.int .u8 2, .int .u64 a, .int .u64 b]] w fun e w' => e = .returned (.agg #[.int .u8 2, .int .u64 a, .int .u64 b]) ∧ w'.heap[sb]? = some (.cells #[s0, s1, s2, s3, .int .u64 t] 119) ∧ Keep (fun b => b = sb) w w' := by
  have hl := ltB hs
  have hs1 := upB (upB hs (.cells #[.int .u8 2, .int .u64 a, .int .u64 b] 40)) (.cells #[.int .u8 0, .int .u64 0, .int .u64 0] 40)
  go_enter Tryz.func103, Tryz.ntmps103
  go_wp2_with (go_at_call 124; refine (atomAdd sb s0 s1 s2 s3 x n t ht _ hs1).mono ?_; rintro e w' ⟨rfl, rfl⟩)
  exact bodyPost_ret (v := .agg #[.int .u8 2, .int .u64 a, .int .u64 b]) (by simp [results, Tryz.results103, go_sem]) rfl ⟨rfl, upB (upB (by simpa using heapSet hs 4 (.int .u64 t)) _) _, ((Keep.set (S := fun b => b = sb) (b := sb) (Keep.refl _ w) (Or.inl rfl) _ _).alloc _).alloc _⟩

set_option maxRecDepth 100000 in
theorem scount_out (sb : Nat) (n c a b : Int) (hc : (c == 2) = false) (w : World) :
    Calls Tryz.prog 103 #[.pointer (some ⟨sb, 0, none⟩), .int .u64 n, .agg #[.int .u8 c, .int .u64 a, .int .u64 b]] w fun e w' => e = .returned (.agg #[.int .u8 c, .int .u64 a, .int .u64 b]) ∧ Below w.heap.size w w' := by
  go_enter Tryz.func103, Tryz.ntmps103
  go_wp2
  exact bodyPost_ret (v := .agg #[.int .u8 c, .int .u64 a, .int .u64 b]) (by simp [results, Tryz.results103, go_sem]) rfl ⟨rfl, ((Below.refl _ w).alloc (Nat.le_refl _) _).alloc (by simp) _⟩

end Go.Proofs.YtlamgpeiolfffaaGreatDoor

namespace Go.Proofs.YtlamgpeiolfffaaGreatDoor
open Go.RowKit Go.Maps
variable [dK] [iK]

/-- Block sb is a ledger's server that stands so; F: the blocks that are its own. -/
structure SrvAt (w : World) (st : Int) (sb : Nat) (L : Ld) (F : Nat → Prop) : Prop where
  mem : ∃ mp, w.heap[sb]? = some (.cells #[.int .i32 st, .int .u32 0, .int .u64 L.time, .map mp, .int .u64 L.adm] 119) ∧ MapX w mp L.ks ∧ ∀ b, mp = some b → F b
  own : F sb
  lt : ∀ b, F b → b < w.heap.size
/-- What a call on a ledger leaves. -/
def Out (w : World) (st : Int) (sb : Nat) (L : Ld) (F : Nat → Prop) (w' : World) : Prop :=
  ∃ F', SrvAt w' st sb L F' ∧ Keep F w w' ∧ ∀ b, F' b → F b ∨ w.heap.size ≤ b

theorem SrvAt.kept {w w' : World} {st : Int} {sb : Nat} {L : Ld} {F : Nat → Prop} (h : SrvAt w st sb L F) (hs : w.heap.size ≤ w'.heap.size) (hb : ∀ b, F b → w'.heap[b]? = w.heap[b]?) : SrvAt w' st sb L F := by
  obtain ⟨mp, h1, h2, h3⟩ := h.mem
  exact ⟨⟨mp, (hb sb h.own).trans h1, h2.kept fun b e => hb b (h3 b e), h3⟩, h.own, fun b hF => Nat.lt_of_lt_of_le (h.lt b hF) hs⟩
theorem SrvAt.below {w w' : World} {st : Int} {sb : Nat} {L : Ld} {F : Nat → Prop} (h : SrvAt w st sb L F) {B : Nat} (hb : Below B w w') (hB : w.heap.size ≤ B) : SrvAt w' st sb L F :=
  h.kept hb.size fun b hF => hb.block b (Nat.lt_of_lt_of_le (h.lt b hF) hB)
theorem SrvAt.drew {w : World} {st : Int} {sb : Nat} {L : Ld} {F : Nat → Prop} (h : SrvAt w st sb L F) : SrvAt w.drew st sb L F := h.kept (Nat.le_refl _) fun _ _ => rfl
theorem Out.same {w w' : World} {st : Int} {sb : Nat} {L : Ld} {F : Nat → Prop} (h : SrvAt w st sb L F) (hb : Below w.heap.size w w') : Out w st sb L F w' :=
  ⟨F, h.below hb (Nat.le_refl _), Keep.of_below hb, fun _ hF => Or.inl hF⟩
/-- A store into a block that is new and not the ledger's. -/
theorem Out.set {w w1 w' : World} {st : Int} {sb : Nat} {L : Ld} {F : Nat → Prop} (h : ∃ F', SrvAt w' st sb L F' ∧ Keep F w w' ∧ ∀ b, F' b → F b ∨ w1.heap.size ≤ b) {b : Nat} (hb : w.heap.size ≤ b) (hb1 : b < w1.heap.size) (hF : ∀ b, F b → b < w.heap.size) (j : Nat) (v : Value) :
    ∃ F', SrvAt (w'.setCell ⟨b, j, none⟩ v) st sb L F' ∧ Keep F w (w'.setCell ⟨b, j, none⟩ v) ∧ ∀ b, F' b → F b ∨ w1.heap.size ≤ b := by
  obtain ⟨F', h1, h2, h3⟩ := h
  refine ⟨F', h1.kept (by rw [World.size_setCell]; exact Nat.le_refl _) fun c hc => heapSetO (fun e => ?_) j v, h2.set (Or.inr hb) j v, h3⟩
  subst e
  rcases h3 _ hc with h | h
  · have := hF _ h; omega
  · omega

abbrev kv (q : Rq) : Value := .agg #[.int .u8 q.k0, .int .u8 q.k1, .int .u8 q.k2, .int .u8 q.k3, .int .u8 q.k4, .int .u8 q.k5, .int .u8 q.k6, .int .u8 q.k7]

theorem Out.fin {w W w' : World} {st : Int} {sb : Nat} {L : Ld} {F F' : Nat → Prop} (hB : Below w.heap.size w W) (hr : w.heap.size + 1 < W.heap.size) (hF : ∀ b, F b → b < w.heap.size) (h1 : SrvAt w' st sb L F') (h2 : Keep F W w') (h3 : ∀ b, F' b → F b ∨ W.heap.size ≤ b) (v0 v1 v2 : Value) :
    Out w st sb L F (((w'.setCell ⟨w.heap.size + 1, 0, none⟩ v0).setCell ⟨w.heap.size + 1, 1, none⟩ v1).setCell ⟨w.heap.size + 1, 2, none⟩ v2) := by
  have h0 : ∃ F', SrvAt w' st sb L F' ∧ Keep F w w' ∧ ∀ b, F' b → F b ∨ W.heap.size ≤ b := ⟨F', h1, (Keep.of_below hB).trans h2, h3⟩
  obtain ⟨F'', g1, g2, g3⟩ := Out.set (Out.set (Out.set h0 (b := w.heap.size + 1) (by omega) hr hF 0 v0) (b := w.heap.size + 1) (by omega) hr hF 1 v1) (b := w.heap.size + 1) (by omega) hr hF 2 v2
  exact ⟨F'', g1, g2, fun b hb => (g3 b hb).imp id (fun h => by omega)⟩

set_option maxRecDepth 100000 in
set_option maxHeartbeats 4000000 in
theorem do_query (sb : Nat) (st : Int) (L L' _L2 : Ld) (F : Nat → Prop) (q : Rq) (c a b : Int) (w : World) (hop : q.op = 3) (hS : SrvAt w st sb L F)
    (hc : Hid (∀ w1, SrvAt w1 st sb L F → Calls Tryz.prog 105 #[.pointer (some ⟨sb, 2, none⟩), .agg #[.int .u8 q.k0, .int .u8 q.k1, .int .u8 q.k2, .int .u8 q.k3, .int .u8 q.k4, .int .u8 q.k5, .int .u8 q.k6, .int .u8 q.k7]] w1 fun e w' => e = .returned (.agg #[.int .u8 c, .int .u64 a, .int .u64 b]) ∧ Out w1 st sb L' F w')) :
    Calls Tryz.prog 69 #[.pointer (some ⟨sb, 0, none⟩), .agg #[.int .u8 q.op, .int .u8 q.k0, .int .u8 q.k1, .int .u8 q.k2, .int .u8 q.k3, .int .u8 q.k4, .int .u8 q.k5, .int .u8 q.k6, .int .u8 q.k7, .int .u8 q.kd, .int .u64 q.x, .int .u64 q.y, .int .u64 q.n]] w fun e w' => e = .returned (.agg #[.int .u8 c, .int .u64 a, .int .u64 b]) ∧ Out w st sb L' F w' := by
  rw [hop]
  have hFl := hS.lt
  obtain ⟨W, hW⟩ : ∃ W, W = (w.alloc (.cells #[.int .u8 3, .int .u8 q.k0, .int .u8 q.k1, .int .u8 q.k2, .int .u8 q.k3, .int .u8 q.k4, .int .u8 q.k5, .int .u8 q.k6, .int .u8 q.k7, .int .u8 q.kd, .int .u64 q.x, .int .u64 q.y, .int .u64 q.n] 58)).alloc (.cells #[.int .u8 0, .int .u64 0, .int .u64 0] 40) := ⟨_, rfl⟩
  have hB : Below w.heap.size w W := hW ▸ ((Below.refl _ w).alloc (Nat.le_refl _) _).alloc (by simp) _
  have hk0 : W.heap[w.heap.size]? = some (.cells #[.int .u8 3, .int .u8 q.k0, .int .u8 q.k1, .int .u8 q.k2, .int .u8 q.k3, .int .u8 q.k4, .int .u8 q.k5, .int .u8 q.k6, .int .u8 q.k7, .int .u8 q.kd, .int .u64 q.x, .int .u64 q.y, .int .u64 q.n] 58) := hW ▸ upB (heapNew _ _) _
  have hr0 : W.heap[w.heap.size + 1]? = some (.cells #[.int .u8 0, .int .u64 0, .int .u64 0] 40) := hW ▸ heapN (by simp)
  have hSW := hS.below hB (Nat.le_refl _)
  have a1 := cellB hk0
  have lr := ltB hr0
  go_enter Tryz.func69, Tryz.ntmps69
  go_upto_region 1 with fail
  rw [← hW]
  clear hW
  go_upto_region 7 with fail
  go_region_with (go_at_call 105; go_loud (refine (hc.out _ hSW.drew).mono ?_; rintro e w2 ⟨rfl, F', ho1, ho2, ho3⟩; have hr2 := (ho2.block _ lr (fun h => by have := hFl _ h; omega)).trans hr0; have c2 := cellB hr2; have f2 := frozenB hr2))
  all_goals go_wp2
  all_goals (
    refine bodyPost_ret (v := .agg #[.int .u8 c, .int .u64 a, .int .u64 b]) (by simp [results, Tryz.results69, go_sem, c2]) rfl ⟨rfl, ?_⟩
    exact Out.fin hB.drew lr hFl ho1 ho2 ho3 _ _ _)

set_option maxRecDepth 100000 in
set_option maxHeartbeats 4000000 in
theorem do_remove (sb : Nat) (st : Int) (L L' _L2 : Ld) (F : Nat → Prop) (q : Rq) (c a b : Int) (w : World) (hop : q.op = 4) (hS : SrvAt w st sb L F)
    (hc : Hid (∀ w1, SrvAt w1 st sb L F → Calls Tryz.prog 106 #[.pointer (some ⟨sb, 2, none⟩), .agg #[.int .u8 q.k0, .int .u8 q.k1, .int .u8 q.k2, .int .u8 q.k3, .int .u8 q.k4, .int .u8 q.k5, .int .u8 q.k6, .int .u8 q.k7]] w1 fun e w' => e = .returned (.agg #[.int .u8 c, .int .u64 a, .int .u64 b]) ∧ Out w1 st sb L' F w')) :
    Calls Tryz.prog 69 #[.pointer (some ⟨sb, 0, none⟩), .agg #[.int .u8 q.op, .int .u8 q.k0, .int .u8 q.k1, .int .u8 q.k2, .int .u8 q.k3, .int .u8 q.k4, .int .u8 q.k5, .int .u8 q.k6, .int .u8 q.k7, .int .u8 q.kd, .int .u64 q.x, .int .u64 q.y, .int .u64 q.n]] w fun e w' => e = .returned (.agg #[.int .u8 c, .int .u64 a, .int .u64 b]) ∧ Out w st sb L' F w' := by
  rw [hop]
  have hFl := hS.lt
  obtain ⟨W, hW⟩ : ∃ W, W = (w.alloc (.cells #[.int .u8 4, .int .u8 q.k0, .int .u8 q.k1, .int .u8 q.k2, .int .u8 q.k3, .int .u8 q.k4, .int .u8 q.k5, .int .u8 q.k6, .int .u8 q.k7, .int .u8 q.kd, .int .u64 q.x, .int .u64 q.y, .int .u64 q.n] 58)).alloc (.cells #[.int .u8 0, .int .u64 0, .int .u64 0] 40) := ⟨_, rfl⟩
  have hB : Below w.heap.size w W := hW ▸ ((Below.refl _ w).alloc (Nat.le_refl _) _).alloc (by simp) _
  have hk0 : W.heap[w.heap.size]? = some (.cells #[.int .u8 4, .int .u8 q.k0, .int .u8 q.k1, .int .u8 q.k2, .int .u8 q.k3, .int .u8 q.k4, .int .u8 q.k5, .int .u8 q.k6, .int .u8 q.k7, .int .u8 q.kd, .int .u64 q.x, .int .u64 q.y, .int .u64 q.n] 58) := hW ▸ upB (heapNew _ _) _
  have hr0 : W.heap[w.heap.size + 1]? = some (.cells #[.int .u8 0, .int .u64 0, .int .u64 0] 40) := hW ▸ heapN (by simp)
  have hSW := hS.below hB (Nat.le_refl _)
  have a1 := cellB hk0
  have lr := ltB hr0
  go_enter Tryz.func69, Tryz.ntmps69
  go_upto_region 1 with fail
  rw [← hW]
  clear hW
  go_upto_region 9 with fail
  go_region_with (go_at_call 106; go_loud (refine (hc.out _ hSW.drew).mono ?_; rintro e w2 ⟨rfl, F', ho1, ho2, ho3⟩; have hr2 := (ho2.block _ lr (fun h => by have := hFl _ h; omega)).trans hr0; have c2 := cellB hr2; have f2 := frozenB hr2))
  all_goals go_wp2
  all_goals (
    refine bodyPost_ret (v := .agg #[.int .u8 c, .int .u64 a, .int .u64 b]) (by simp [results, Tryz.results69, go_sem, c2]) rfl ⟨rfl, ?_⟩
    exact Out.fin hB.drew lr hFl ho1 ho2 ho3 _ _ _)

end Go.Proofs.YtlamgpeiolfffaaGreatDoor
