import Derived.Test.YtlamgpeiolfffaaGreatDoorZz18
set_option linter.unusedSectionVars false
namespace Go.Proofs.YtlamgpeiolfffaaGreatDoor
open Go.RowKit Go.Maps
variable [dK] [iK]

set_option maxRecDepth 100000 in
set_option maxHeartbeats 4000000 in
theorem do_admit (sb : Nat) (st : Int) (L L' L2 : Ld) (F : Nat → Prop) (q : Rq) (c a b : Int) (w : World) (hop : q.op = 2) (hS : SrvAt w st sb L F)
    (hc : Hid (∀ w1, SrvAt w1 st sb L F → Calls Tryz.prog 104 #[.pointer (some ⟨sb, 2, none⟩), .agg #[.int .u8 q.k0, .int .u8 q.k1, .int .u8 q.k2, .int .u8 q.k3, .int .u8 q.k4, .int .u8 q.k5, .int .u8 q.k6, .int .u8 q.k7], .int .u64 q.n] w1 fun e w' => e = .returned (.agg #[.int .u8 c, .int .u64 a, .int .u64 b]) ∧ Out w1 st sb L' F w'))
    (hd : Hid (∀ w1 F1, SrvAt w1 st sb L' F1 → Calls Tryz.prog 103 #[.pointer (some ⟨sb, 0, none⟩), .int .u64 q.n, .agg #[.int .u8 c, .int .u64 a, .int .u64 b]] w1 fun e w' => e = .returned (.agg #[.int .u8 c, .int .u64 a, .int .u64 b]) ∧ Out w1 st sb L2 F1 w')) :
    Calls Tryz.prog 69 #[.pointer (some ⟨sb, 0, none⟩), .agg #[.int .u8 q.op, .int .u8 q.k0, .int .u8 q.k1, .int .u8 q.k2, .int .u8 q.k3, .int .u8 q.k4, .int .u8 q.k5, .int .u8 q.k6, .int .u8 q.k7, .int .u8 q.kd, .int .u64 q.x, .int .u64 q.y, .int .u64 q.n]] w fun e w' => e = .returned (.agg #[.int .u8 c, .int .u64 a, .int .u64 b]) ∧ Out w st sb L2 F w' := by
  rw [hop]
  have hFl := hS.lt
  obtain ⟨W, hW⟩ : ∃ W, W = (w.alloc (.cells #[.int .u8 2, .int .u8 q.k0, .int .u8 q.k1, .int .u8 q.k2, .int .u8 q.k3, .int .u8 q.k4, .int .u8 q.k5, .int .u8 q.k6, .int .u8 q.k7, .int .u8 q.kd, .int .u64 q.x, .int .u64 q.y, .int .u64 q.n] 58)).alloc (.cells #[.int .u8 0, .int .u64 0, .int .u64 0] 40) := ⟨_, rfl⟩
  have hB : Below w.heap.size w W := hW ▸ ((Below.refl _ w).alloc (Nat.le_refl _) _).alloc (by simp) _
  have hk0 : W.heap[w.heap.size]? = some (.cells #[.int .u8 2, .int .u8 q.k0, .int .u8 q.k1, .int .u8 q.k2, .int .u8 q.k3, .int .u8 q.k4, .int .u8 q.k5, .int .u8 q.k6, .int .u8 q.k7, .int .u8 q.kd, .int .u64 q.x, .int .u64 q.y, .int .u64 q.n] 58) := hW ▸ upB (heapNew _ _) _
  have hr0 : W.heap[w.heap.size + 1]? = some (.cells #[.int .u8 0, .int .u64 0, .int .u64 0] 40) := hW ▸ heapN (by simp)
  have hSW := hS.below hB (Nat.le_refl _)
  have a1 := cellB hk0
  have lr := ltB hr0
  go_enter Tryz.func69, Tryz.ntmps69
  go_upto_region 1 with fail
  rw [← hW]
  clear hW
  go_upto_region 5 with fail
  go_region_with (first | (go_at_call 104; go_loud (refine (hc.out _ hSW.drew).mono ?_; rintro e w2 ⟨rfl, F', ho1, ho2, ho3⟩; have hr2 := (ho2.block _ lr (fun h => by have := hFl _ h; omega)).trans hr0; have c2 := cellB hr2; have f2 := frozenB hr2; have hk2 := (ho2.block _ (ltB hk0) (fun h => by have := hFl _ h; omega)).trans hk0; have k2 := cellB hk2)) | (go_at_call 103; go_loud (refine (hd.out _ F' ho1).mono ?_; rintro e w3 ⟨rfl, F2, hp1, hp2, hp3⟩; have lr2 := ltB hr2; have hr3 := (hp2.block _ lr2 (fun h => by rcases ho3 _ h with h | h; have := hFl _ h; omega; have : W.heap.size ≤ _ := h; omega)).trans hr2; have c3 := cellB hr3; have f3 := frozenB hr3)))
  all_goals go_wp2
  all_goals (
    refine bodyPost_ret (v := .agg #[.int .u8 c, .int .u64 a, .int .u64 b]) (by simp [results, Tryz.results69, go_sem, c3]) rfl ⟨rfl, ?_⟩
    exact Out.fin hB.drew lr hFl hp1 (ho2.then hp2 (fun i hi h => (ho3 i h).elim id (fun h => absurd hi (Nat.not_lt.2 h)))) (fun i h => (hp3 i h).elim (ho3 i) (fun h => Or.inr (Nat.le_trans ho2.size h))) _ _ _)

end Go.Proofs.YtlamgpeiolfffaaGreatDoor

namespace Go.Proofs.YtlamgpeiolfffaaGreatDoor
open Go.RowKit Go.Maps
variable [dK] [iK]

set_option maxRecDepth 100000 in
set_option maxHeartbeats 4000000 in
theorem do_clock (sb : Nat) (st : Int) (L : Ld) (F : Nat → Prop) (q : Rq) (w : World) (hop : q.op = 6) (hS : SrvAt w st sb L F) :
    Calls Tryz.prog 69 #[.pointer (some ⟨sb, 0, none⟩), .agg #[.int .u8 q.op, .int .u8 q.k0, .int .u8 q.k1, .int .u8 q.k2, .int .u8 q.k3, .int .u8 q.k4, .int .u8 q.k5, .int .u8 q.k6, .int .u8 q.k7, .int .u8 q.kd, .int .u64 q.x, .int .u64 q.y, .int .u64 q.n]] w fun e w' => e = .returned (.agg #[.int .u8 1, .int .u64 L.time, .int .u64 0]) ∧ Out w st sb L F w' := by
  rw [hop]
  have hFl := hS.lt
  obtain ⟨W, hW⟩ : ∃ W, W = (w.alloc (.cells #[.int .u8 6, .int .u8 q.k0, .int .u8 q.k1, .int .u8 q.k2, .int .u8 q.k3, .int .u8 q.k4, .int .u8 q.k5, .int .u8 q.k6, .int .u8 q.k7, .int .u8 q.kd, .int .u64 q.x, .int .u64 q.y, .int .u64 q.n] 58)).alloc (.cells #[.int .u8 0, .int .u64 0, .int .u64 0] 40) := ⟨_, rfl⟩
  have hB : Below w.heap.size w W := hW ▸ ((Below.refl _ w).alloc (Nat.le_refl _) _).alloc (by simp) _
  have hk0 : W.heap[w.heap.size]? = some (.cells #[.int .u8 6, .int .u8 q.k0, .int .u8 q.k1, .int .u8 q.k2, .int .u8 q.k3, .int .u8 q.k4, .int .u8 q.k5, .int .u8 q.k6, .int .u8 q.k7, .int .u8 q.kd, .int .u64 q.x, .int .u64 q.y, .int .u64 q.n] 58) := hW ▸ upB (heapNew _ _) _
  have hr0 : W.heap[w.heap.size + 1]? = some (.cells #[.int .u8 0, .int .u64 0, .int .u64 0] 40) := hW ▸ heapN (by simp)
  have hSW := hS.below hB (Nat.le_refl _)
  have a1 := cellB hk0
  have lr := ltB hr0
  obtain ⟨mp, m1, m2, m3⟩ := hSW.mem
  go_enter Tryz.func69, Tryz.ntmps69
  go_upto_region 1 with fail
  rw [← hW]
  clear hW
  go_wp2_with fail
  refine (bclock sb _ _ _ _ L.time _ m1).mono ?_
  rintro e w2 ⟨rfl, hb2⟩
  have hr2 := (hb2.block _ lr).trans hr0
  have c2 := cellB hr2
  have f2 := frozenB hr2
  clear a1
  go_wp2
  refine bodyPost_ret (v := .agg #[.int .u8 1, .int .u64 L.time, .int .u64 0]) (by simp [results, Tryz.results69, go_sem, c2]) rfl ⟨rfl, ?_⟩
  exact Out.fin hB lr hFl (hSW.below hb2 (Nat.le_refl _)) (Keep.of_below hb2) (fun b h => Or.inl h) _ _ _

set_option maxRecDepth 100000 in
set_option maxHeartbeats 4000000 in
theorem do_other (sb : Nat) (st : Int) (L : Ld) (F : Nat → Prop) (q : Rq) (w : World) (h1 : q.op ≠ 1) (h2 : q.op ≠ 2) (h3 : q.op ≠ 3) (h4 : q.op ≠ 4) (h6 : q.op ≠ 6) (hS : SrvAt w st sb L F) :
    Calls Tryz.prog 69 #[.pointer (some ⟨sb, 0, none⟩), .agg #[.int .u8 q.op, .int .u8 q.k0, .int .u8 q.k1, .int .u8 q.k2, .int .u8 q.k3, .int .u8 q.k4, .int .u8 q.k5, .int .u8 q.k6, .int .u8 q.k7, .int .u8 q.kd, .int .u64 q.x, .int .u64 q.y, .int .u64 q.n]] w fun e w' => e = .returned (.agg #[.int .u8 1, .int .u64 0, .int .u64 0]) ∧ Out w st sb L F w' := by
  have n1 : (q.op == 1) = false := by simpa using h1
  have n2 : (q.op == 2) = false := by simpa using h2
  have n3 : (q.op == 3) = false := by simpa using h3
  have n4 : (q.op == 4) = false := by simpa using h4
  have n6 : (q.op == 6) = false := by simpa using h6
  clear h1 h2 h3 h4 h6
  go_enter Tryz.func69, Tryz.ntmps69
  go_wp2
  exact bodyPost_ret (v := .agg #[.int .u8 1, .int .u64 0, .int .u64 0]) (by simp [results, Tryz.results69, go_sem]) rfl ⟨rfl, Out.same hS (((Below.refl _ w).alloc (Nat.le_refl _) _).alloc (by simp) _)⟩

end Go.Proofs.YtlamgpeiolfffaaGreatDoor
