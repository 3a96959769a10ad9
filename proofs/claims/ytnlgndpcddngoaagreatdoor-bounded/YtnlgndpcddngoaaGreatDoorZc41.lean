import Derived.Test.YtnlgndpcddngoaaGreatDoorZc40
set_option linter.unusedSectionVars false
namespace Go.Proofs.YtnlgndpcddngoaaGreatDoor
open Go.RowKit Go.Maps
variable [dK] [iK]

set_option maxRecDepth 100000 in
set_option maxHeartbeats 4000000 in
theorem do_admit (sb : Nat) (st : Int) (db kk : Nat) (cc : Led) (L' L2 : Ld) (F : Nat → Prop) (q : Rq) (c a b : Int) (w : World) (hop : q.op = 2) (hS : LedAt w st sb db (kk + 2) cc F)
    (hc : Hid (∀ w1, LedAt w1 st sb db (kk + 2) cc F → Calls Tryz.prog 111 #[.pointer (some ⟨sb, 2, none⟩), .agg #[.int .u8 q.k0, .int .u8 q.k1, .int .u8 q.k2, .int .u8 q.k3, .int .u8 q.k4, .int .u8 q.k5, .int .u8 q.k6, .int .u8 q.k7], .int .u64 q.n] w1 fun e w' => e = .returned (.agg #[.int .u8 c, .int .u64 a, .int .u64 b]) ∧ OutQ w1 st sb db kk cc F L' w'))
    (hd : Hid (∀ w1 F1 c1, c1.ok → c1.ld = L' → LedAt w1 st sb db kk c1 F1 → Calls Tryz.prog 110 #[.pointer (some ⟨sb, 0, none⟩), .int .u64 q.n, .agg #[.int .u8 c, .int .u64 a, .int .u64 b]] w1 fun e w' => e = .returned (.agg #[.int .u8 c, .int .u64 a, .int .u64 b]) ∧ OutQ w1 st sb db kk c1 F1 L2 w')) :
    Calls Tryz.prog 74 #[.pointer (some ⟨sb, 0, none⟩), .agg #[.int .u8 q.op, .int .u8 q.k0, .int .u8 q.k1, .int .u8 q.k2, .int .u8 q.k3, .int .u8 q.k4, .int .u8 q.k5, .int .u8 q.k6, .int .u8 q.k7, .int .u8 q.kd, .int .u64 q.x, .int .u64 q.y, .int .u64 q.n]] w fun e w' => e = .returned (.agg #[.int .u8 c, .int .u64 a, .int .u64 b]) ∧ OutQ w st sb db kk cc F L2 w' := by
  rw [hop]
  have hFl := hS.lt
  obtain ⟨W, hW⟩ : ∃ W, W = (w.alloc (.cells #[.int .u8 2, .int .u8 q.k0, .int .u8 q.k1, .int .u8 q.k2, .int .u8 q.k3, .int .u8 q.k4, .int .u8 q.k5, .int .u8 q.k6, .int .u8 q.k7, .int .u8 q.kd, .int .u64 q.x, .int .u64 q.y, .int .u64 q.n] 65)).alloc (.cells #[.int .u8 0, .int .u64 0, .int .u64 0] 40) := ⟨_, rfl⟩
  have hB : Below w.heap.size w W := hW ▸ ((Below.refl _ w).alloc (Nat.le_refl _) _).alloc (by simp) _
  have hk0 : W.heap[w.heap.size]? = some (.cells #[.int .u8 2, .int .u8 q.k0, .int .u8 q.k1, .int .u8 q.k2, .int .u8 q.k3, .int .u8 q.k4, .int .u8 q.k5, .int .u8 q.k6, .int .u8 q.k7, .int .u8 q.kd, .int .u64 q.x, .int .u64 q.y, .int .u64 q.n] 65) := hW ▸ upB (heapNew _ _) _
  have hr0 : W.heap[w.heap.size + 1]? = some (.cells #[.int .u8 0, .int .u64 0, .int .u64 0] 40) := hW ▸ heapN (by simp)
  have hSW := hS.below hB (Nat.le_refl _)
  have a1 := cellB hk0
  have lr := ltB hr0
  go_enter Tryz.func74, Tryz.ntmps74
  go_upto_region 1 with fail
  rw [← hW]
  clear hW
  go_upto_region 5 with fail
  go_region_with (first | (go_at_call 111; go_loud (refine (hc.out _ hSW.drew).mono ?_; rintro e w2 ⟨rfl, c', hc1, hc2, hc3, F', ho1, ho2, ho3⟩; have HC1 := hide hc1; have HC2 := hide hc2; have HC3 := hide hc3; clear hc1 hc2 hc3; have HO1 := hide ho1; clear ho1; have hr2 := (ho2.block _ lr (fun h => by have := hFl _ h; omega)).trans hr0; have c2 := cellB hr2; have f2 := frozenB hr2; have hk2 := (ho2.block _ (ltB hk0) (fun h => by have := hFl _ h; omega)).trans hk0; have k2 := cellB hk2)) | (go_at_call 110; go_loud (refine (hd.out _ F' c' HC1.out HC2.out HO1.out).mono ?_; rintro e w3 ⟨rfl, c2', hd1, hd2, hd3, F2, hp1, hp2, hp3⟩; have HD := hide (And.intro hd1 (And.intro hd2 hd3)); clear hd1 hd2 hd3; have HP1 := hide hp1; clear hp1; have lr2 := ltB hr2; have hr3 := (hp2.block _ lr2 (fun h => by rcases ho3 _ h with h | h; have := hFl _ h; omega; have : W.heap.size ≤ _ := h; omega)).trans hr2; have c3 := cellB hr3; have f3 := frozenB hr3)))
  all_goals go_wp2
  all_goals (
    refine bodyPost_ret (v := .agg #[.int .u8 c, .int .u64 a, .int .u64 b]) (by simp [results, Tryz.results74, go_sem, c3]) rfl ⟨rfl, ?_⟩
    exact ⟨c2', HD.out.1, HD.out.2.1, HD.out.2.2.trans HC3.out, OutL.fin hB.drew lr hFl HP1.out (ho2.then hp2 (fun i hi h => (ho3 i h).elim id (fun h => absurd hi (Nat.not_lt.2 h)))) (fun i h => (hp3 i h).elim (ho3 i) (fun h => Or.inr (Nat.le_trans ho2.size h))) _ _ _⟩)

end Go.Proofs.YtnlgndpcddngoaaGreatDoor
