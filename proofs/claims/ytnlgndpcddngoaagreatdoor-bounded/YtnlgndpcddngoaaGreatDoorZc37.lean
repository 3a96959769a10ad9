import Derived.Test.YtnlgndpcddngoaaGreatDoorZc35
import Derived.Test.YtnlgndpcddngoaaGreatDoorZc33
import Derived.Deep.RegionHeld3
set_option linter.unusedSectionVars false
namespace Go.Proofs.YtnlgndpcddngoaaGreatDoor
open Go.RowKit Go.Maps
variable [dK] [iK]

set_option maxRecDepth 100000 in
set_option maxHeartbeats 4000000 in
theorem badmit_cov (sb mp : Nat) (s0 s1 sp adm : Value) (time blk : Int) (es : Es) (k : Ky) (w : World) (hs : w.heap[sb]? = some (.cells #[s0, s1, .int .u64 time, .int .u64 blk, .map (some mp), sp, adm] 130)) (hm : MapE w mp es) (hk : k.ok) (p1 p2 : Qt) (hf : fndG k es = some (p1, p2)) (n : Int) (q' : Qt) (rc ra rb : Int)
    (h137 : Hid (∀ w1, Calls Tryz.prog 137 #[.agg #[.int .u8 p1.kd, .int .u64 p1.x, .int .u64 p1.y, .int .u64 p1.lv, .int .u64 p1.wn], .int .u64 time, .int .u64 n] w1 fun e w' => e = .returned (.tuple #[.agg #[.int .u8 q'.kd, .int .u64 q'.x, .int .u64 q'.y, .int .u64 q'.lv, .int .u64 q'.wn], .agg #[.int .u8 rc, .int .u64 ra, .int .u64 rb]]) ∧ Below w1.heap.size w1 w')) (hrc : Hid (rc = 2)) (hn : n ≠ 0) (hlen : es.length ≤ 12) (hmpw : mp < w.heap.size)
    (h138 : Hid (∀ w1, Calls Tryz.prog 138 #[.agg #[.int .u8 p2.kd, .int .u64 p2.x, .int .u64 p2.y, .int .u64 p2.lv, .int .u64 p2.wn], .agg #[.int .u8 q'.kd, .int .u64 q'.x, .int .u64 q'.y, .int .u64 q'.lv, .int .u64 q'.wn]] w1 fun e w' => e = .returned (.bool true) ∧ Below w1.heap.size w1 w')) :
    Calls Tryz.prog 111 #[.pointer (some ⟨sb, 2, none⟩), .agg #[.int .u8 k.k0, .int .u8 k.k1, .int .u8 k.k2, .int .u8 k.k3, .int .u8 k.k4, .int .u8 k.k5, .int .u8 k.k6, .int .u8 k.k7], .int .u64 n] w fun e w' => e = .returned (.agg #[.int .u8 rc, .int .u64 ra, .int .u64 rb]) ∧ MapE w' mp (putG k (q', p2) es) ∧ Keep (fun b => b = mp) w w' := by
  go_enter Tryz.func111, Tryz.ntmps111
  go_upto_region 1 with fail
  obtain ⟨W, hW⟩ : ∃ W, W = (w.alloc (.cells #[.int .u8 k.k0, .int .u8 k.k1, .int .u8 k.k2, .int .u8 k.k3, .int .u8 k.k4, .int .u8 k.k5, .int .u8 k.k6, .int .u8 k.k7] 63)).alloc (.cells #[.int .u8 0, .int .u64 0, .int .u64 0] 40) := ⟨_, rfl⟩
  rw [← hW]
  have hB : Below w.heap.size w W := hW ▸ ((Below.refl _ w).alloc (Nat.le_refl _) _).alloc (by simp) _
  have hk0 : W.heap[w.heap.size]? = some (.cells #[.int .u8 k.k0, .int .u8 k.k1, .int .u8 k.k2, .int .u8 k.k3, .int .u8 k.k4, .int .u8 k.k5, .int .u8 k.k6, .int .u8 k.k7] 63) := hW ▸ upB (heapNew _ _) _
  have hr0 : W.heap[w.heap.size + 1]? = some (.cells #[.int .u8 0, .int .u64 0, .int .u64 0] 40) := hW ▸ heapN (by simp)
  have hs0 : W.heap[sb]? = some (.cells #[s0, s1, .int .u64 time, .int .u64 blk, .map (some mp), sp, adm] 130) := hW ▸ upB (upB hs _) _
  have hm0 : MapE W mp es := MapG.kept hm (hB.block mp (MapG.lt hm))
  have hsb := ltB hs
  clear hW hs hm
  have a1 := cellB hk0
  have a2 := upC hk0 (.cells #[.int .u8 0, .int .u64 0, .int .u64 0, .int .u64 0, .int .u64 0, .int .u8 0, .int .u64 0, .int .u64 0, .int .u64 0, .int .u64 0] 177)
  have a3 := cellB hs0
  have a4 := upC hs0 (.cells #[.int .u8 0, .int .u64 0, .int .u64 0, .int .u64 0, .int .u64 0, .int .u8 0, .int .u64 0, .int .u64 0, .int .u64 0, .int .u64 0] 177)
  have a5 := lookE1 (w := W.drew) (MapG.kept hm0 rfl) hk hf
  have a6 := lookE1 (w := (W.alloc (.cells #[.int .u8 0, .int .u64 0, .int .u64 0, .int .u64 0, .int .u64 0, .int .u8 0, .int .u64 0, .int .u64 0, .int .u64 0, .int .u64 0] 177)).drew) (MapG.kept hm0 (heapOld _ _ (MapG.lt hm0))) hk hf
  go_cut [7, 8] (fun s5 s6 wx => s5 = .pointer (some ⟨W.heap.size, 0, none⟩) ∧ s6 = .bool true ∧ wx = (W.alloc (.cells #[.int .u8 p1.kd, .int .u64 p1.x, .int .u64 p1.y, .int .u64 p1.lv, .int .u64 p1.wn, .int .u8 p2.kd, .int .u64 p2.x, .int .u64 p2.y, .int .u64 p2.lv, .int .u64 p2.wn] 177)).drew)
  case first =>
    go_region
    all_goals (go_wp2_with fail; go_meet)
    all_goals exact ⟨rfl, rfl, rfl⟩
  case rest =>
    obtain ⟨rfl, rfl, rfl⟩ := hcut
    have hz0 : (W.alloc (.cells #[.int .u8 p1.kd, .int .u64 p1.x, .int .u64 p1.y, .int .u64 p1.lv, .int .u64 p1.wn, .int .u8 p2.kd, .int .u64 p2.x, .int .u64 p2.y, .int .u64 p2.lv, .int .u64 p2.wn] 177)).heap[W.heap.size]? = some (.cells #[.int .u8 p1.kd, .int .u64 p1.x, .int .u64 p1.y, .int .u64 p1.lv, .int .u64 p1.wn, .int .u8 p2.kd, .int .u64 p2.x, .int .u64 p2.y, .int .u64 p2.lv, .int .u64 p2.wn] 177) := heapNew _ _
    have hk1 := upB hk0 (.cells #[.int .u8 p1.kd, .int .u64 p1.x, .int .u64 p1.y, .int .u64 p1.lv, .int .u64 p1.wn, .int .u8 p2.kd, .int .u64 p2.x, .int .u64 p2.y, .int .u64 p2.lv, .int .u64 p2.wn] 177)
    have hr1 := upB hr0 (.cells #[.int .u8 p1.kd, .int .u64 p1.x, .int .u64 p1.y, .int .u64 p1.lv, .int .u64 p1.wn, .int .u8 p2.kd, .int .u64 p2.x, .int .u64 p2.y, .int .u64 p2.lv, .int .u64 p2.wn] 177)
    have hs1 := upB hs0 (.cells #[.int .u8 p1.kd, .int .u64 p1.x, .int .u64 p1.y, .int .u64 p1.lv, .int .u64 p1.wn, .int .u8 p2.kd, .int .u64 p2.x, .int .u64 p2.y, .int .u64 p2.lv, .int .u64 p2.wn] 177)
    have hm1 : MapE (W.alloc (.cells #[.int .u8 p1.kd, .int .u64 p1.x, .int .u64 p1.y, .int .u64 p1.lv, .int .u64 p1.wn, .int .u8 p2.kd, .int .u64 p2.x, .int .u64 p2.y, .int .u64 p2.lv, .int .u64 p2.wn] 177)) mp es := MapG.kept hm0 (heapOld _ _ (MapG.lt hm0))
    have hB1 := hB.alloc hB.size (.cells #[.int .u8 p1.kd, .int .u64 p1.x, .int .u64 p1.y, .int .u64 p1.lv, .int .u64 p1.wn, .int .u8 p2.kd, .int .u64 p2.x, .int .u64 p2.y, .int .u64 p2.lv, .int .u64 p2.wn] 177)
    have hB0 := hB.size
    clear a1 a2 a3 a4 a5 a6 hk0 hr0 hs0 hm0
    obtain ⟨V, hV⟩ : ∃ V, V = (W.alloc (.cells #[.int .u8 p1.kd, .int .u64 p1.x, .int .u64 p1.y, .int .u64 p1.lv, .int .u64 p1.wn, .int .u8 p2.kd, .int .u64 p2.x, .int .u64 p2.y, .int .u64 p2.lv, .int .u64 p2.wn] 177)).drew := ⟨_, rfl⟩
    rw [← hV]
    have hz2 : V.heap[W.heap.size]? = some (.cells #[.int .u8 p1.kd, .int .u64 p1.x, .int .u64 p1.y, .int .u64 p1.lv, .int .u64 p1.wn, .int .u8 p2.kd, .int .u64 p2.x, .int .u64 p2.y, .int .u64 p2.lv, .int .u64 p2.wn] 177) := hV ▸ hz0
    have hk2 : V.heap[w.heap.size]? = some (.cells #[.int .u8 k.k0, .int .u8 k.k1, .int .u8 k.k2, .int .u8 k.k3, .int .u8 k.k4, .int .u8 k.k5, .int .u8 k.k6, .int .u8 k.k7] 63) := hV ▸ hk1
    have hr2 : V.heap[w.heap.size + 1]? = some (.cells #[.int .u8 0, .int .u64 0, .int .u64 0] 40) := hV ▸ hr1
    have hs2 : V.heap[sb]? = some (.cells #[s0, s1, .int .u64 time, .int .u64 blk, .map (some mp), sp, adm] 130) := hV ▸ hs1
    have hm2 : MapE V mp es := hV ▸ MapG.kept hm1 rfl
    have hB2 : Below w.heap.size w V := hV ▸ hB1.drew
    clear hV hz0 hk1 hr1 hs1 hm1 hB1
    have lz := ltB hz2
    have lr := ltB hr2
    have ls := ltB hs2
    go_upto_region 4 with fail
    go_cut [9, 10] (fun s9 s10 wx => ∃ (X : World) (B9 B10 : Nat), X = wx ∧ s9 = .pointer (some ⟨B9, 0, none⟩) ∧ s10 = .pointer (some ⟨B10, 0, none⟩) ∧ X.heap[B9]? = some (.cells #[.int .u8 q'.kd, .int .u64 q'.x, .int .u64 q'.y, .int .u64 q'.lv, .int .u64 q'.wn] 173) ∧ X.heap[B10]? = some (.cells #[.int .u8 rc, .int .u64 ra, .int .u64 rb] 40) ∧ V.heap.size ≤ B9 ∧ V.heap.size ≤ B10 ∧ Below V.heap.size V X)
    case first =>
      have c0 := cellB hz2 0
      have c1 := cellB hz2 1
      have c2 := cellB hz2 2
      have c3 := cellB hz2 3
      have c4 := cellB hz2 4
      have c5 := cellB hs2 2
      simp at c0 c1 c2 c3 c4 c5
      have n1 : V.heap.size ≠ W.heap.size := by omega
      have n2 : V.heap.size + 1 ≠ W.heap.size := by omega
      have n3 : V.heap.size ≠ sb := by omega
      have n4 : V.heap.size + 1 ≠ sb := by omega
      have HZ2 := hide hz2
      have HS2 := hide hs2
      clear hz2 hk2 hr2 hs2 hm2 hB2 hB hk hf hB0
      go_region_held3 (fun w' => w'.cell? ⟨W.heap.size, 0, none⟩ = some (.int .u8 p1.kd) ∧ w'.cell? ⟨W.heap.size, 1, none⟩ = some (.int .u64 p1.x) ∧ w'.cell? ⟨W.heap.size, 2, none⟩ = some (.int .u64 p1.y) ∧ w'.cell? ⟨W.heap.size, 3, none⟩ = some (.int .u64 p1.lv) ∧ w'.cell? ⟨W.heap.size, 4, none⟩ = some (.int .u64 p1.wn) ∧ w'.cell? ⟨sb, 2, none⟩ = some (.int .u64 time)) (first | go_keep) (first
        | (go_at_call 137; refine (h137.out _).mono ?_; rintro e w2 ⟨rfl, hb2⟩
           have sz2 := hb2.size
           have hzz := (by first | exact car2 HZ2.out hb2 | exact car1 HZ2.out hb2 | exact car0 HZ2.out hb2 : w2.heap[W.heap.size]? = some (.cells #[.int .u8 p1.kd, .int .u64 p1.x, .int .u64 p1.y, .int .u64 p1.lv, .int .u64 p1.wn, .int .u8 p2.kd, .int .u64 p2.x, .int .u64 p2.y, .int .u64 p2.lv, .int .u64 p2.wn] 177))
           have hss := (by first | exact car2 HS2.out hb2 | exact car1 HS2.out hb2 | exact car0 HS2.out hb2 : w2.heap[sb]? = some (.cells #[s0, s1, .int .u64 time, .int .u64 blk, .map (some mp), sp, adm] 130))
           have d0 := cellB hzz 0
           have d1 := cellB hzz 1
           have d2 := cellB hzz 2
           have d3 := cellB hzz 3
           have d4 := cellB hzz 4
           have d5 := cellB hss 2
           simp at d0 d1 d2 d3 d4 d5 sz2
           have m1 : w2.heap.size ≠ W.heap.size := by omega
           have m2 : w2.heap.size + 1 ≠ W.heap.size := by omega
           have m3 : w2.heap.size ≠ sb := by omega
           have m4 : w2.heap.size + 1 ≠ sb := by omega
           first
             | (have hx0 : Below V.drew.heap.size V.drew w2 := hb2; have HBV := hide ((Below.refl V.heap.size V).drew.trans hx0); clear hx0)
             | (have hx0 : Below (V.alloc (.cells #[.int .u8 0, .int .u64 0, .int .u64 0, .int .u64 0, .int .u64 0] 173)).drew.heap.size (V.alloc (.cells #[.int .u8 0, .int .u64 0, .int .u64 0, .int .u64 0, .int .u64 0] 173)).drew w2 := hb2; have hx9 := carC hx0; have HBV := hide (bel1 hx0); have x1 := cellB hx9; have x2 := frozenB hx9; have x3 := upC hx9 (.cells #[.int .u8 0, .int .u64 0, .int .u64 0, .int .u64 0, .int .u64 0] 173); have x4 := upF hx9 (.cells #[.int .u8 0, .int .u64 0, .int .u64 0, .int .u64 0, .int .u64 0] 173); have x5 := upC hx9 (.cells #[.int .u8 0, .int .u64 0, .int .u64 0] 40); have x6 := upF hx9 (.cells #[.int .u8 0, .int .u64 0, .int .u64 0] 40); have x9 := upC hx9 (.cells #[.int .u8 q'.kd, .int .u64 q'.x, .int .u64 q'.y, .int .u64 q'.lv, .int .u64 q'.wn] 173); have x10 := upF hx9 (.cells #[.int .u8 q'.kd, .int .u64 q'.x, .int .u64 q'.y, .int .u64 q'.lv, .int .u64 q'.wn] 173); have x7 : ¬ V.heap.size = w2.heap.size := (by omega); have x8 : ¬ w2.heap.size = V.heap.size := (by omega); have HX9 := hide hx9; clear hx9 hx0)
             | (have hx0 : Below (V.alloc (.cells #[.int .u8 0, .int .u64 0, .int .u64 0] 40)).drew.heap.size (V.alloc (.cells #[.int .u8 0, .int .u64 0, .int .u64 0] 40)).drew w2 := hb2; have hx9 := carC hx0; have HBV := hide (bel1 hx0); have x1 := cellB hx9; have x2 := frozenB hx9; have x3 := upC hx9 (.cells #[.int .u8 0, .int .u64 0, .int .u64 0, .int .u64 0, .int .u64 0] 173); have x4 := upF hx9 (.cells #[.int .u8 0, .int .u64 0, .int .u64 0, .int .u64 0, .int .u64 0] 173); have x5 := upC hx9 (.cells #[.int .u8 0, .int .u64 0, .int .u64 0] 40); have x6 := upF hx9 (.cells #[.int .u8 0, .int .u64 0, .int .u64 0] 40); have x9 := upC hx9 (.cells #[.int .u8 q'.kd, .int .u64 q'.x, .int .u64 q'.y, .int .u64 q'.lv, .int .u64 q'.wn] 173); have x10 := upF hx9 (.cells #[.int .u8 q'.kd, .int .u64 q'.x, .int .u64 q'.y, .int .u64 q'.lv, .int .u64 q'.wn] 173); have x7 : ¬ V.heap.size = w2.heap.size := (by omega); have x8 : ¬ w2.heap.size = V.heap.size := (by omega); have HX9 := hide hx9; clear hx9 hx0)
             | (have hx0 : Below ((V.alloc (.cells #[.int .u8 0, .int .u64 0, .int .u64 0, .int .u64 0, .int .u64 0] 173)).alloc (.cells #[.int .u8 0, .int .u64 0, .int .u64 0] 40)).drew.heap.size ((V.alloc (.cells #[.int .u8 0, .int .u64 0, .int .u64 0, .int .u64 0, .int .u64 0] 173)).alloc (.cells #[.int .u8 0, .int .u64 0, .int .u64 0] 40)).drew w2 := hb2; obtain ⟨hx9, hy9⟩ := carD hx0; have HBV := hide (bel2 hx0); have x1 := cellB hx9; have x2 := frozenB hx9; have y1 := cellB hy9; have y2 := frozenB hy9; have HX9 := hide hx9; have HY9 := hide hy9; clear hx9 hy9 hx0)
             | (have hx0 : Below ((V.alloc (.cells #[.int .u8 0, .int .u64 0, .int .u64 0] 40)).alloc (.cells #[.int .u8 0, .int .u64 0, .int .u64 0, .int .u64 0, .int .u64 0] 173)).drew.heap.size ((V.alloc (.cells #[.int .u8 0, .int .u64 0, .int .u64 0] 40)).alloc (.cells #[.int .u8 0, .int .u64 0, .int .u64 0, .int .u64 0, .int .u64 0] 173)).drew w2 := hb2; obtain ⟨hx9, hy9⟩ := carD hx0; have HBV := hide (bel2 hx0); have x1 := cellB hx9; have x2 := frozenB hx9; have y1 := cellB hy9; have y2 := frozenB hy9; have HX9 := hide hx9; have HY9 := hide hy9; clear hx9 hy9 hx0)
           have t1 := cellB (upB (heapNew w2 (.cells #[.int .u8 0, .int .u64 0, .int .u64 0, .int .u64 0, .int .u64 0] 173)) (.cells #[.int .u8 0, .int .u64 0, .int .u64 0] 40))
           have t2 := frozenB (upB (heapNew w2 (.cells #[.int .u8 0, .int .u64 0, .int .u64 0, .int .u64 0, .int .u64 0] 173)) (.cells #[.int .u8 0, .int .u64 0, .int .u64 0] 40))
           have t3 := cellB (upB (heapNew w2 (.cells #[.int .u8 0, .int .u64 0, .int .u64 0] 40)) (.cells #[.int .u8 0, .int .u64 0, .int .u64 0, .int .u64 0, .int .u64 0] 173))
           have t4 := frozenB (upB (heapNew w2 (.cells #[.int .u8 0, .int .u64 0, .int .u64 0] 40)) (.cells #[.int .u8 0, .int .u64 0, .int .u64 0, .int .u64 0, .int .u64 0] 173))
           have t5 := cellB (heapNew w2 (.cells #[.int .u8 0, .int .u64 0, .int .u64 0] 40))
           have t6 := frozenB (heapNew w2 (.cells #[.int .u8 0, .int .u64 0, .int .u64 0] 40))
           have t7 := cellB (heapNew w2 (.cells #[.int .u8 0, .int .u64 0, .int .u64 0, .int .u64 0, .int .u64 0] 173))
           have t8 := frozenB (heapNew w2 (.cells #[.int .u8 0, .int .u64 0, .int .u64 0, .int .u64 0, .int .u64 0] 173))
           have HB3 := hide hb2
           clear hb2 hzz hss))
      all_goals (go_wp2_with fail; go_meet)
      · exact ⟨_, _, _, rfl, rfl, rfl, upB (heapNew _ _) _, heapN (by simp), HBV.out.size, Nat.le_succ_of_le HBV.out.size, (HBV.out.alloc HBV.out.size _).alloc (by have := HBV.out.size; simp; omega) _⟩
      · exact ⟨_, _, _, rfl, rfl, rfl, heapN (by simp), upB (heapNew _ _) _, Nat.le_succ_of_le HBV.out.size, HBV.out.size, (HBV.out.alloc HBV.out.size _).alloc (by have := HBV.out.size; simp; omega) _⟩
      · exact ⟨_, _, _, rfl, rfl, rfl, set8 (upB HX9.out _) (heapNew _ _) x7 (Nat.le_refl _) HBV.out.size (HBV.out.alloc HBV.out.size _)⟩
      · exact ⟨_, _, _, rfl, rfl, rfl, set8 HX9.out HY9.out (by omega) (by omega) (by omega) HBV.out⟩
      · exact ⟨_, _, _, rfl, rfl, rfl, set3 (heapNew _ _) (upB HX9.out _) x8 HBV.out.size (Nat.le_refl _) (HBV.out.alloc HBV.out.size _)⟩
      · exact ⟨_, _, _, rfl, rfl, rfl, set8 HY9.out HX9.out (by omega) (by omega) (by omega) HBV.out⟩
    case rest =>
      obtain ⟨X, B9, B10, rfl, rfl, rfl, g9, g10, l9, l10, hBX⟩ := hcut
      have hkX := (hBX.block _ (ltB hk2)).trans hk2
      have hrX := (hBX.block _ (ltB hr2)).trans hr2
      have hzX := (hBX.block _ (ltB hz2)).trans hz2
      have hsX := (hBX.block _ (ltB hs2)).trans hs2
      have hmX : MapE X mp es := MapG.kept hm2 (hBX.block mp (MapG.lt hm2))
      have hBw : Below w.heap.size w X := hB2.trans (hBX.mono hB2.size)
      have hVw := hB2.size
      have hsw := hBw.size
      have lrX := ltB hrX
      have l10X := ltB g10
      have l9X := ltB g9
      have l9r : ¬ w.heap.size + 1 = B10 := by omega
      have l9s : ¬ B10 = w.heap.size + 1 := by omega
      clear hk2 hr2 hz2 hs2 hm2 hBX hB2
      have b1 := cellB g10
      have b9 := cellB g9
      have bz := cellB hzX
      have HBW := hide hBw
      have h' : (rc == 2) = true := by simp [hrc.out]
      have h'' : (n == 0) = false := by simp [hn]
      go_upto_region 8 with (go_at_call 138; refine (h138.out _).mono ?_; rintro e Y ⟨rfl, hY⟩)
      have hkY := (hY.block _ (ltB hkX)).trans hkX
      have hrY := (hY.block _ lrX).trans hrX
      have hzY := (hY.block _ (ltB hzX)).trans hzX
      have hsY := (hY.block _ (ltB hsX)).trans hsX
      have h9Y := (hY.block _ l9X).trans g9
      have h10Y := (hY.block _ l10X).trans g10
      have hmY : MapE Y mp es := MapG.kept hmX (hY.block mp (MapG.lt hmX))
      have hBY : Below w.heap.size w Y := HBW.out.trans (hY.mono hsw)
      have hYw := hY.size
      clear b1 b9 bz hkX hrX hzX hsX g9 g10 hmX hY HBW hBw
      obtain ⟨Z, hrun, hT, hM3⟩ := MapG.store (w := Y.drew) mkey (MapG.kept hmY rfl) (by omega) hk (q', p2) undE
      have hrun' : (Instr.mapUpdate 121 (.map (some mp)) (.agg #[.int .u8 k.k0, .int .u8 k.k1, .int .u8 k.k2, .int .u8 k.k3, .int .u8 k.k4, .int .u8 k.k5, .int .u8 k.k6, .int .u8 k.k7]) (.agg #[.int .u8 q'.kd, .int .u64 q'.x, .int .u64 q'.y, .int .u64 q'.lv, .int .u64 q'.wn, .int .u8 p2.kd, .int .u64 p2.x, .int .u64 p2.y, .int .u64 p2.lv, .int .u64 p2.wn])).run Tryz.prog Y.drew = .ok () Z := hrun
      have hKZ := Keep.turned hT
      have lmp := MapG.lt hmY
      have hrZ := (hKZ.block _ (ltB hrY) (fun e => by omega)).trans hrY
      have h10Z := (hKZ.block _ (ltB h10Y) (fun e => by omega)).trans h10Y
      have HZ := hide hKZ
      have HM3 := hide hM3
      have HBY := hide hBY
      clear hrun hT hKZ hM3 hmY hBY
      have e1 := cellB hkY
      have e2 := cellB hsY
      have e3 := cellB h9Y
      have e4 := cellB hzY
      go_cut [] (fun wx => wx = Z)
      case first =>
        go_region
        all_goals (go_wp2_with fail; go_meet)
        all_goals rfl
      case rest =>
        subst hcut
        clear e1 e2 e3 e4
        have b1 := cellB h10Z
        have b2 := cellB hrZ
        have b3 := frozenB hrZ
        go_wp2
        refine bodyPost_ret (v := .agg #[.int .u8 rc, .int .u64 ra, .int .u64 rb]) (by simp [results, Tryz.results111, go_sem, b2, hrc.out]) rfl ⟨rfl, ?_, ?_⟩
        · exact MapG.kept HM3.out (by rw [heapSetO (by omega), heapSetO (by omega), heapSetO (by omega)])
        · exact (((Keep.then (S := fun b => b = mp) (Keep.of_below HBY.out.drew) HZ.out (fun _ _ h => h)).set (Or.inr (by omega)) _ _).set (Or.inr (by omega)) _ _).set (Or.inr (by omega)) _ _
end Go.Proofs.YtnlgndpcddngoaaGreatDoor
