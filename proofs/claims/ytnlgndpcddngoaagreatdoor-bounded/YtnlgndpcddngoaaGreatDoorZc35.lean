import Derived.Test.YtnlgndpcddngoaaGreatDoorZc32
import Derived.Test.YtnlgndpcddngoaaGreatDoorZc33
import Derived.Deep.RegionHeld3
set_option linter.unusedSectionVars false
namespace Go.Proofs.YtnlgndpcddngoaaGreatDoor
open Go.RowKit Go.Maps
variable [dK] [iK]

theorem car0 {V w2 : World} {b : Nat} {X : Obj} (h : V.heap[b]? = some X) (hb : Below V.drew.heap.size V.drew w2) : w2.heap[b]? = some X := (hb.block b (ltB h)).trans h
theorem car1 {V w2 : World} {o : Obj} {b : Nat} {X : Obj} (h : V.heap[b]? = some X) (hb : Below (V.alloc o).drew.heap.size (V.alloc o).drew w2) : w2.heap[b]? = some X := car0 (upB h o) hb
theorem car2 {V w2 : World} {o o' : Obj} {b : Nat} {X : Obj} (h : V.heap[b]? = some X) (hb : Below ((V.alloc o).alloc o').drew.heap.size ((V.alloc o).alloc o').drew w2) : w2.heap[b]? = some X := car0 (upB (upB h o) o') hb
theorem bel1 {V w2 : World} {o : Obj} (hb : Below (V.alloc o).drew.heap.size (V.alloc o).drew w2) : Below V.heap.size V w2 := ((Below.refl V.heap.size V).alloc (Nat.le_refl _) o).drew.trans (hb.mono (by simp))
theorem bel2 {V w2 : World} {o o' : Obj} (hb : Below ((V.alloc o).alloc o').drew.heap.size ((V.alloc o).alloc o').drew w2) : Below V.heap.size V w2 := (((Below.refl V.heap.size V).alloc (Nat.le_refl _) o).alloc (by simp) o').drew.trans (hb.mono (by simp; omega))
theorem set3 {V X : World} {B9 B10 : Nat} {o : Obj} {d0 d1 d2 u0 u1 u2 : Value} {t : TypeId} (h9 : X.heap[B9]? = some o) (h10 : X.heap[B10]? = some (.cells #[d0, d1, d2] t)) (hne : B9 ≠ B10) (l9 : V.heap.size ≤ B9) (l10 : V.heap.size ≤ B10) (hB : Below V.heap.size V X) :
    (((X.setCell ⟨B10, 0, none⟩ u0).setCell ⟨B10, 1, none⟩ u1).setCell ⟨B10, 2, none⟩ u2).heap[B9]? = some o ∧ (((X.setCell ⟨B10, 0, none⟩ u0).setCell ⟨B10, 1, none⟩ u1).setCell ⟨B10, 2, none⟩ u2).heap[B10]? = some (.cells #[u0, u1, u2] t) ∧ V.heap.size ≤ B9 ∧ V.heap.size ≤ B10 ∧ Below V.heap.size V (((X.setCell ⟨B10, 0, none⟩ u0).setCell ⟨B10, 1, none⟩ u1).setCell ⟨B10, 2, none⟩ u2) := by
  refine ⟨?_, ?_, l9, l10, ((hB.setCell l10 _).setCell l10 _).setCell l10 _⟩
  · rw [heapSetO hne, heapSetO hne, heapSetO hne]; exact h9
  · have h1 := heapSet h10 0 u0
    have h2 := heapSet h1 1 u1
    have h3 := heapSet h2 2 u2
    simpa using h3
theorem set8 {V X : World} {B9 B10 : Nat} {c0 c1 c2 c3 c4 v0 v1 v2 v3 v4 d0 d1 d2 u0 u1 u2 : Value} {t t' : TypeId} (h9 : X.heap[B9]? = some (.cells #[c0, c1, c2, c3, c4] t')) (h10 : X.heap[B10]? = some (.cells #[d0, d1, d2] t)) (hne : B9 ≠ B10) (l9 : V.heap.size ≤ B9) (l10 : V.heap.size ≤ B10) (hB : Below V.heap.size V X) :
    ((((((((X.setCell ⟨B9, 0, none⟩ v0).setCell ⟨B9, 1, none⟩ v1).setCell ⟨B9, 2, none⟩ v2).setCell ⟨B9, 3, none⟩ v3).setCell ⟨B9, 4, none⟩ v4).setCell ⟨B10, 0, none⟩ u0).setCell ⟨B10, 1, none⟩ u1).setCell ⟨B10, 2, none⟩ u2).heap[B9]? = some (.cells #[v0, v1, v2, v3, v4] t') ∧ ((((((((X.setCell ⟨B9, 0, none⟩ v0).setCell ⟨B9, 1, none⟩ v1).setCell ⟨B9, 2, none⟩ v2).setCell ⟨B9, 3, none⟩ v3).setCell ⟨B9, 4, none⟩ v4).setCell ⟨B10, 0, none⟩ u0).setCell ⟨B10, 1, none⟩ u1).setCell ⟨B10, 2, none⟩ u2).heap[B10]? = some (.cells #[u0, u1, u2] t) ∧ V.heap.size ≤ B9 ∧ V.heap.size ≤ B10 ∧ Below V.heap.size V ((((((((X.setCell ⟨B9, 0, none⟩ v0).setCell ⟨B9, 1, none⟩ v1).setCell ⟨B9, 2, none⟩ v2).setCell ⟨B9, 3, none⟩ v3).setCell ⟨B9, 4, none⟩ v4).setCell ⟨B10, 0, none⟩ u0).setCell ⟨B10, 1, none⟩ u1).setCell ⟨B10, 2, none⟩ u2) := by
  have h1 := heapSet h9 0 v0
  have h2 := heapSet h1 1 v1
  have h3 := heapSet h2 2 v2
  have h4 := heapSet h3 3 v3
  have h5 := heapSet h4 4 v4
  refine set3 (by simpa using h5) (d0 := d0) (d1 := d1) (d2 := d2) (t := t) ?_ hne l9 l10 (((((hB.setCell l9 _).setCell l9 _).setCell l9 _).setCell l9 _).setCell l9 _)
  rw [heapSetO hne.symm, heapSetO hne.symm, heapSetO hne.symm, heapSetO hne.symm, heapSetO hne.symm]
  exact h10
theorem carC {V w2 : World} {o : Obj} (hb : Below (V.alloc o).drew.heap.size (V.alloc o).drew w2) : w2.heap[V.heap.size]? = some o := car0 (heapNew V o) hb
theorem carD {V w2 : World} {o o' : Obj} (hb : Below ((V.alloc o).alloc o').drew.heap.size ((V.alloc o).alloc o').drew w2) : w2.heap[V.heap.size]? = some o ∧ w2.heap[V.heap.size + 1]? = some o' := ⟨car0 (upB (heapNew V o) o') hb, car0 (heapN (by simp)) hb⟩

set_option maxRecDepth 100000 in
set_option maxHeartbeats 4000000 in
theorem badmit_low (sb mp : Nat) (s0 s1 sp adm : Value) (time blk : Int) (es : Es) (k : Ky) (w : World) (hs : w.heap[sb]? = some (.cells #[s0, s1, .int .u64 time, .int .u64 blk, .map (some mp), sp, adm] 130)) (hm : MapE w mp es) (hk : k.ok) (p1 p2 : Qt) (hf : fndG k es = some (p1, p2)) (n : Int) (q' : Qt) (rc ra rb : Int)
    (h137 : Hid (∀ w1, Calls Tryz.prog 137 #[.agg #[.int .u8 p1.kd, .int .u64 p1.x, .int .u64 p1.y, .int .u64 p1.lv, .int .u64 p1.wn], .int .u64 time, .int .u64 n] w1 fun e w' => e = .returned (.tuple #[.agg #[.int .u8 q'.kd, .int .u64 q'.x, .int .u64 q'.y, .int .u64 q'.lv, .int .u64 q'.wn], .agg #[.int .u8 rc, .int .u64 ra, .int .u64 rb]]) ∧ Below w1.heap.size w1 w')) (hno : rc ≠ 2 ∨ n = 0) :
    Calls Tryz.prog 111 #[.pointer (some ⟨sb, 2, none⟩), .agg #[.int .u8 k.k0, .int .u8 k.k1, .int .u8 k.k2, .int .u8 k.k3, .int .u8 k.k4, .int .u8 k.k5, .int .u8 k.k6, .int .u8 k.k7], .int .u64 n] w fun e w' => e = .returned (.agg #[.int .u8 rc, .int .u64 ra, .int .u64 rb]) ∧ Below w.heap.size w w' := by
  go_enter Tryz.func111, Tryz.ntmps111
  go_upto_region 1 with fail
  obtain ⟨W, hW⟩ : ∃ W, W = (w.alloc (.cells #[.int .u8 k.k0, .int .u8 k.k1, .int .u8 k.k2, .int .u8 k.k3, .int .u8 k.k4, .int .u8 k.k5, .int .u8 k.k6, .int .u8 k.k7] 63)).alloc (.cells #[.int .u8 0, .int .u64 0, .int .u64 0] 40) := ⟨_, rfl⟩
  rw [← hW]
  have hB : Below w.heap.size w W := hW ▸ ((Below.refl _ w).alloc (Nat.le_refl _) _).alloc (by simp) _
  have hk0 : W.heap[w.heap.size]? = some (.cells #[.int .u8 k.k0, .int .u8 k.k1, .int .u8 k.k2, .int .u8 k.k3, .int .u8 k.k4, .int .u8 k.k5, .int .u8 k.k6, .int .u8 k.k7] 63) := hW ▸ upB (heapNew _ _) _
  have hr0 : W.heap[w.heap.size + 1]? = some (.cells #[.int .u8 0, .int .u64 0, .int .u64 0] 40) := hW ▸ heapN (by simp)
  have hs0 : W.heap[sb]? = some (.cells #[s0, s1, .int .u64 time, .int .u64 blk, .map (some mp), sp, adm] 130) := hW ▸ upB (upB hs _) _
  have hm0 : MapE W mp es := MapG.kept hm (hB.block mp (MapG.lt hm))
  have hsb := ltB hs
  clear hW hs hm
  have a1 := cellB hk0
  have a2 := upC hk0 (.cells #[.int .u8 0, .int .u64 0, .int .u64 0, .int .u64 0, .int .u64 0, .int .u8 0, .int .u64 0, .int .u64 0, .int .u64 0, .int .u64 0] 177)
  have a3 := cellB hs0
  have a4 := upC hs0 (.cells #[.int .u8 0, .int .u64 0, .int .u64 0, .int .u64 0, .int .u64 0, .int .u8 0, .int .u64 0, .int .u64 0, .int .u64 0, .int .u64 0] 177)
  have a5 := lookE1 (w := W.drew) (MapG.kept hm0 rfl) hk hf
  have a6 := lookE1 (w := (W.alloc (.cells #[.int .u8 0, .int .u64 0, .int .u64 0, .int .u64 0, .int .u64 0, .int .u8 0, .int .u64 0, .int .u64 0, .int .u64 0, .int .u64 0] 177)).drew) (MapG.kept hm0 (heapOld _ _ (MapG.lt hm0))) hk hf
  go_cut [7, 8] (fun s5 s6 wx => s5 = .pointer (some ⟨W.heap.size, 0, none⟩) ∧ s6 = .bool true ∧ wx = (W.alloc (.cells #[.int .u8 p1.kd, .int .u64 p1.x, .int .u64 p1.y, .int .u64 p1.lv, .int .u64 p1.wn, .int .u8 p2.kd, .int .u64 p2.x, .int .u64 p2.y, .int .u64 p2.lv, .int .u64 p2.wn] 177)).drew)
  case first =>
    go_region
    all_goals (go_wp2_with fail; go_meet)
    all_goals exact ⟨rfl, rfl, rfl⟩
  case rest =>
    obtain ⟨rfl, rfl, rfl⟩ := hcut
    have hz0 : (W.alloc (.cells #[.int .u8 p1.kd, .int .u64 p1.x, .int .u64 p1.y, .int .u64 p1.lv, .int .u64 p1.wn, .int .u8 p2.kd, .int .u64 p2.x, .int .u64 p2.y, .int .u64 p2.lv, .int .u64 p2.wn] 177)).heap[W.heap.size]? = some (.cells #[.int .u8 p1.kd, .int .u64 p1.x, .int .u64 p1.y, .int .u64 p1.lv, .int .u64 p1.wn, .int .u8 p2.kd, .int .u64 p2.x, .int .u64 p2.y, .int .u64 p2.lv, .int .u64 p2.wn] 177) := heapNew _ _
    have hk1 := upB hk0 (.cells #[.int .u8 p1.kd, .int .u64 p1.x, .int .u64 p1.y, .int .u64 p1.lv, .int .u64 p1.wn, .int .u8 p2.kd, .int .u64 p2.x, .int .u64 p2.y, .int .u64 p2.lv, .int .u64 p2.wn] 177)
    have hr1 := upB hr0 (.cells #[.int .u8 p1.kd, .int .u64 p1.x, .int .u64 p1.y, .int .u64 p1.lv, .int .u64 p1.wn, .int .u8 p2.kd, .int .u64 p2.x, .int .u64 p2.y, .int .u64 p2.lv, .int .u64 p2.wn] 177)
    have hs1 := upB hs0 (.cells #[.int .u8 p1.kd, .int .u64 p1.x, .int .u64 p1.y, .int .u64 p1.lv, .int .u64 p1.wn, .int .u8 p2.kd, .int .u64 p2.x, .int .u64 p2.y, .int .u64 p2.lv, .int .u64 p2.wn] 177)
    have hm1 : MapE (W.alloc (.cells #[.int .u8 p1.kd, .int .u64 p1.x, .int .u64 p1.y, .int .u64 p1.lv, .int .u64 p1.wn, .int .u8 p2.kd, .int .u64 p2.x, .int .u64 p2.y, .int .u64 p2.lv, .int .u64 p2.wn] 177)) mp es := MapG.kept hm0 (heapOld _ _ (MapG.lt hm0))
    have hB1 := hB.alloc hB.size (.cells #[.int .u8 p1.kd, .int .u64 p1.x, .int .u64 p1.y, .int .u64 p1.lv, .int .u64 p1.wn, .int .u8 p2.kd, .int .u64 p2.x, .int .u64 p2.y, .int .u64 p2.lv, .int .u64 p2.wn] 177)
    have hB0 := hB.size
    clear a1 a2 a3 a4 a5 a6 hk0 hr0 hs0 hm0
    obtain ⟨V, hV⟩ : ∃ V, V = (W.alloc (.cells #[.int .u8 p1.kd, .int .u64 p1.x, .int .u64 p1.y, .int .u64 p1.lv, .int .u64 p1.wn, .int .u8 p2.kd, .int .u64 p2.x, .int .u64 p2.y, .int .u64 p2.lv, .int .u64 p2.wn] 177)).drew := ⟨_, rfl⟩
    rw [← hV]
    have hz2 : V.heap[W.heap.size]? = some (.cells #[.int .u8 p1.kd, .int .u64 p1.x, .int .u64 p1.y, .int .u64 p1.lv, .int .u64 p1.wn, .int .u8 p2.kd, .int .u64 p2.x, .int .u64 p2.y, .int .u64 p2.lv, .int .u64 p2.wn] 177) := hV ▸ hz0
    have hk2 : V.heap[w.heap.size]? = some (.cells #[.int .u8 k.k0, .int .u8 k.k1, .int .u8 k.k2, .int .u8 k.k3, .int .u8 k.k4, .int .u8 k.k5, .int .u8 k.k6, .int .u8 k.k7] 63) := hV ▸ hk1
    have hr2 : V.heap[w.heap.size + 1]? = some (.cells #[.int .u8 0, .int .u64 0, .int .u64 0] 40) := hV ▸ hr1
    have hs2 : V.heap[sb]? = some (.cells #[s0, s1, .int .u64 time, .int .u64 blk, .map (some mp), sp, adm] 130) := hV ▸ hs1
    have hm2 : MapE V mp es := hV ▸ MapG.kept hm1 rfl
    have hB2 : Below w.heap.size w V := hV ▸ hB1.drew
    clear hV hz0 hk1 hr1 hs1 hm1 hB1
    have lz := ltB hz2
    have lr := ltB hr2
    have ls := ltB hs2
    go_upto_region 4 with fail
    go_cut [9, 10] (fun s9 s10 wx => ∃ (X : World) (B9 B10 : Nat), X = wx ∧ s9 = .pointer (some ⟨B9, 0, none⟩) ∧ s10 = .pointer (some ⟨B10, 0, none⟩) ∧ X.heap[B9]? = some (.cells #[.int .u8 q'.kd, .int .u64 q'.x, .int .u64 q'.y, .int .u64 q'.lv, .int .u64 q'.wn] 173) ∧ X.heap[B10]? = some (.cells #[.int .u8 rc, .int .u64 ra, .int .u64 rb] 40) ∧ V.heap.size ≤ B9 ∧ V.heap.size ≤ B10 ∧ Below V.heap.size V X)
    case first =>
      have c0 := cellB hz2 0
      have c1 := cellB hz2 1
      have c2 := cellB hz2 2
      have c3 := cellB hz2 3
      have c4 := cellB hz2 4
      have c5 := cellB hs2 2
      simp at c0 c1 c2 c3 c4 c5
      have n1 : V.heap.size ≠ W.heap.size := by omega
      have n2 : V.heap.size + 1 ≠ W.heap.size := by omega
      have n3 : V.heap.size ≠ sb := by omega
      have n4 : V.heap.size + 1 ≠ sb := by omega
      have HZ2 := hide hz2
      have HS2 := hide hs2
      clear hz2 hk2 hr2 hs2 hm2 hB2 hB hk hf hB0
      go_region_held3 (fun w' => w'.cell? ⟨W.heap.size, 0, none⟩ = some (.int .u8 p1.kd) ∧ w'.cell? ⟨W.heap.size, 1, none⟩ = some (.int .u64 p1.x) ∧ w'.cell? ⟨W.heap.size, 2, none⟩ = some (.int .u64 p1.y) ∧ w'.cell? ⟨W.heap.size, 3, none⟩ = some (.int .u64 p1.lv) ∧ w'.cell? ⟨W.heap.size, 4, none⟩ = some (.int .u64 p1.wn) ∧ w'.cell? ⟨sb, 2, none⟩ = some (.int .u64 time)) (first | go_keep) (first
        | (go_at_call 137; refine (h137.out _).mono ?_; rintro e w2 ⟨rfl, hb2⟩
           have sz2 := hb2.size
           have hzz := (by first | exact car2 HZ2.out hb2 | exact car1 HZ2.out hb2 | exact car0 HZ2.out hb2 : w2.heap[W.heap.size]? = some (.cells #[.int .u8 p1.kd, .int .u64 p1.x, .int .u64 p1.y, .int .u64 p1.lv, .int .u64 p1.wn, .int .u8 p2.kd, .int .u64 p2.x, .int .u64 p2.y, .int .u64 p2.lv, .int .u64 p2.wn] 177))
           have hss := (by first | exact car2 HS2.out hb2 | exact car1 HS2.out hb2 | exact car0 HS2.out hb2 : w2.heap[sb]? = some (.cells #[s0, s1, .int .u64 time, .int .u64 blk, .map (some mp), sp, adm] 130))
           have d0 := cellB hzz 0
           have d1 := cellB hzz 1
           have d2 := cellB hzz 2
           have d3 := cellB hzz 3
           have d4 := cellB hzz 4
           have d5 := cellB hss 2
           simp at d0 d1 d2 d3 d4 d5 sz2
           have m1 : w2.heap.size ≠ W.heap.size := by omega
           have m2 : w2.heap.size + 1 ≠ W.heap.size := by omega
           have m3 : w2.heap.size ≠ sb := by omega
           have m4 : w2.heap.size + 1 ≠ sb := by omega
           first
             | (have hx0 : Below V.drew.heap.size V.drew w2 := hb2; have HBV := hide ((Below.refl V.heap.size V).drew.trans hx0); clear hx0)
             | (have hx0 : Below (V.alloc (.cells #[.int .u8 0, .int .u64 0, .int .u64 0, .int .u64 0, .int .u64 0] 173)).drew.heap.size (V.alloc (.cells #[.int .u8 0, .int .u64 0, .int .u64 0, .int .u64 0, .int .u64 0] 173)).drew w2 := hb2; have hx9 := carC hx0; have HBV := hide (bel1 hx0); have x1 := cellB hx9; have x2 := frozenB hx9; have x3 := upC hx9 (.cells #[.int .u8 0, .int .u64 0, .int .u64 0, .int .u64 0, .int .u64 0] 173); have x4 := upF hx9 (.cells #[.int .u8 0, .int .u64 0, .int .u64 0, .int .u64 0, .int .u64 0] 173); have x5 := upC hx9 (.cells #[.int .u8 0, .int .u64 0, .int .u64 0] 40); have x6 := upF hx9 (.cells #[.int .u8 0, .int .u64 0, .int .u64 0] 40); have x9 := upC hx9 (.cells #[.int .u8 q'.kd, .int .u64 q'.x, .int .u64 q'.y, .int .u64 q'.lv, .int .u64 q'.wn] 173); have x10 := upF hx9 (.cells #[.int .u8 q'.kd, .int .u64 q'.x, .int .u64 q'.y, .int .u64 q'.lv, .int .u64 q'.wn] 173); have x7 : ¬ V.heap.size = w2.heap.size := (by omega); have x8 : ¬ w2.heap.size = V.heap.size := (by omega); have HX9 := hide hx9; clear hx9 hx0)
             | (have hx0 : Below (V.alloc (.cells #[.int .u8 0, .int .u64 0, .int .u64 0] 40)).drew.heap.size (V.alloc (.cells #[.int .u8 0, .int .u64 0, .int .u64 0] 40)).drew w2 := hb2; have hx9 := carC hx0; have HBV := hide (bel1 hx0); have x1 := cellB hx9; have x2 := frozenB hx9; have x3 := upC hx9 (.cells #[.int .u8 0, .int .u64 0, .int .u64 0, .int .u64 0, .int .u64 0] 173); have x4 := upF hx9 (.cells #[.int .u8 0, .int .u64 0, .int .u64 0, .int .u64 0, .int .u64 0] 173); have x5 := upC hx9 (.cells #[.int .u8 0, .int .u64 0, .int .u64 0] 40); have x6 := upF hx9 (.cells #[.int .u8 0, .int .u64 0, .int .u64 0] 40); have x9 := upC hx9 (.cells #[.int .u8 q'.kd, .int .u64 q'.x, .int .u64 q'.y, .int .u64 q'.lv, .int .u64 q'.wn] 173); have x10 := upF hx9 (.cells #[.int .u8 q'.kd, .int .u64 q'.x, .int .u64 q'.y, .int .u64 q'.lv, .int .u64 q'.wn] 173); have x7 : ¬ V.heap.size = w2.heap.size := (by omega); have x8 : ¬ w2.heap.size = V.heap.size := (by omega); have HX9 := hide hx9; clear hx9 hx0)
             | (have hx0 : Below ((V.alloc (.cells #[.int .u8 0, .int .u64 0, .int .u64 0, .int .u64 0, .int .u64 0] 173)).alloc (.cells #[.int .u8 0, .int .u64 0, .int .u64 0] 40)).drew.heap.size ((V.alloc (.cells #[.int .u8 0, .int .u64 0, .int .u64 0, .int .u64 0, .int .u64 0] 173)).alloc (.cells #[.int .u8 0, .int .u64 0, .int .u64 0] 40)).drew w2 := hb2; obtain ⟨hx9, hy9⟩ := carD hx0; have HBV := hide (bel2 hx0); have x1 := cellB hx9; have x2 := frozenB hx9; have y1 := cellB hy9; have y2 := frozenB hy9; have HX9 := hide hx9; have HY9 := hide hy9; clear hx9 hy9 hx0)
             | (have hx0 : Below ((V.alloc (.cells #[.int .u8 0, .int .u64 0, .int .u64 0] 40)).alloc (.cells #[.int .u8 0, .int .u64 0, .int .u64 0, .int .u64 0, .int .u64 0] 173)).drew.heap.size ((V.alloc (.cells #[.int .u8 0, .int .u64 0, .int .u64 0] 40)).alloc (.cells #[.int .u8 0, .int .u64 0, .int .u64 0, .int .u64 0, .int .u64 0] 173)).drew w2 := hb2; obtain ⟨hx9, hy9⟩ := carD hx0; have HBV := hide (bel2 hx0); have x1 := cellB hx9; have x2 := frozenB hx9; have y1 := cellB hy9; have y2 := frozenB hy9; have HX9 := hide hx9; have HY9 := hide hy9; clear hx9 hy9 hx0)
           have t1 := cellB (upB (heapNew w2 (.cells #[.int .u8 0, .int .u64 0, .int .u64 0, .int .u64 0, .int .u64 0] 173)) (.cells #[.int .u8 0, .int .u64 0, .int .u64 0] 40))
           have t2 := frozenB (upB (heapNew w2 (.cells #[.int .u8 0, .int .u64 0, .int .u64 0, .int .u64 0, .int .u64 0] 173)) (.cells #[.int .u8 0, .int .u64 0, .int .u64 0] 40))
           have t3 := cellB (upB (heapNew w2 (.cells #[.int .u8 0, .int .u64 0, .int .u64 0] 40)) (.cells #[.int .u8 0, .int .u64 0, .int .u64 0, .int .u64 0, .int .u64 0] 173))
           have t4 := frozenB (upB (heapNew w2 (.cells #[.int .u8 0, .int .u64 0, .int .u64 0] 40)) (.cells #[.int .u8 0, .int .u64 0, .int .u64 0, .int .u64 0, .int .u64 0] 173))
           have t5 := cellB (heapNew w2 (.cells #[.int .u8 0, .int .u64 0, .int .u64 0] 40))
           have t6 := frozenB (heapNew w2 (.cells #[.int .u8 0, .int .u64 0, .int .u64 0] 40))
           have t7 := cellB (heapNew w2 (.cells #[.int .u8 0, .int .u64 0, .int .u64 0, .int .u64 0, .int .u64 0] 173))
           have t8 := frozenB (heapNew w2 (.cells #[.int .u8 0, .int .u64 0, .int .u64 0, .int .u64 0, .int .u64 0] 173))
           have HB3 := hide hb2
           clear hb2 hzz hss))
      all_goals (go_wp2_with fail; go_meet)
      · exact ⟨_, _, _, rfl, rfl, rfl, upB (heapNew _ _) _, heapN (by simp), HBV.out.size, Nat.le_succ_of_le HBV.out.size, (HBV.out.alloc HBV.out.size _).alloc (by have := HBV.out.size; simp; omega) _⟩
      · exact ⟨_, _, _, rfl, rfl, rfl, heapN (by simp), upB (heapNew _ _) _, Nat.le_succ_of_le HBV.out.size, HBV.out.size, (HBV.out.alloc HBV.out.size _).alloc (by have := HBV.out.size; simp; omega) _⟩
      · exact ⟨_, _, _, rfl, rfl, rfl, set8 (upB HX9.out _) (heapNew _ _) x7 (Nat.le_refl _) HBV.out.size (HBV.out.alloc HBV.out.size _)⟩
      · exact ⟨_, _, _, rfl, rfl, rfl, set8 HX9.out HY9.out (by omega) (by omega) (by omega) HBV.out⟩
      · exact ⟨_, _, _, rfl, rfl, rfl, set3 (heapNew _ _) (upB HX9.out _) x8 HBV.out.size (Nat.le_refl _) (HBV.out.alloc HBV.out.size _)⟩
      · exact ⟨_, _, _, rfl, rfl, rfl, set8 HY9.out HX9.out (by omega) (by omega) (by omega) HBV.out⟩
    case rest =>
      obtain ⟨X, B9, B10, rfl, rfl, rfl, g9, g10, l9, l10, hBX⟩ := hcut
      have hkX := (hBX.block _ (ltB hk2)).trans hk2
      have hrX := (hBX.block _ (ltB hr2)).trans hr2
      have hzX := (hBX.block _ (ltB hz2)).trans hz2
      have hsX := (hBX.block _ (ltB hs2)).trans hs2
      have hmX : MapE X mp es := MapG.kept hm2 (hBX.block mp (MapG.lt hm2))
      have hBw : Below w.heap.size w X := hB2.trans (hBX.mono hB2.size)
      have hVw := hB2.size
      have hsw := hBw.size
      have lrX := ltB hrX
      have l10X := ltB g10
      have l9X := ltB g9
      have l9r : ¬ w.heap.size + 1 = B10 := by omega
      have l9s : ¬ B10 = w.heap.size + 1 := by omega
      clear hk2 hr2 hz2 hs2 hm2 hBX hB2
      have b1 := cellB g10
      have b2 := cellB hrX
      have b3 := frozenB hrX
      have HBW := hide hBw
      clear g9 g10 hkX hrX hzX hsX hmX hBw
      rcases hno with h | h
      · have h' : (rc == 2) = false := by simp [h]
        go_wp2
        refine bodyPost_ret (v := .agg #[.int .u8 rc, .int .u64 ra, .int .u64 rb]) (by simp [results, Tryz.results111, go_sem, b2]) rfl ⟨rfl, ?_⟩
        repeat (refine Below.setCell ?_ (by simp <;> omega) _)
        exact HBW.out
      · subst h
        by_cases h2 : rc = 2
        · have h' : (rc == 2) = true := by simp [h2]
          go_wp2
          refine bodyPost_ret (v := .agg #[.int .u8 rc, .int .u64 ra, .int .u64 rb]) (by simp [results, Tryz.results111, go_sem, b2, h2]) rfl ⟨rfl, ?_⟩
          repeat (refine Below.setCell ?_ (by simp <;> omega) _)
          exact HBW.out
        · have h' : (rc == 2) = false := by simp [h2]
          go_wp2
          refine bodyPost_ret (v := .agg #[.int .u8 rc, .int .u64 ra, .int .u64 rb]) (by simp [results, Tryz.results111, go_sem, b2]) rfl ⟨rfl, ?_⟩
          repeat (refine Below.setCell ?_ (by simp <;> omega) _)
          exact HBW.out
end Go.Proofs.YtnlgndpcddngoaaGreatDoor
