import Derived.Test.YtnlgndpcddngoaaGreatDoorZc35
import Derived.Test.YtnlgndpcddngoaaGreatDoorZc33
import Derived.Deep.RegionHeld3
set_option linter.unusedSectionVars false
namespace Go.Proofs.YtnlgndpcddngoaaGreatDoor
open Go.RowKit Go.Maps
variable [dK] [iK]

theorem ledBlk {w : World} {st : Int} {sb db kk : Nat} {c c' : Led} {F' : Nat → Prop} {blk : Int} {m : Es} (h : c.blk = blk) (hK : Kept c c' m) (hL : LedAt w st sb db kk c' F') : w.cell? ⟨sb, 3, none⟩ = some (.int .u64 blk) := by
  obtain ⟨ks, a, d, _, rfl⟩ := hK
  obtain ⟨mp, g, FD, s1, _⟩ := hL.mem
  rw [cellB s1 3, ← h]
  rfl

theorem takeD {P : Program} {md : Region.Mode} {ops : Array Oper} {Q : Exit → Act → World → Prop} {S : World → Prop} {i : Nat} {oi : Oper} {v : Value} {fuel : Nat} {listed : Array Bool} {a : Act} {w : World} (d : Option Nat) (hi : ops[i]? = some oi) (hd : oi.dst = d)
    (hs : Region.noSelect ops = true) (hf : Region.free md ops listed i = true) (hr : (Region.ready md ops listed).contains i = true)
    (hQ : ∀ c a w, Q (.panic c) (a.put oi.dst v) w → Q (.panic c) a w) (hy : YieldsIf P ops S oi v a) (hS : S w)
    (h : wpAnyH P md ops Q S fuel (listed.setIfInBounds i true) (a.put d v) w) : wpAnyH P md ops Q S (fuel + 1) listed a w :=
  wpAnyH_take hi hs hf hr hQ hy hS (hd ▸ h)

set_option maxRecDepth 100000 in
set_option maxHeartbeats 2500000 in
theorem badmit_far (sb mp : Nat) (s0 s1 sp adm : Value) (time blk : Int) (es : Es) (k : Ky) (w : World) (hs : w.heap[sb]? = some (.cells #[s0, s1, .int .u64 time, .int .u64 blk, .map (some mp), sp, adm] 130)) (hm : MapE w mp es) (hk : k.ok) (p1 p2 : Qt) (hf : fndG k es = some (p1, p2)) (n : Int) (q' : Qt) (ra rb : Int)
    (h137 : Hid (∀ w1, Calls Tryz.prog 137 #[.agg #[.int .u8 p1.kd, .int .u64 p1.x, .int .u64 p1.y, .int .u64 p1.lv, .int .u64 p1.wn], .int .u64 time, .int .u64 n] w1 fun e w' => e = .returned (.tuple #[.agg #[.int .u8 q'.kd, .int .u64 q'.x, .int .u64 q'.y, .int .u64 q'.lv, .int .u64 q'.wn], .agg #[.int .u8 2, .int .u64 ra, .int .u64 rb]]) ∧ Below w1.heap.size w1 w')) (hn : n ≠ 0) (hlen : es.length ≤ 12)
    (h138 : Hid (∀ w1, Calls Tryz.prog 138 #[.agg #[.int .u8 p2.kd, .int .u64 p2.x, .int .u64 p2.y, .int .u64 p2.lv, .int .u64 p2.wn], .agg #[.int .u8 q'.kd, .int .u64 q'.x, .int .u64 q'.y, .int .u64 q'.lv, .int .u64 q'.wn]] w1 fun e w' => e = .returned (.bool false) ∧ Below w1.heap.size w1 w'))
    (ha : Qt) (h139 : Hid (∀ w1, Calls Tryz.prog 139 #[.agg #[.int .u8 q'.kd, .int .u64 q'.x, .int .u64 q'.y, .int .u64 q'.lv, .int .u64 q'.wn], .int .u64 blk] w1 fun e w' => e = .returned (.agg #[.int .u8 ha.kd, .int .u64 ha.x, .int .u64 ha.y, .int .u64 ha.lv, .int .u64 ha.wn]) ∧ Below w1.heap.size w1 w')) (st : Int) (db kk : Nat) (c : Led) (FF : Nat → Prop) (hblk : c.blk = blk)
    (HL : Hid (∀ w1, Below w.heap.size w w1 → LedAt w1 st sb db (kk + 2) c FF)) (hFl : ∀ b, FF b → b < w.heap.size)
    (h134 : Hid (∀ w1 mp', LedAt w1 st sb db (kk + 2) c FF → MapE w1 mp' (putG k (q', ha) es) → ¬ FF mp' → Calls Tryz.prog 134 #[.pointer (some ⟨sb, 2, none⟩), .map (some mp'), .agg #[.int .u8 2, .int .u64 ra, .int .u64 rb]] w1 fun e w' => e = .returned (.agg #[.int .u8 2, .int .u64 ra, .int .u64 rb]) ∧ ∃ c' F', Kept c c' (putG k (q', ha) es) ∧ LedAt w' st sb db kk c' F' ∧ Keep FF w1 w' ∧ ∀ b, F' b → FF b ∨ w1.heap.size ≤ b ∨ b = mp')) :
    Calls Tryz.prog 111 #[.pointer (some ⟨sb, 2, none⟩), .agg #[.int .u8 k.k0, .int .u8 k.k1, .int .u8 k.k2, .int .u8 k.k3, .int .u8 k.k4, .int .u8 k.k5, .int .u8 k.k6, .int .u8 k.k7], .int .u64 n] w fun e w' => e = .returned (.agg #[.int .u8 2, .int .u64 ra, .int .u64 rb]) ∧ ∃ c', Kept c c' (putG k (q', ha) es) ∧ OutL w st sb db kk c' FF w' := by
  go_enter Tryz.func111, Tryz.ntmps111
  go_upto_region 1 with fail
  obtain ⟨W, hW⟩ : ∃ W, W = (w.alloc (.cells #[.int .u8 k.k0, .int .u8 k.k1, .int .u8 k.k2, .int .u8 k.k3, .int .u8 k.k4, .int .u8 k.k5, .int .u8 k.k6, .int .u8 k.k7] 63)).alloc (.cells #[.int .u8 0, .int .u64 0, .int .u64 0] 40) := ⟨_, rfl⟩
  rw [← hW]
  have hB : Below w.heap.size w W := hW ▸ ((Below.refl _ w).alloc (Nat.le_refl _) _).alloc (by simp) _
  have hk0 : W.heap[w.heap.size]? = some (.cells #[.int .u8 k.k0, .int .u8 k.k1, .int .u8 k.k2, .int .u8 k.k3, .int .u8 k.k4, .int .u8 k.k5, .int .u8 k.k6, .int .u8 k.k7] 63) := hW ▸ upB (heapNew _ _) _
  have hr0 : W.heap[w.heap.size + 1]? = some (.cells #[.int .u8 0, .int .u64 0, .int .u64 0] 40) := hW ▸ heapN (by simp)
  have hs0 : W.heap[sb]? = some (.cells #[s0, s1, .int .u64 time, .int .u64 blk, .map (some mp), sp, adm] 130) := hW ▸ upB (upB hs _) _
  have hm0 : MapE W mp es := MapG.kept hm (hB.block mp (MapG.lt hm))
  have hsb := ltB hs
  clear hW hs hm
  have a1 := cellB hk0
  have a2 := upC hk0 (.cells #[.int .u8 0, .int .u64 0, .int .u64 0, .int .u64 0, .int .u64 0, .int .u8 0, .int .u64 0, .int .u64 0, .int .u64 0, .int .u64 0] 177)
  have a3 := cellB hs0
  have a4 := upC hs0 (.cells #[.int .u8 0, .int .u64 0, .int .u64 0, .int .u64 0, .int .u64 0, .int .u8 0, .int .u64 0, .int .u64 0, .int .u64 0, .int .u64 0] 177)
  have a5 := lookE1 (w := W.drew) (MapG.kept hm0 rfl) hk hf
  have a6 := lookE1 (w := (W.alloc (.cells #[.int .u8 0, .int .u64 0, .int .u64 0, .int .u64 0, .int .u64 0, .int .u8 0, .int .u64 0, .int .u64 0, .int .u64 0, .int .u64 0] 177)).drew) (MapG.kept hm0 (heapOld _ _ (MapG.lt hm0))) hk hf
  go_cut [7, 8] (fun s5 s6 wx => s5 = .pointer (some ⟨W.heap.size, 0, none⟩) ∧ s6 = .bool true ∧ wx = (W.alloc (.cells #[.int .u8 p1.kd, .int .u64 p1.x, .int .u64 p1.y, .int .u64 p1.lv, .int .u64 p1.wn, .int .u8 p2.kd, .int .u64 p2.x, .int .u64 p2.y, .int .u64 p2.lv, .int .u64 p2.wn] 177)).drew)
  case first =>
    go_region
    all_goals (go_wp2_with fail; go_meet)
    all_goals exact ⟨rfl, rfl, rfl⟩
  case rest =>
    obtain ⟨rfl, rfl, rfl⟩ := hcut
    have hz0 : (W.alloc (.cells #[.int .u8 p1.kd, .int .u64 p1.x, .int .u64 p1.y, .int .u64 p1.lv, .int .u64 p1.wn, .int .u8 p2.kd, .int .u64 p2.x, .int .u64 p2.y, .int .u64 p2.lv, .int .u64 p2.wn] 177)).heap[W.heap.size]? = some (.cells #[.int .u8 p1.kd, .int .u64 p1.x, .int .u64 p1.y, .int .u64 p1.lv, .int .u64 p1.wn, .int .u8 p2.kd, .int .u64 p2.x, .int .u64 p2.y, .int .u64 p2.lv, .int .u64 p2.wn] 177) := heapNew _ _
    have hk1 := upB hk0 (.cells #[.int .u8 p1.kd, .int .u64 p1.x, .int .u64 p1.y, .int .u64 p1.lv, .int .u64 p1.wn, .int .u8 p2.kd, .int .u64 p2.x, .int .u64 p2.y, .int .u64 p2.lv, .int .u64 p2.wn] 177)
    have hr1 := upB hr0 (.cells #[.int .u8 p1.kd, .int .u64 p1.x, .int .u64 p1.y, .int .u64 p1.lv, .int .u64 p1.wn, .int .u8 p2.kd, .int .u64 p2.x, .int .u64 p2.y, .int .u64 p2.lv, .int .u64 p2.wn] 177)
    have hs1 := upB hs0 (.cells #[.int .u8 p1.kd, .int .u64 p1.x, .int .u64 p1.y, .int .u64 p1.lv, .int .u64 p1.wn, .int .u8 p2.kd, .int .u64 p2.x, .int .u64 p2.y, .int .u64 p2.lv, .int .u64 p2.wn] 177)
    have hm1 : MapE (W.alloc (.cells #[.int .u8 p1.kd, .int .u64 p1.x, .int .u64 p1.y, .int .u64 p1.lv, .int .u64 p1.wn, .int .u8 p2.kd, .int .u64 p2.x, .int .u64 p2.y, .int .u64 p2.lv, .int .u64 p2.wn] 177)) mp es := MapG.kept hm0 (heapOld _ _ (MapG.lt hm0))
    have hB1 := hB.alloc hB.size (.cells #[.int .u8 p1.kd, .int .u64 p1.x, .int .u64 p1.y, .int .u64 p1.lv, .int .u64 p1.wn, .int .u8 p2.kd, .int .u64 p2.x, .int .u64 p2.y, .int .u64 p2.lv, .int .u64 p2.wn] 177)
    have hB0 := hB.size
    clear a1 a2 a3 a4 a5 a6 hk0 hr0 hs0 hm0
    obtain ⟨V, hV⟩ : ∃ V, V = (W.alloc (.cells #[.int .u8 p1.kd, .int .u64 p1.x, .int .u64 p1.y, .int .u64 p1.lv, .int .u64 p1.wn, .int .u8 p2.kd, .int .u64 p2.x, .int .u64 p2.y, .int .u64 p2.lv, .int .u64 p2.wn] 177)).drew := ⟨_, rfl⟩
    rw [← hV]
    have hz2 : V.heap[W.heap.size]? = some (.cells #[.int .u8 p1.kd, .int .u64 p1.x, .int .u64 p1.y, .int .u64 p1.lv, .int .u64 p1.wn, .int .u8 p2.kd, .int .u64 p2.x, .int .u64 p2.y, .int .u64 p2.lv, .int .u64 p2.wn] 177) := hV ▸ hz0
    have hk2 : V.heap[w.heap.size]? = some (.cells #[.int .u8 k.k0, .int .u8 k.k1, .int .u8 k.k2, .int .u8 k.k3, .int .u8 k.k4, .int .u8 k.k5, .int .u8 k.k6, .int .u8 k.k7] 63) := hV ▸ hk1
    have hr2 : V.heap[w.heap.size + 1]? = some (.cells #[.int .u8 0, .int .u64 0, .int .u64 0] 40) := hV ▸ hr1
    have hs2 : V.heap[sb]? = some (.cells #[s0, s1, .int .u64 time, .int .u64 blk, .map (some mp), sp, adm] 130) := hV ▸ hs1
    have hm2 : MapE V mp es := hV ▸ MapG.kept hm1 rfl
    have hB2 : Below w.heap.size w V := hV ▸ hB1.drew
    clear hV hz0 hk1 hr1 hs1 hm1 hB1
    have lz := ltB hz2
    have lr := ltB hr2
    have ls := ltB hs2
    go_upto_region 4 with fail
    go_cut [9, 10] (fun s9 s10 wx => ∃ (X : World) (B9 B10 : Nat), X = wx ∧ s9 = .pointer (some ⟨B9, 0, none⟩) ∧ s10 = .pointer (some ⟨B10, 0, none⟩) ∧ X.heap[B9]? = some (.cells #[.int .u8 q'.kd, .int .u64 q'.x, .int .u64 q'.y, .int .u64 q'.lv, .int .u64 q'.wn] 173) ∧ X.heap[B10]? = some (.cells #[.int .u8 2, .int .u64 ra, .int .u64 rb] 40) ∧ V.heap.size ≤ B9 ∧ V.heap.size ≤ B10 ∧ Below V.heap.size V X)
    case first =>
      have c0 := cellB hz2 0
      have c1 := cellB hz2 1
      have c2 := cellB hz2 2
      have c3 := cellB hz2 3
      have c4 := cellB hz2 4
      have c5 := cellB hs2 2
      simp at c0 c1 c2 c3 c4 c5
      have n1 : V.heap.size ≠ W.heap.size := by omega
      have n2 : V.heap.size + 1 ≠ W.heap.size := by omega
      have n3 : V.heap.size ≠ sb := by omega
      have n4 : V.heap.size + 1 ≠ sb := by omega
      have HZ2 := hide hz2
      have HS2 := hide hs2
      clear hz2 hk2 hr2 hs2 hm2 hB2 hB hk hf hB0
      go_region_held3 (fun w' => w'.cell? ⟨W.heap.size, 0, none⟩ = some (.int .u8 p1.kd) ∧ w'.cell? ⟨W.heap.size, 1, none⟩ = some (.int .u64 p1.x) ∧ w'.cell? ⟨W.heap.size, 2, none⟩ = some (.int .u64 p1.y) ∧ w'.cell? ⟨W.heap.size, 3, none⟩ = some (.int .u64 p1.lv) ∧ w'.cell? ⟨W.heap.size, 4, none⟩ = some (.int .u64 p1.wn) ∧ w'.cell? ⟨sb, 2, none⟩ = some (.int .u64 time)) (first | go_keep) (first
        | (go_at_call 137; refine (h137.out _).mono ?_; rintro e w2 ⟨rfl, hb2⟩
           have sz2 := hb2.size
           have hzz := (by first | exact car2 HZ2.out hb2 | exact car1 HZ2.out hb2 | exact car0 HZ2.out hb2 : w2.heap[W.heap.size]? = some (.cells #[.int .u8 p1.kd, .int .u64 p1.x, .int .u64 p1.y, .int .u64 p1.lv, .int .u64 p1.wn, .int .u8 p2.kd, .int .u64 p2.x, .int .u64 p2.y, .int .u64 p2.lv, .int .u64 p2.wn] 177))
           have hss := (by first | exact car2 HS2.out hb2 | exact car1 HS2.out hb2 | exact car0 HS2.out hb2 : w2.heap[sb]? = some (.cells #[s0, s1, .int .u64 time, .int .u64 blk, .map (some mp), sp, adm] 130))
           have d0 := cellB hzz 0
           have d1 := cellB hzz 1
           have d2 := cellB hzz 2
           have d3 := cellB hzz 3
           have d4 := cellB hzz 4
           have d5 := cellB hss 2
           simp at d0 d1 d2 d3 d4 d5 sz2
           have m1 : w2.heap.size ≠ W.heap.size := by omega
           have m2 : w2.heap.size + 1 ≠ W.heap.size := by omega
           have m3 : w2.heap.size ≠ sb := by omega
           have m4 : w2.heap.size + 1 ≠ sb := by omega
           first
             | (have hx0 : Below V.drew.heap.size V.drew w2 := hb2; have HBV := hide ((Below.refl V.heap.size V).drew.trans hx0); clear hx0)
             | (have hx0 : Below (V.alloc (.cells #[.int .u8 0, .int .u64 0, .int .u64 0, .int .u64 0, .int .u64 0] 173)).drew.heap.size (V.alloc (.cells #[.int .u8 0, .int .u64 0, .int .u64 0, .int .u64 0, .int .u64 0] 173)).drew w2 := hb2; have hx9 := carC hx0; have HBV := hide (bel1 hx0); have x1 := cellB hx9; have x2 := frozenB hx9; have x3 := upC hx9 (.cells #[.int .u8 0, .int .u64 0, .int .u64 0, .int .u64 0, .int .u64 0] 173); have x4 := upF hx9 (.cells #[.int .u8 0, .int .u64 0, .int .u64 0, .int .u64 0, .int .u64 0] 173); have x5 := upC hx9 (.cells #[.int .u8 0, .int .u64 0, .int .u64 0] 40); have x6 := upF hx9 (.cells #[.int .u8 0, .int .u64 0, .int .u64 0] 40); have x9 := upC hx9 (.cells #[.int .u8 q'.kd, .int .u64 q'.x, .int .u64 q'.y, .int .u64 q'.lv, .int .u64 q'.wn] 173); have x10 := upF hx9 (.cells #[.int .u8 q'.kd, .int .u64 q'.x, .int .u64 q'.y, .int .u64 q'.lv, .int .u64 q'.wn] 173); have x7 : ¬ V.heap.size = w2.heap.size := (by omega); have x8 : ¬ w2.heap.size = V.heap.size := (by omega); have HX9 := hide hx9; clear hx9 hx0)
             | (have hx0 : Below (V.alloc (.cells #[.int .u8 0, .int .u64 0, .int .u64 0] 40)).drew.heap.size (V.alloc (.cells #[.int .u8 0, .int .u64 0, .int .u64 0] 40)).drew w2 := hb2; have hx9 := carC hx0; have HBV := hide (bel1 hx0); have x1 := cellB hx9; have x2 := frozenB hx9; have x3 := upC hx9 (.cells #[.int .u8 0, .int .u64 0, .int .u64 0, .int .u64 0, .int .u64 0] 173); have x4 := upF hx9 (.cells #[.int .u8 0, .int .u64 0, .int .u64 0, .int .u64 0, .int .u64 0] 173); have x5 := upC hx9 (.cells #[.int .u8 0, .int .u64 0, .int .u64 0] 40); have x6 := upF hx9 (.cells #[.int .u8 0, .int .u64 0, .int .u64 0] 40); have x9 := upC hx9 (.cells #[.int .u8 q'.kd, .int .u64 q'.x, .int .u64 q'.y, .int .u64 q'.lv, .int .u64 q'.wn] 173); have x10 := upF hx9 (.cells #[.int .u8 q'.kd, .int .u64 q'.x, .int .u64 q'.y, .int .u64 q'.lv, .int .u64 q'.wn] 173); have x7 : ¬ V.heap.size = w2.heap.size := (by omega); have x8 : ¬ w2.heap.size = V.heap.size := (by omega); have HX9 := hide hx9; clear hx9 hx0)
             | (have hx0 : Below ((V.alloc (.cells #[.int .u8 0, .int .u64 0, .int .u64 0, .int .u64 0, .int .u64 0] 173)).alloc (.cells #[.int .u8 0, .int .u64 0, .int .u64 0] 40)).drew.heap.size ((V.alloc (.cells #[.int .u8 0, .int .u64 0, .int .u64 0, .int .u64 0, .int .u64 0] 173)).alloc (.cells #[.int .u8 0, .int .u64 0, .int .u64 0] 40)).drew w2 := hb2; obtain ⟨hx9, hy9⟩ := carD hx0; have HBV := hide (bel2 hx0); have x1 := cellB hx9; have x2 := frozenB hx9; have y1 := cellB hy9; have y2 := frozenB hy9; have HX9 := hide hx9; have HY9 := hide hy9; clear hx9 hy9 hx0)
             | (have hx0 : Below ((V.alloc (.cells #[.int .u8 0, .int .u64 0, .int .u64 0] 40)).alloc (.cells #[.int .u8 0, .int .u64 0, .int .u64 0, .int .u64 0, .int .u64 0] 173)).drew.heap.size ((V.alloc (.cells #[.int .u8 0, .int .u64 0, .int .u64 0] 40)).alloc (.cells #[.int .u8 0, .int .u64 0, .int .u64 0, .int .u64 0, .int .u64 0] 173)).drew w2 := hb2; obtain ⟨hx9, hy9⟩ := carD hx0; have HBV := hide (bel2 hx0); have x1 := cellB hx9; have x2 := frozenB hx9; have y1 := cellB hy9; have y2 := frozenB hy9; have HX9 := hide hx9; have HY9 := hide hy9; clear hx9 hy9 hx0)
           have t1 := cellB (upB (heapNew w2 (.cells #[.int .u8 0, .int .u64 0, .int .u64 0, .int .u64 0, .int .u64 0] 173)) (.cells #[.int .u8 0, .int .u64 0, .int .u64 0] 40))
           have t2 := frozenB (upB (heapNew w2 (.cells #[.int .u8 0, .int .u64 0, .int .u64 0, .int .u64 0, .int .u64 0] 173)) (.cells #[.int .u8 0, .int .u64 0, .int .u64 0] 40))
           have t3 := cellB (upB (heapNew w2 (.cells #[.int .u8 0, .int .u64 0, .int .u64 0] 40)) (.cells #[.int .u8 0, .int .u64 0, .int .u64 0, .int .u64 0, .int .u64 0] 173))
           have t4 := frozenB (upB (heapNew w2 (.cells #[.int .u8 0, .int .u64 0, .int .u64 0] 40)) (.cells #[.int .u8 0, .int .u64 0, .int .u64 0, .int .u64 0, .int .u64 0] 173))
           have t5 := cellB (heapNew w2 (.cells #[.int .u8 0, .int .u64 0, .int .u64 0] 40))
           have t6 := frozenB (heapNew w2 (.cells #[.int .u8 0, .int .u64 0, .int .u64 0] 40))
           have t7 := cellB (heapNew w2 (.cells #[.int .u8 0, .int .u64 0, .int .u64 0, .int .u64 0, .int .u64 0] 173))
           have t8 := frozenB (heapNew w2 (.cells #[.int .u8 0, .int .u64 0, .int .u64 0, .int .u64 0, .int .u64 0] 173))
           have HB3 := hide hb2
           clear hb2 hzz hss))
      all_goals (go_wp2_with fail; go_meet)
      · exact ⟨_, _, _, rfl, rfl, rfl, upB (heapNew _ _) _, heapN (by simp), HBV.out.size, Nat.le_succ_of_le HBV.out.size, (HBV.out.alloc HBV.out.size _).alloc (by have := HBV.out.size; simp; omega) _⟩
      · exact ⟨_, _, _, rfl, rfl, rfl, heapN (by simp), upB (heapNew _ _) _, Nat.le_succ_of_le HBV.out.size, HBV.out.size, (HBV.out.alloc HBV.out.size _).alloc (by have := HBV.out.size; simp; omega) _⟩
      · exact ⟨_, _, _, rfl, rfl, rfl, set8 (upB HX9.out _) (heapNew _ _) x7 (Nat.le_refl _) HBV.out.size (HBV.out.alloc HBV.out.size _)⟩
      · exact ⟨_, _, _, rfl, rfl, rfl, set8 HX9.out HY9.out (by omega) (by omega) (by omega) HBV.out⟩
      · exact ⟨_, _, _, rfl, rfl, rfl, set3 (heapNew _ _) (upB HX9.out _) x8 HBV.out.size (Nat.le_refl _) (HBV.out.alloc HBV.out.size _)⟩
      · exact ⟨_, _, _, rfl, rfl, rfl, set8 HY9.out HX9.out (by omega) (by omega) (by omega) HBV.out⟩
    case rest =>
      obtain ⟨X, B9, B10, rfl, rfl, rfl, g9, g10, l9, l10, hBX⟩ := hcut
      have hkX := (hBX.block _ (ltB hk2)).trans hk2
      have hrX := (hBX.block _ (ltB hr2)).trans hr2
      have hzX := (hBX.block _ (ltB hz2)).trans hz2
      have hsX := (hBX.block _ (ltB hs2)).trans hs2
      have hmX : MapE X mp es := MapG.kept hm2 (hBX.block mp (MapG.lt hm2))
      have hBw : Below w.heap.size w X := hB2.trans (hBX.mono hB2.size)
      have hVw := hB2.size
      have hsw := hBw.size
      have lrX := ltB hrX
      have l10X := ltB g10
      have l9X := ltB g9
      have l9r : ¬ w.heap.size + 1 = B10 := by omega
      have l9s : ¬ B10 = w.heap.size + 1 := by omega
      clear hk2 hr2 hz2 hs2 hm2 hBX hB2
      have b1 := cellB g10
      have b9 := cellB g9
      have bz := cellB hzX
      have HBW := hide hBw
      have h'' : (n == 0) = false := by simp [hn]
      go_upto_region 10 with (go_at_call 138; refine (h138.out _).mono ?_; rintro e Y ⟨rfl, hY⟩)
      have hkY := (hY.block _ (ltB hkX)).trans hkX
      have hrY := (hY.block _ lrX).trans hrX
      have hzY := (hY.block _ (ltB hzX)).trans hzX
      have hsY := (hY.block _ (ltB hsX)).trans hsX
      have h9Y := (hY.block _ l9X).trans g9
      have h10Y := (hY.block _ l10X).trans g10
      have hmY : MapE Y mp es := MapG.kept hmX (hY.block mp (MapG.lt hmX))
      have hBY : Below w.heap.size w Y := HBW.out.trans (hY.mono hsw)
      have hYw := hY.size
      clear b1 b9 bz hkX hrX hzX hsX g9 g10 hmX hY HBW hBw
      have HB0 := hide hBY
      have HM0 := hide hmY
      have HK0 := hide hkY
      have HR0 := hide hrY
      have HS0 := hide hsY
      have H90 := hide h9Y
      have H10 := hide h10Y
      have H135 := hide (fun w1 (h : MapE w1 mp es) => with135 mp es k (q', ha) w1 h (by omega) hk)
      have HBLK := hide hblk
      have fek := cellB hkY
      have feq := cellB h9Y
      have fer := cellB h10Y
      have fes := cellB hsY
      have n1 : w.heap.size + 1 ≠ B9 := by omega
      have n2 : w.heap.size + 1 ≠ B10 := by omega
      have n3 : w.heap.size + 1 ≠ sb := by omega
      have n5 : w.heap.size + 1 ≠ w.heap.size := by omega
      clear hkY hrY hzY hsY h9Y h10Y hmY hBY hblk h''
      refine wp_region_noPanic ?_
      refine wp_region_held_drew (S := fun w' => w'.cell? ⟨w.heap.size, 0, none⟩ = some (.int .u8 k.k0) ∧ w'.cell? ⟨w.heap.size, 1, none⟩ = some (.int .u8 k.k1) ∧ w'.cell? ⟨w.heap.size, 2, none⟩ = some (.int .u8 k.k2) ∧ w'.cell? ⟨w.heap.size, 3, none⟩ = some (.int .u8 k.k3) ∧ w'.cell? ⟨w.heap.size, 4, none⟩ = some (.int .u8 k.k4) ∧ w'.cell? ⟨w.heap.size, 5, none⟩ = some (.int .u8 k.k5) ∧ w'.cell? ⟨w.heap.size, 6, none⟩ = some (.int .u8 k.k6) ∧ w'.cell? ⟨w.heap.size, 7, none⟩ = some (.int .u8 k.k7) ∧ w'.cell? ⟨B9, 0, none⟩ = some (.int .u8 q'.kd) ∧ w'.cell? ⟨B9, 1, none⟩ = some (.int .u64 q'.x) ∧ w'.cell? ⟨B9, 2, none⟩ = some (.int .u64 q'.y) ∧ w'.cell? ⟨B9, 3, none⟩ = some (.int .u64 q'.lv) ∧ w'.cell? ⟨B9, 4, none⟩ = some (.int .u64 q'.wn) ∧ w'.cell? ⟨sb, 3, none⟩ = some (.int .u64 blk) ∧ w'.cell? ⟨B10, 0, none⟩ = some (.int .u8 2) ∧ w'.cell? ⟨B10, 1, none⟩ = some (.int .u64 ra) ∧ w'.cell? ⟨B10, 2, none⟩ = some (.int .u64 rb)) (by kernel_rfl) ?_ (fun hH0 => ?_)
      · (try dsimp only)
        go_keep
      refine takeD (i := 0) (v := ?_) (some 56) rfl rfl (by kernel_rfl) (by kernel_rfl) (by kernel_rfl) (fun _ _ _ h => h) (Or.inl ⟨by rfl, ?_⟩) (by assumption) ?_
      rotate_left
      · intro w hSw
        (try dsimp only at hSw)
        go_simp
        try with_reducible rfl
      simp only [Act.put, List.setIfInBounds_toArray, List.set_cons_zero, List.set_cons_succ]
      refine takeD (i := 1) (v := ?_) (some 57) rfl rfl (by kernel_rfl) (by kernel_rfl) (by kernel_rfl) (fun _ _ _ h => h) (Or.inl ⟨by rfl, ?_⟩) (by assumption) ?_
      rotate_left
      · intro w hSw
        (try dsimp only at hSw)
        go_simp
        try with_reducible rfl
      simp only [Act.put, List.setIfInBounds_toArray, List.set_cons_zero, List.set_cons_succ]
      refine takeD (i := 2) (v := ?_) (some 58) rfl rfl (by kernel_rfl) (by kernel_rfl) (by kernel_rfl) (fun _ _ _ h => h) (Or.inl ⟨by rfl, ?_⟩) (by assumption) ?_
      rotate_left
      · intro w hSw
        (try dsimp only at hSw)
        go_simp
        try with_reducible rfl
      simp only [Act.put, List.setIfInBounds_toArray, List.set_cons_zero, List.set_cons_succ]
      refine takeD (i := 3) (v := ?_) (some 59) rfl rfl (by kernel_rfl) (by kernel_rfl) (by kernel_rfl) (fun _ _ _ h => h) (Or.inl ⟨by rfl, ?_⟩) (by assumption) ?_
      rotate_left
      · intro w hSw
        (try dsimp only at hSw)
        go_simp
        try with_reducible rfl
      simp only [Act.put, List.setIfInBounds_toArray, List.set_cons_zero, List.set_cons_succ]
      refine takeD (i := 5) (v := ?_) (some 61) rfl rfl (by kernel_rfl) (by kernel_rfl) (by kernel_rfl) (fun _ _ _ h => h) (Or.inl ⟨by rfl, ?_⟩) (by assumption) ?_
      rotate_left
      · intro w hSw
        (try dsimp only at hSw)
        go_simp
        try with_reducible rfl
      simp only [Act.put, List.setIfInBounds_toArray, List.set_cons_zero, List.set_cons_succ]
      refine takeD (i := 6) (v := ?_) (some 62) rfl rfl (by kernel_rfl) (by kernel_rfl) (by kernel_rfl) (fun _ _ _ h => h) (Or.inl ⟨by rfl, ?_⟩) (by assumption) ?_
      rotate_left
      · intro w hSw
        (try dsimp only at hSw)
        go_simp
        try with_reducible rfl
      simp only [Act.put, List.setIfInBounds_toArray, List.set_cons_zero, List.set_cons_succ]
      refine takeD (i := 7) (v := ?_) (some 63) rfl rfl (by kernel_rfl) (by kernel_rfl) (by kernel_rfl) (fun _ _ _ h => h) (Or.inl ⟨by rfl, ?_⟩) (by assumption) ?_
      rotate_left
      · intro w hSw
        (try dsimp only at hSw)
        go_simp
        try with_reducible rfl
      simp only [Act.put, List.setIfInBounds_toArray, List.set_cons_zero, List.set_cons_succ]
      refine takeD (i := 8) (v := ?_) (some 64) rfl rfl (by kernel_rfl) (by kernel_rfl) (by kernel_rfl) (fun _ _ _ h => h) (Or.inl ⟨by rfl, ?_⟩) (by assumption) ?_
      rotate_left
      · intro w hSw
        (try dsimp only at hSw)
        go_simp
        try with_reducible rfl
      simp only [Act.put, List.setIfInBounds_toArray, List.set_cons_zero, List.set_cons_succ]
      refine takeD (i := 9) (v := ?_) (some 65) rfl rfl (by kernel_rfl) (by kernel_rfl) (by kernel_rfl) (fun _ _ _ h => h) (Or.inl ⟨by rfl, ?_⟩) (by assumption) ?_
      rotate_left
      · intro w hSw
        (try dsimp only at hSw)
        go_simp
        try with_reducible rfl
      simp only [Act.put, List.setIfInBounds_toArray, List.set_cons_zero, List.set_cons_succ]
      refine takeD (i := 10) (v := ?_) (some 66) rfl rfl (by kernel_rfl) (by kernel_rfl) (by kernel_rfl) (fun _ _ _ h => h) (Or.inl ⟨by rfl, ?_⟩) (by assumption) ?_
      rotate_left
      · intro w hSw
        (try dsimp only at hSw)
        go_simp
        try with_reducible rfl
      simp only [Act.put, List.setIfInBounds_toArray, List.set_cons_zero, List.set_cons_succ]
      refine takeD (i := 11) (v := ?_) (some 67) rfl rfl (by kernel_rfl) (by kernel_rfl) (by kernel_rfl) (fun _ _ _ h => h) (Or.inl ⟨by rfl, ?_⟩) (by assumption) ?_
      rotate_left
      · intro w hSw
        (try dsimp only at hSw)
        go_simp
        try with_reducible rfl
      simp only [Act.put, List.setIfInBounds_toArray, List.set_cons_zero, List.set_cons_succ]
      refine takeD (i := 15) (v := ?_) (some 71) rfl rfl (by kernel_rfl) (by kernel_rfl) (by kernel_rfl) (fun _ _ _ h => h) (Or.inl ⟨by rfl, ?_⟩) (by assumption) ?_
      rotate_left
      · intro w hSw
        (try dsimp only at hSw)
        go_simp
        try with_reducible rfl
      simp only [Act.put, List.setIfInBounds_toArray, List.set_cons_zero, List.set_cons_succ]
      refine wpAnyH_ready (rs := [4, 12]) (by kernel_rfl) (by simp) ?_
      refine AllReadyH.cons (o := { dst := some 60, op := Op.load 121 (Operand.tmp 59), type := 121, pos := "book.go:73", after := #[{ on := 3, ground := Ground.data }], guard := none }) rfl (fun K hK => ?_) ?_
      · go_simp
        refine hK.out _ _ ?_ (fun hH1 => ?_)
        · (try dsimp only)
          go_keep
        clear hK K hH0
        (try simp only [Act.put, List.setIfInBounds_toArray, List.set_cons_zero, List.set_cons_succ])
        refine wpAnyH_ready (rs := [12]) (by kernel_rfl) (by simp) ?_
        refine AllReadyH.cons (o := { dst := some 68, op := Op.call { callee := Callee.value (Operand.func 139), args := #[Operand.tmp 63, Operand.tmp 67], argTypes := #[173, 23] }, type := 173, pos := "book.go:73", after := #[{ on := 7, ground := Ground.data }, { on := 11, ground := Ground.data }], guard := none }) rfl (fun K hK => ?_) ?_
        · go_simp
          go_at_call 139
          refine (h139.out _).mono ?_
          rintro e w2 ⟨rfl, hb2⟩
          have z2 := hb2.size
          simp at z2
          have HB2 := hide (HB0.out.drew.trans (hb2.mono (by simp; omega)))
          have hk2 := car0 HK0.out hb2
          have h92 := car0 H90.out hb2
          have h102 := car0 H10.out hb2
          have hs2 := car0 HS0.out hb2
          have HR2 := hide (car0 HR0.out hb2)
          have HM2 : Hid (MapE w2 mp es) := hide (MapG.kept HM0.out (hb2.block mp (MapG.lt HM0.out)))
          have HK2 := hide hk2
          have HS2 := hide hs2
          have H92 := hide h92
          have H102 := hide h102
          have fak := cellB hk2
          have faq := cellB h92
          have far := cellB h102
          have fas := cellB hs2
          clear hb2 hk2 h92 h102 hs2
          go_wp2_with fail
          refine hK.out _ _ ?_ (fun hH2 => ?_)
          · (try dsimp only)
            go_keep
          clear hK K hH1
          (try simp only [Act.put, List.setIfInBounds_toArray, List.set_cons_zero, List.set_cons_succ])
          refine takeD (i := 13) (v := ?_) (some 69) rfl rfl (by kernel_rfl) (by kernel_rfl) (by kernel_rfl) (fun _ _ _ h => h) (Or.inl ⟨by rfl, ?_⟩) (by assumption) ?_
          rotate_left
          · intro w hSw
            (try dsimp only at hSw)
            go_simp
            try with_reducible rfl
          simp only [Act.put, List.setIfInBounds_toArray, List.set_cons_zero, List.set_cons_succ]
          refine wpAnyH_ready (rs := [14]) (by kernel_rfl) (by simp) ?_
          refine AllReadyH.cons (o := { dst := some 70, op := Op.call { callee := Callee.value (Operand.func 135), args := #[Operand.tmp 60, Operand.tmp 61, Operand.tmp 69], argTypes := #[121, 63, 177] }, type := 121, pos := "book.go:73", after := #[{ on := 4, ground := Ground.data }, { on := 5, ground := Ground.data }, { on := 13, ground := Ground.data }, { on := 12, ground := Ground.chain }], guard := none }) rfl (fun K hK => ?_) ?_
          · go_simp
            go_at_call 135
            refine (H135.out _ HM2.out).mono ?_
            rintro e w3 ⟨nb, rfl, hnb, hM3, hb3⟩
            have z3 := hb3.size
            have HB3 := hide (HB2.out.trans (hb3.mono (by omega)))
            have hk3 := (hb3.block _ (ltB HK2.out)).trans HK2.out
            have h93 := (hb3.block _ (ltB H92.out)).trans H92.out
            have h103 := (hb3.block _ (ltB H102.out)).trans H102.out
            have hs3 := (hb3.block _ (ltB HS2.out)).trans HS2.out
            have HR3 := hide ((hb3.block _ (ltB HR2.out)).trans HR2.out)
            have HM3 := hide hM3
            have HNB := hide hnb
            have HK3 := hide hk3
            have H93 := hide h93
            have H103 := hide h103
            have fbk := cellB hk3
            have fbq := cellB h93
            have fbr := cellB h103
            have fbs := cellB hs3
            clear hb3 hk3 h93 h103 hs3 hM3 hnb
            go_wp2_with fail
            refine hK.out _ _ ?_ (fun hH3 => ?_)
            · (try dsimp only)
              go_keep
            clear hK K hH2
            (try simp only [Act.put, List.setIfInBounds_toArray, List.set_cons_zero, List.set_cons_succ])
            refine wpAnyH_ready (rs := [16]) (by kernel_rfl) (by simp) ?_
            refine AllReadyH.cons (o := { dst := some 72, op := Op.call { callee := Callee.value (Operand.func 134), args := #[Operand.tmp 56, Operand.tmp 70, Operand.tmp 71], argTypes := #[161, 121, 40] }, type := 40, pos := "book.go:73", after := #[{ on := 0, ground := Ground.data }, { on := 14, ground := Ground.data }, { on := 15, ground := Ground.data }, { on := 14, ground := Ground.chain }], guard := none }) rfl (fun K hK => ?_) ?_
            · go_simp
              go_at_call 134
              skip
              refine (h134.out w3 nb (HL.out _ HB3.out) HM3.out (fun e => by have := hFl _ e; have := HNB.out; omega)).mono ?_
              rintro e w4 ⟨rfl, c', F', hK4, hL4, hk4, hF4⟩
              have hk5 := (hk4.block _ (ltB HK3.out) (fun e => by have := hFl _ e; omega)).trans HK3.out
              have h95 := (hk4.block _ (ltB H93.out) (fun e => by have := hFl _ e; omega)).trans H93.out
              have h105 := (hk4.block _ (ltB H103.out) (fun e => by have := hFl _ e; omega)).trans H103.out
              have hr5 := (hk4.block _ (ltB HR3.out) (fun e => by have := hFl _ e; omega)).trans HR3.out
              have cs : w4.cell? ⟨sb, 3, none⟩ = some (.int .u64 blk) := ledBlk HBLK.out hK4 hL4
              have ck := cellB hk5
              have cq := cellB h95
              have cr := cellB h105
              have d1 := cellB hr5
              have d2 := frozenB hr5
              have HF4 : Hid (∀ b, F' b → FF b ∨ w.heap.size + 1 < b) := hide (fun b hb => (hF4 b hb).imp_right (fun h => by have := HNB.out; omega))
              have HK4 := hide hK4
              have HL4 := hide hL4
              have Hk4 : Hid (Keep FF w w4) := hide (Keep.then (S := FF) (Keep.of_below HB3.out) hk4 (fun _ _ h => h))
              clear hk5 h95 h105 hr5 hK4 hL4 hk4 hF4
              go_wp2_with fail
              refine hK.out _ _ ?_ (fun hH4 => ?_)
              · (try dsimp only)
                exact ⟨ck 0, ck 1, ck 2, ck 3, ck 4, ck 5, ck 6, ck 7, cq 0, cq 1, cq 2, cq 3, cq 4, cs, cr 0, cr 1, cr 2⟩
              clear hK K hH3
              (try simp only [Act.put, List.setIfInBounds_toArray, List.set_cons_zero, List.set_cons_succ])
              refine wpAnyH_ready (rs := [17]) (by kernel_rfl) (by simp) ?_
              refine AllReadyH.cons (o := { dst := none, op := Op.store 40 (Operand.tmp 6) (Operand.tmp 72), type := 0, pos := "book.go:73", after := #[{ on := 16, ground := Ground.data }, { on := 16, ground := Ground.chain }, { on := 0, ground := Ground.phase }, { on := 1, ground := Ground.phase }, { on := 2, ground := Ground.phase }, { on := 3, ground := Ground.phase }, { on := 4, ground := Ground.phase }, { on := 5, ground := Ground.phase }, { on := 6, ground := Ground.phase }, { on := 7, ground := Ground.phase }, { on := 8, ground := Ground.phase }, { on := 9, ground := Ground.phase }, { on := 10, ground := Ground.phase }, { on := 11, ground := Ground.phase }, { on := 12, ground := Ground.phase }, { on := 13, ground := Ground.phase }, { on := 14, ground := Ground.phase }, { on := 15, ground := Ground.phase }, { on := 16, ground := Ground.phase }], guard := none }) rfl (fun K hK => ?_) ?_
              · go_simp
                refine hK.out _ _ ?_ (fun hH5 => ?_)
                · (try dsimp only)
                  go_keep
                clear hK K hH4
                (try simp only [Act.put, List.setIfInBounds_toArray, List.set_cons_zero, List.set_cons_succ])
                refine wpAnyH_done (by kernel_rfl) ?_ _
                refine NoPanic.normal ?_
                go_wp2
                refine bodyPost_ret (v := .agg #[.int .u8 2, .int .u64 ra, .int .u64 rb]) (by simp [results, Tryz.results111, go_sem, d1]) rfl ⟨rfl, c', HK4.out, ?_⟩
                exact finOut 2 ra rb HL4.out Hk4.out hFl (by omega) HF4.out
              exact AllReadyH.nil
            exact AllReadyH.nil
          exact AllReadyH.nil
        exact AllReadyH.nil
      refine AllReadyH.cons (o := { dst := some 68, op := Op.call { callee := Callee.value (Operand.func 139), args := #[Operand.tmp 63, Operand.tmp 67], argTypes := #[173, 23] }, type := 173, pos := "book.go:73", after := #[{ on := 7, ground := Ground.data }, { on := 11, ground := Ground.data }], guard := none }) rfl (fun K hK => ?_) ?_
      · go_simp
        go_at_call 139
        refine (h139.out _).mono ?_
        rintro e w2 ⟨rfl, hb2⟩
        have z2 := hb2.size
        simp at z2
        have HB2 := hide (HB0.out.drew.trans (hb2.mono (by simp; omega)))
        have hk2 := car0 HK0.out hb2
        have h92 := car0 H90.out hb2
        have h102 := car0 H10.out hb2
        have hs2 := car0 HS0.out hb2
        have HR2 := hide (car0 HR0.out hb2)
        have HM2 : Hid (MapE w2 mp es) := hide (MapG.kept HM0.out (hb2.block mp (MapG.lt HM0.out)))
        have HK2 := hide hk2
        have HS2 := hide hs2
        have H92 := hide h92
        have H102 := hide h102
        have fak := cellB hk2
        have faq := cellB h92
        have far := cellB h102
        have fas := cellB hs2
        clear hb2 hk2 h92 h102 hs2
        go_wp2_with fail
        refine hK.out _ _ ?_ (fun hH1 => ?_)
        · (try dsimp only)
          go_keep
        clear hK K hH0
        (try simp only [Act.put, List.setIfInBounds_toArray, List.set_cons_zero, List.set_cons_succ])
        refine takeD (i := 13) (v := ?_) (some 69) rfl rfl (by kernel_rfl) (by kernel_rfl) (by kernel_rfl) (fun _ _ _ h => h) (Or.inl ⟨by rfl, ?_⟩) (by assumption) ?_
        rotate_left
        · intro w hSw
          (try dsimp only at hSw)
          go_simp
          try with_reducible rfl
        simp only [Act.put, List.setIfInBounds_toArray, List.set_cons_zero, List.set_cons_succ]
        refine wpAnyH_ready (rs := [4]) (by kernel_rfl) (by simp) ?_
        refine AllReadyH.cons (o := { dst := some 60, op := Op.load 121 (Operand.tmp 59), type := 121, pos := "book.go:73", after := #[{ on := 3, ground := Ground.data }], guard := none }) rfl (fun K hK => ?_) ?_
        · go_simp
          refine hK.out _ _ ?_ (fun hH2 => ?_)
          · (try dsimp only)
            go_keep
          clear hK K hH1
          (try simp only [Act.put, List.setIfInBounds_toArray, List.set_cons_zero, List.set_cons_succ])
          refine wpAnyH_ready (rs := [14]) (by kernel_rfl) (by simp) ?_
          refine AllReadyH.cons (o := { dst := some 70, op := Op.call { callee := Callee.value (Operand.func 135), args := #[Operand.tmp 60, Operand.tmp 61, Operand.tmp 69], argTypes := #[121, 63, 177] }, type := 121, pos := "book.go:73", after := #[{ on := 4, ground := Ground.data }, { on := 5, ground := Ground.data }, { on := 13, ground := Ground.data }, { on := 12, ground := Ground.chain }], guard := none }) rfl (fun K hK => ?_) ?_
          · go_simp
            go_at_call 135
            refine (H135.out _ HM2.out).mono ?_
            rintro e w3 ⟨nb, rfl, hnb, hM3, hb3⟩
            have z3 := hb3.size
            have HB3 := hide (HB2.out.trans (hb3.mono (by omega)))
            have hk3 := (hb3.block _ (ltB HK2.out)).trans HK2.out
            have h93 := (hb3.block _ (ltB H92.out)).trans H92.out
            have h103 := (hb3.block _ (ltB H102.out)).trans H102.out
            have hs3 := (hb3.block _ (ltB HS2.out)).trans HS2.out
            have HR3 := hide ((hb3.block _ (ltB HR2.out)).trans HR2.out)
            have HM3 := hide hM3
            have HNB := hide hnb
            have HK3 := hide hk3
            have H93 := hide h93
            have H103 := hide h103
            have fbk := cellB hk3
            have fbq := cellB h93
            have fbr := cellB h103
            have fbs := cellB hs3
            clear hb3 hk3 h93 h103 hs3 hM3 hnb
            go_wp2_with fail
            refine hK.out _ _ ?_ (fun hH3 => ?_)
            · (try dsimp only)
              go_keep
            clear hK K hH2
            (try simp only [Act.put, List.setIfInBounds_toArray, List.set_cons_zero, List.set_cons_succ])
            refine wpAnyH_ready (rs := [16]) (by kernel_rfl) (by simp) ?_
            refine AllReadyH.cons (o := { dst := some 72, op := Op.call { callee := Callee.value (Operand.func 134), args := #[Operand.tmp 56, Operand.tmp 70, Operand.tmp 71], argTypes := #[161, 121, 40] }, type := 40, pos := "book.go:73", after := #[{ on := 0, ground := Ground.data }, { on := 14, ground := Ground.data }, { on := 15, ground := Ground.data }, { on := 14, ground := Ground.chain }], guard := none }) rfl (fun K hK => ?_) ?_
            · go_simp
              go_at_call 134
              skip
              refine (h134.out w3 nb (HL.out _ HB3.out) HM3.out (fun e => by have := hFl _ e; have := HNB.out; omega)).mono ?_
              rintro e w4 ⟨rfl, c', F', hK4, hL4, hk4, hF4⟩
              have hk5 := (hk4.block _ (ltB HK3.out) (fun e => by have := hFl _ e; omega)).trans HK3.out
              have h95 := (hk4.block _ (ltB H93.out) (fun e => by have := hFl _ e; omega)).trans H93.out
              have h105 := (hk4.block _ (ltB H103.out) (fun e => by have := hFl _ e; omega)).trans H103.out
              have hr5 := (hk4.block _ (ltB HR3.out) (fun e => by have := hFl _ e; omega)).trans HR3.out
              have cs : w4.cell? ⟨sb, 3, none⟩ = some (.int .u64 blk) := ledBlk HBLK.out hK4 hL4
              have ck := cellB hk5
              have cq := cellB h95
              have cr := cellB h105
              have d1 := cellB hr5
              have d2 := frozenB hr5
              have HF4 : Hid (∀ b, F' b → FF b ∨ w.heap.size + 1 < b) := hide (fun b hb => (hF4 b hb).imp_right (fun h => by have := HNB.out; omega))
              have HK4 := hide hK4
              have HL4 := hide hL4
              have Hk4 : Hid (Keep FF w w4) := hide (Keep.then (S := FF) (Keep.of_below HB3.out) hk4 (fun _ _ h => h))
              clear hk5 h95 h105 hr5 hK4 hL4 hk4 hF4
              go_wp2_with fail
              refine hK.out _ _ ?_ (fun hH4 => ?_)
              · (try dsimp only)
                exact ⟨ck 0, ck 1, ck 2, ck 3, ck 4, ck 5, ck 6, ck 7, cq 0, cq 1, cq 2, cq 3, cq 4, cs, cr 0, cr 1, cr 2⟩
              clear hK K hH3
              (try simp only [Act.put, List.setIfInBounds_toArray, List.set_cons_zero, List.set_cons_succ])
              refine wpAnyH_ready (rs := [17]) (by kernel_rfl) (by simp) ?_
              refine AllReadyH.cons (o := { dst := none, op := Op.store 40 (Operand.tmp 6) (Operand.tmp 72), type := 0, pos := "book.go:73", after := #[{ on := 16, ground := Ground.data }, { on := 16, ground := Ground.chain }, { on := 0, ground := Ground.phase }, { on := 1, ground := Ground.phase }, { on := 2, ground := Ground.phase }, { on := 3, ground := Ground.phase }, { on := 4, ground := Ground.phase }, { on := 5, ground := Ground.phase }, { on := 6, ground := Ground.phase }, { on := 7, ground := Ground.phase }, { on := 8, ground := Ground.phase }, { on := 9, ground := Ground.phase }, { on := 10, ground := Ground.phase }, { on := 11, ground := Ground.phase }, { on := 12, ground := Ground.phase }, { on := 13, ground := Ground.phase }, { on := 14, ground := Ground.phase }, { on := 15, ground := Ground.phase }, { on := 16, ground := Ground.phase }], guard := none }) rfl (fun K hK => ?_) ?_
              · go_simp
                refine hK.out _ _ ?_ (fun hH5 => ?_)
                · (try dsimp only)
                  go_keep
                clear hK K hH4
                (try simp only [Act.put, List.setIfInBounds_toArray, List.set_cons_zero, List.set_cons_succ])
                refine wpAnyH_done (by kernel_rfl) ?_ _
                refine NoPanic.normal ?_
                go_wp2
                refine bodyPost_ret (v := .agg #[.int .u8 2, .int .u64 ra, .int .u64 rb]) (by simp [results, Tryz.results111, go_sem, d1]) rfl ⟨rfl, c', HK4.out, ?_⟩
                exact finOut 2 ra rb HL4.out Hk4.out hFl (by omega) HF4.out
              exact AllReadyH.nil
            exact AllReadyH.nil
          exact AllReadyH.nil
        exact AllReadyH.nil
      exact AllReadyH.nil
end Go.Proofs.YtnlgndpcddngoaaGreatDoor
