import Derived.Test.YtlamgpeiolfffaaGreatDoorZy00
set_option linter.unusedSectionVars false
namespace Go.Proofs.YtlamgpeiolfffaaGreatDoor
open Go.RowKit Go.Maps
variable [dK] [iK]

theorem ltAlloc (V : World) (o : Obj) : V.heap.size < (V.alloc o).drew.heap.size := by simp

theorem cells5 {w : World} {b : Nat} {c0 c1 c2 c3 c4 : Value} {t : TypeId} (h : w.heap[b]? = some (.cells #[c0, c1, c2, c3, c4] t)) : w.cell? ⟨b, 0, none⟩ = some c0 ∧ w.cell? ⟨b, 1, none⟩ = some c1 ∧ w.cell? ⟨b, 2, none⟩ = some c2 ∧ w.cell? ⟨b, 3, none⟩ = some c3 ∧ w.cell? ⟨b, 4, none⟩ = some c4 ∧ w.frozen? ⟨b, 0, none⟩ = false ∧ w.frozen? ⟨b, 1, none⟩ = false ∧ w.frozen? ⟨b, 2, none⟩ = false ∧ w.frozen? ⟨b, 3, none⟩ = false ∧ w.frozen? ⟨b, 4, none⟩ = false :=
  ⟨cellB h 0, cellB h 1, cellB h 2, cellB h 3, cellB h 4, frozenB h 0, frozenB h 1, frozenB h 2, frozenB h 3, frozenB h 4⟩
theorem cells3 {w : World} {b : Nat} {c0 c1 c2 : Value} {t : TypeId} (h : w.heap[b]? = some (.cells #[c0, c1, c2] t)) : w.cell? ⟨b, 0, none⟩ = some c0 ∧ w.cell? ⟨b, 1, none⟩ = some c1 ∧ w.cell? ⟨b, 2, none⟩ = some c2 ∧ w.frozen? ⟨b, 0, none⟩ = false ∧ w.frozen? ⟨b, 1, none⟩ = false ∧ w.frozen? ⟨b, 2, none⟩ = false :=
  ⟨cellB h 0, cellB h 1, cellB h 2, frozenB h 0, frozenB h 1, frozenB h 2⟩
theorem carA {V w2 : World} {b : Nat} {X : Obj} (h : V.heap[b]? = some X) (hb : Below V.drew.heap.size V.drew w2) : w2.heap[b]? = some X := (hb.block b (ltB h)).trans h
theorem carB {V w2 : World} {o : Obj} {b : Nat} {X : Obj} (h : V.heap[b]? = some X) (hb : Below (V.alloc o).drew.heap.size (V.alloc o).drew w2) : w2.heap[b]? = some X := (hb.block b (Nat.lt_trans (ltB h) (ltAlloc V o))).trans (upB h _)
theorem carC {V w2 : World} {o : Obj} (hb : Below (V.alloc o).drew.heap.size (V.alloc o).drew w2) : w2.heap[V.heap.size]? = some o := (hb.block V.heap.size (ltAlloc V _)).trans (heapNew V o)

theorem endD {X w : World} {Z B kb rb sb : Nat} {c0 c1 c2 c3 c4 d0 d1 d2 v0 v1 v2 v3 v4 u0 u1 u2 : Value} {ok orr os : Obj} {mp : Option Nat} {ks : List (Ky × Qt)}
    (hz : X.heap[Z]? = some (.cells #[c0, c1, c2, c3, c4] 231)) (hb : X.heap[B]? = some (.cells #[d0, d1, d2] 40)) (hne : Z < B)
    (hk : X.heap[kb]? = some ok) (hr : X.heap[rb]? = some orr) (hs : X.heap[sb]? = some os) (hm : MapX X mp ks) (hml : ∀ b, mp = some b → b < w.heap.size)
    (h1 : w.heap.size ≤ Z) (hkz : kb < Z) (hrz : rb < Z) (hsz : sb < Z) (hB : Below w.heap.size w X) :
    ((((((((X.setCell ⟨Z, 0, none⟩ v0).setCell ⟨Z, 1, none⟩ v1).setCell ⟨Z, 2, none⟩ v2).setCell ⟨Z, 3, none⟩ v3).setCell ⟨Z, 4, none⟩ v4).setCell ⟨B, 0, none⟩ u0).setCell ⟨B, 1, none⟩ u1).setCell ⟨B, 2, none⟩ u2).heap[Z]? = some (.cells #[v0, v1, v2, v3, v4] 231) ∧
    ((((((((X.setCell ⟨Z, 0, none⟩ v0).setCell ⟨Z, 1, none⟩ v1).setCell ⟨Z, 2, none⟩ v2).setCell ⟨Z, 3, none⟩ v3).setCell ⟨Z, 4, none⟩ v4).setCell ⟨B, 0, none⟩ u0).setCell ⟨B, 1, none⟩ u1).setCell ⟨B, 2, none⟩ u2).heap[B]? = some (.cells #[u0, u1, u2] 40) ∧
    ((((((((X.setCell ⟨Z, 0, none⟩ v0).setCell ⟨Z, 1, none⟩ v1).setCell ⟨Z, 2, none⟩ v2).setCell ⟨Z, 3, none⟩ v3).setCell ⟨Z, 4, none⟩ v4).setCell ⟨B, 0, none⟩ u0).setCell ⟨B, 1, none⟩ u1).setCell ⟨B, 2, none⟩ u2).heap[kb]? = some ok ∧
    ((((((((X.setCell ⟨Z, 0, none⟩ v0).setCell ⟨Z, 1, none⟩ v1).setCell ⟨Z, 2, none⟩ v2).setCell ⟨Z, 3, none⟩ v3).setCell ⟨Z, 4, none⟩ v4).setCell ⟨B, 0, none⟩ u0).setCell ⟨B, 1, none⟩ u1).setCell ⟨B, 2, none⟩ u2).heap[rb]? = some orr ∧
    ((((((((X.setCell ⟨Z, 0, none⟩ v0).setCell ⟨Z, 1, none⟩ v1).setCell ⟨Z, 2, none⟩ v2).setCell ⟨Z, 3, none⟩ v3).setCell ⟨Z, 4, none⟩ v4).setCell ⟨B, 0, none⟩ u0).setCell ⟨B, 1, none⟩ u1).setCell ⟨B, 2, none⟩ u2).heap[sb]? = some os ∧
    MapX ((((((((X.setCell ⟨Z, 0, none⟩ v0).setCell ⟨Z, 1, none⟩ v1).setCell ⟨Z, 2, none⟩ v2).setCell ⟨Z, 3, none⟩ v3).setCell ⟨Z, 4, none⟩ v4).setCell ⟨B, 0, none⟩ u0).setCell ⟨B, 1, none⟩ u1).setCell ⟨B, 2, none⟩ u2) mp ks ∧
    Below w.heap.size w ((((((((X.setCell ⟨Z, 0, none⟩ v0).setCell ⟨Z, 1, none⟩ v1).setCell ⟨Z, 2, none⟩ v2).setCell ⟨Z, 3, none⟩ v3).setCell ⟨Z, 4, none⟩ v4).setCell ⟨B, 0, none⟩ u0).setCell ⟨B, 1, none⟩ u1).setCell ⟨B, 2, none⟩ u2) := by
  have hz' := heapSet5 hz v0 v1 v2 v3 v4
  have o5 : ∀ b, b ≠ Z → (((((X.setCell ⟨Z, 0, none⟩ v0).setCell ⟨Z, 1, none⟩ v1).setCell ⟨Z, 2, none⟩ v2).setCell ⟨Z, 3, none⟩ v3).setCell ⟨Z, 4, none⟩ v4).heap[b]? = X.heap[b]? := fun b h =>
    (heapSetO h _ _).trans ((heapSetO h _ _).trans ((heapSetO h _ _).trans ((heapSetO h _ _).trans (heapSetO h _ _))))
  have b5 : Below w.heap.size w (((((X.setCell ⟨Z, 0, none⟩ v0).setCell ⟨Z, 1, none⟩ v1).setCell ⟨Z, 2, none⟩ v2).setCell ⟨Z, 3, none⟩ v3).setCell ⟨Z, 4, none⟩ v4) :=
    ((((hB.setCell h1 _).setCell h1 _).setCell h1 _).setCell h1 _).setCell h1 _
  generalize (((((X.setCell ⟨Z, 0, none⟩ v0).setCell ⟨Z, 1, none⟩ v1).setCell ⟨Z, 2, none⟩ v2).setCell ⟨Z, 3, none⟩ v3).setCell ⟨Z, 4, none⟩ v4) = Y at *
  have o3 : ∀ b, b ≠ B → (((Y.setCell ⟨B, 0, none⟩ u0).setCell ⟨B, 1, none⟩ u1).setCell ⟨B, 2, none⟩ u2).heap[b]? = Y.heap[b]? := fun b h =>
    (heapSetO h _ _).trans ((heapSetO h _ _).trans (heapSetO h _ _))
  have h2 : w.heap.size ≤ B := by omega
  refine ⟨(o3 _ (by omega)).trans hz', heapSet3 ((o5 _ (by omega)).trans hb) _ _ _, (o3 _ (by omega)).trans ((o5 _ (by omega)).trans hk), (o3 _ (by omega)).trans ((o5 _ (by omega)).trans hr), (o3 _ (by omega)).trans ((o5 _ (by omega)).trans hs), ?_, ((b5.setCell h2 _).setCell h2 _).setCell h2 _⟩
  refine hm.kept fun b hb => ?_
  have := hml b hb
  exact (o3 _ (by omega)).trans (o5 _ (by omega))

set_option maxRecDepth 100000 in
set_option maxHeartbeats 0 in
theorem badmit_some (sb : Nat) (s0 s1 adm : Value) (time : Int) (mp : Option Nat) (ks : List (Ky × Qt)) (k : Ky) (w : World) (hs : w.heap[sb]? = some (.cells #[s0, s1, .int .u64 time, .map mp, adm] 119)) (hm : MapX w mp ks) (hk : k.ok) (hl : ks.length ≤ 12) (q q' : Qt) (hf : fnd k ks = some q) (n c a b : Int)
    (h125 : Hid (∀ w1, Calls Tryz.prog 125 #[.agg #[.int .u8 q.kd, .int .u64 q.x, .int .u64 q.y, .int .u64 q.lv, .int .u64 q.wn], .int .u64 time, .int .u64 n] w1 fun e w' => e = .returned (.tuple #[.agg #[.int .u8 q'.kd, .int .u64 q'.x, .int .u64 q'.y, .int .u64 q'.lv, .int .u64 q'.wn], .agg #[.int .u8 c, .int .u64 a, .int .u64 b]]) ∧ Below w1.heap.size w1 w')) :
    Calls Tryz.prog 104 #[.pointer (some ⟨sb, 2, none⟩), .agg #[.int .u8 k.k0, .int .u8 k.k1, .int .u8 k.k2, .int .u8 k.k3, .int .u8 k.k4, .int .u8 k.k5, .int .u8 k.k6, .int .u8 k.k7], .int .u64 n] w fun e w' => e = .returned (.agg #[.int .u8 c, .int .u64 a, .int .u64 b]) ∧ ∃ b', w'.heap[sb]? = some (.cells #[s0, s1, .int .u64 time, .map (some b'), adm] 119) ∧ MapX w' (some b') (putM k q' ks) ∧ Keep (fun b => b = sb ∨ mp = some b) w w' ∧ (mp = some b' ∨ w.heap.size ≤ b') ∧ b' ≠ sb := by
  have hmlt := hm.lt
  go_enter Tryz.func104, Tryz.ntmps104
  go_upto_region 1 with fail
  obtain ⟨W, hW⟩ : ∃ W, W = (w.alloc (.cells #[.int .u8 k.k0, .int .u8 k.k1, .int .u8 k.k2, .int .u8 k.k3, .int .u8 k.k4, .int .u8 k.k5, .int .u8 k.k6, .int .u8 k.k7] 56)).alloc (.cells #[.int .u8 0, .int .u64 0, .int .u64 0] 40) := ⟨_, rfl⟩
  rw [← hW]
  have hB : Below w.heap.size w W := hW ▸ ((Below.refl _ w).alloc (Nat.le_refl _) _).alloc (by simp) _
  have hk0 : W.heap[w.heap.size]? = some (.cells #[.int .u8 k.k0, .int .u8 k.k1, .int .u8 k.k2, .int .u8 k.k3, .int .u8 k.k4, .int .u8 k.k5, .int .u8 k.k6, .int .u8 k.k7] 56) := hW ▸ upB (heapNew _ _) _
  have hr0 : W.heap[w.heap.size + 1]? = some (.cells #[.int .u8 0, .int .u64 0, .int .u64 0] 40) := hW ▸ heapN (by simp)
  have hs0 : W.heap[sb]? = some (.cells #[s0, s1, .int .u64 time, .map mp, adm] 119) := hW ▸ upB (upB hs _) _
  have hm0 : MapX W mp ks := hW ▸ (hm.alloc _).alloc _
  have hsb := ltB hs
  have hWr := ltB hr0
  clear hW hs hm
  have a1 := cellB hk0
  have a2 := upC hk0 (.cells #[.int .u8 0, .int .u64 0, .int .u64 0, .int .u64 0, .int .u64 0] 231)
  have a3 := cellB hs0
  have a4 := upC hs0 (.cells #[.int .u8 0, .int .u64 0, .int .u64 0, .int .u64 0, .int .u64 0] 231)
  have a5 := hm0.drew.look1 hk hf
  have a6 := (hm0.alloc (.cells #[.int .u8 0, .int .u64 0, .int .u64 0, .int .u64 0, .int .u64 0] 231)).drew.look1 hk hf
  go_cut [7, 8] (fun s5 s6 wx => s5 = .pointer (some ⟨W.heap.size, 0, none⟩) ∧ s6 = .bool true ∧ wx = (W.alloc (.cells #[.int .u8 q.kd, .int .u64 q.x, .int .u64 q.y, .int .u64 q.lv, .int .u64 q.wn] 231)).drew)
  case first =>
    go_region
    all_goals (go_wp2_with fail; go_meet)
    all_goals exact ⟨rfl, rfl, rfl⟩
  case rest =>
    obtain ⟨rfl, rfl, rfl⟩ := hcut
    have hz0 : (W.alloc (.cells #[.int .u8 q.kd, .int .u64 q.x, .int .u64 q.y, .int .u64 q.lv, .int .u64 q.wn] 231)).heap[W.heap.size]? = some (.cells #[.int .u8 q.kd, .int .u64 q.x, .int .u64 q.y, .int .u64 q.lv, .int .u64 q.wn] 231) := heapNew _ _
    have hk1 := upB hk0 (.cells #[.int .u8 q.kd, .int .u64 q.x, .int .u64 q.y, .int .u64 q.lv, .int .u64 q.wn] 231)
    have hr1 := upB hr0 (.cells #[.int .u8 q.kd, .int .u64 q.x, .int .u64 q.y, .int .u64 q.lv, .int .u64 q.wn] 231)
    have hs1 := upB hs0 (.cells #[.int .u8 q.kd, .int .u64 q.x, .int .u64 q.y, .int .u64 q.lv, .int .u64 q.wn] 231)
    have hm1 := hm0.alloc (.cells #[.int .u8 q.kd, .int .u64 q.x, .int .u64 q.y, .int .u64 q.lv, .int .u64 q.wn] 231)
    have hB1 := hB.alloc hB.size (.cells #[.int .u8 q.kd, .int .u64 q.x, .int .u64 q.y, .int .u64 q.lv, .int .u64 q.wn] 231)
    have hB0 := hB.size
    clear a1 a2 a3 a4 a5 a6 hk0 hr0 hs0 hm0
    obtain ⟨V, hV⟩ : ∃ V, V = (W.alloc (.cells #[.int .u8 q.kd, .int .u64 q.x, .int .u64 q.y, .int .u64 q.lv, .int .u64 q.wn] 231)).drew := ⟨_, rfl⟩
    rw [← hV]
    have hz2 : V.heap[W.heap.size]? = some (.cells #[.int .u8 q.kd, .int .u64 q.x, .int .u64 q.y, .int .u64 q.lv, .int .u64 q.wn] 231) := hV ▸ hz0
    have hk2 : V.heap[w.heap.size]? = some (.cells #[.int .u8 k.k0, .int .u8 k.k1, .int .u8 k.k2, .int .u8 k.k3, .int .u8 k.k4, .int .u8 k.k5, .int .u8 k.k6, .int .u8 k.k7] 56) := hV ▸ hk1
    have hr2 : V.heap[w.heap.size + 1]? = some (.cells #[.int .u8 0, .int .u64 0, .int .u64 0] 40) := hV ▸ hr1
    have hs2 : V.heap[sb]? = some (.cells #[s0, s1, .int .u64 time, .map mp, adm] 119) := hV ▸ hs1
    have hm2 : MapX V mp ks := hV ▸ hm1.drew
    have hB2 : Below w.heap.size w V := hV ▸ hB1.drew
    clear hV hz0 hk1 hr1 hs1 hm1 hB1
    have lz := ltB hz2
    have lr := ltB hr2
    have lW : w.heap.size ≤ W.heap.size := hB.size
    have lrW : w.heap.size + 1 < W.heap.size := hWr
    have a1 := cellB hz2
    have a2 := upC hz2 (.cells #[.int .u8 0, .int .u64 0, .int .u64 0] 40)
    have a3 := cellB hs2
    have a4 := upC hs2 (.cells #[.int .u8 0, .int .u64 0, .int .u64 0] 40)
    go_upto_region 4 with fail
    go_cut [9] (fun s9 wx => ∃ B, s9 = .pointer (some ⟨B, 0, none⟩) ∧ V.heap.size ≤ B ∧ wx.heap[W.heap.size]? = some (.cells #[.int .u8 q'.kd, .int .u64 q'.x, .int .u64 q'.y, .int .u64 q'.lv, .int .u64 q'.wn] 231) ∧ wx.heap[B]? = some (.cells #[.int .u8 c, .int .u64 a, .int .u64 b] 40) ∧ wx.heap[w.heap.size]? = some (.cells #[.int .u8 k.k0, .int .u8 k.k1, .int .u8 k.k2, .int .u8 k.k3, .int .u8 k.k4, .int .u8 k.k5, .int .u8 k.k6, .int .u8 k.k7] 56) ∧ wx.heap[w.heap.size + 1]? = some (.cells #[.int .u8 0, .int .u64 0, .int .u64 0] 40) ∧ wx.heap[sb]? = some (.cells #[s0, s1, .int .u64 time, .map mp, adm] 119) ∧ MapX wx mp ks ∧ Below w.heap.size w wx)
    case first =>
      have HK2 := hide hk2
      have HR2 := hide hr2
      have HS2 := hide hs2
      have HZ2 := hide hz2
      have HM2 := hide hm2
      have HB2 := hide hB2
      have HML := hide hmlt
      clear hk2 hr2 hs2 hz2 hm2 hB2 hmlt hB hk hf hB0 hl
      go_region_with (first | (go_at_call 125; refine (h125.out _).mono ?_; rintro e w2 ⟨rfl, hb2⟩; have hz3 := carA HZ2.out hb2; obtain ⟨p0, p1, p2, p3, p4, r0, r1, r2, r3, r4⟩ := cells5 (upB hz3 (.cells #[.int .u8 0, .int .u64 0, .int .u64 0] 40)); obtain ⟨x0, x1, x2, y0, y1, y2⟩ := cells3 (heapNew w2 (.cells #[.int .u8 0, .int .u64 0, .int .u64 0] 40)); have n8 := Nat.ne_of_lt (ltB hz3); have n8' := n8.symm; have HZ3 := hide hz3; have HB3 := hide hb2; clear hb2 hz3 a1 a2 a3 a4) | (go_at_call 125; refine (h125.out _).mono ?_; rintro e w2 ⟨rfl, hb2⟩; have hz3 := carB HZ2.out hb2; have hz9 := carC hb2; obtain ⟨p0, p1, p2, p3, p4, r0, r1, r2, r3, r4⟩ := cells5 hz3; obtain ⟨x0, x1, x2, y0, y1, y2⟩ := cells3 hz9; have n8 := Nat.ne_of_lt lz; have n8' := n8.symm; have HZ3 := hide hz3; have HB3 := hide hb2; have HZ9 := hide hz9; clear hb2 hz3 hz9 a1 a2 a3 a4))
      all_goals (go_wp2_with fail; go_meet)
      all_goals first
        | (have hb2 := HB3.out
           refine ⟨w2.heap.size, rfl, hb2.size, ?_⟩
           have hBw : Below w.heap.size w w2 := HB2.out.drew.trans (hb2.mono HB2.out.size)
           have hmw : MapX w2 mp ks := HM2.out.kept fun b hb => (hb2.block b (Nat.lt_of_lt_of_le (HML.out b hb) HB2.out.size))
           exact endD (upB HZ3.out _) (heapNew w2 _) (ltB HZ3.out) (upB (carA HK2.out hb2) _) (upB (carA HR2.out hb2) _) (upB (carA HS2.out hb2) _) (hmw.alloc _) HML.out lW (by omega) lrW (by omega) (hBw.alloc hBw.size _))
        | (have hb2 := HB3.out
           refine ⟨V.heap.size, rfl, Nat.le_refl _, ?_⟩
           have hBa : Below w.heap.size w (V.alloc (.cells #[.int .u8 0, .int .u64 0, .int .u64 0] 40)).drew := (HB2.out.alloc HB2.out.size _).drew
           have hBw : Below w.heap.size w w2 := hBa.trans (hb2.mono hBa.size)
           have hmw : MapX w2 mp ks := HM2.out.kept fun b hb => (hb2.block b (Nat.lt_of_lt_of_le (HML.out b hb) hBa.size)).trans (heapOld V _ (Nat.lt_of_lt_of_le (HML.out b hb) HB2.out.size))
           exact endD HZ3.out HZ9.out lz (carB HK2.out hb2) (carB HR2.out hb2) (carB HS2.out hb2) hmw HML.out lW (by omega) lrW (by omega) hBw)
    case rest =>
      clear a1 a2 a3 a4
      obtain ⟨B, rfl, hVB, g7, g9, gk, gr, gs, gm, gB⟩ := hcut
      have b1 := cellB gk
      have b2 := cellB g7
      have hs9 := gB.size
      go_wp2_with fail
      refine (bput sb s0 s1 adm time mp ks k _ gs gm hk q' hl).mono ?_
      rintro e w4 ⟨rfl, b', e1, e2, e3, e4, e5⟩
      have hr4 := (e3.block _ (ltB gr) (by rintro (h | h); omega; have := hmlt _ h; omega)).trans gr
      have h94 := (e3.block _ (ltB g9) (by rintro (h | h); omega; have := hmlt _ h; omega)).trans g9
      have hgr := ltB gr
      have d1 := cellB hr4
      have d2 := frozenB hr4
      have d3 := cellB h94
      clear b1 b2
      go_wp2
      refine bodyPost_ret (v := .agg #[.int .u8 c, .int .u64 a, .int .u64 b]) (by simp [results, Tryz.results104, go_sem, d1]) rfl ⟨rfl, b', ?_, ?_, ?_, ?_, e5⟩
      · repeat (refine (heapSetO (by omega) _ _).trans ?_)
        exact e1
      · refine e2.kept fun b hb => ?_
        have hne : b ≠ w.heap.size + 1 := by
          injection hb with hb; subst hb
          rcases e4 with h | h
          · have := hmlt _ h; omega
          · omega
        repeat (refine (heapSetO hne _ _).trans ?_)
        rfl
      · repeat (refine Keep.set ?_ (Or.inr (by omega)) _ _)
        exact (Keep.of_below (gB.mono (Nat.le_refl _))).trans e3
      · exact e4.imp id (fun h => by omega)

end Go.Proofs.YtlamgpeiolfffaaGreatDoor
