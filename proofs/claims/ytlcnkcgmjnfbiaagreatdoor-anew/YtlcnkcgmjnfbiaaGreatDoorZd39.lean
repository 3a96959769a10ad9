import Derived.Test.YtlcnkcgmjnfbiaaGreatDoorZd36
import Derived.Test.YtlcnkcgmjnfbiaaGreatDoorZd31
import Derived.Test.YtlcnkcgmjnfbiaaGreatDoorZd00
set_option linter.unusedSectionVars false
namespace Go.Proofs.YtlcnkcgmjnfbiaaGreatDoor
open Go.RowKit Go.Maps
variable [dK] [iK]

/-- What is there to know ahead of an opening over files. -/
structure OpF (w : World) (db mb nb : Nat) (fs : Fs) (im : Bool → Option Ig) (l f : Int) : Prop where
  hd : w.heap[db]? = some (.cells #[.map (some mb), .map (some nb), .slice none 0 0, .int .i64 l, .int .i64 f, .bool false] 84)
  hl : -9223372036854775808 < l ∧ l < 0
  hf : -9223372036854775808 < f ∧ f < 0
  hD : DirAt w nb fs
  hI : Files fs im
  some_ : ∃ b, im b ≠ none
  rel : ∀ a b, im false = some a → im true = some b → b.turn = nextT a.turn ∨ a.turn = nextT b.turn
theorem OpF.kept {w w' : World} {db mb nb : Nat} {fs : Fs} {im : Bool → Option Ig} {l f : Int} (h : OpF w db mb nb fs im l f) (hb : Below w.heap.size w w') : OpF w' db mb nb fs im l f :=
  ⟨(hb.block db (ltB h.hd)).trans h.hd, h.hl, h.hf, h.hD.kept (hb.block nb h.hD.map.lt) (fun p hp => hb.block _ (ltB (h.hD.str p hp))), h.hI, h.some_, h.rel⟩

set_option maxRecDepth 100000 in
set_option maxHeartbeats 1000000 in
theorem openjob117f (A B g db mb nb : Nat) (fs : Fs) (im : Bool → Option Ig) (l f : Int) (w : World) (hA : w.heap[A]? = some (.cells #[.pointer (some ⟨g, 0, none⟩)] 122)) (hB : w.heap[B]? = some (.cells #[.int .u64 0, .int .u64 0, .slice none 0 0] 167)) (hg : w.cell? ⟨g, 0, none⟩ = some (.iface 80 (.pointer (some ⟨db, 0, none⟩)))) (hT : TabOk w g 1) (hgd : g ≠ db) (hgn : g ≠ nb) (hgs : ∀ p ∈ fs, p.2.1 ≠ g) (hBg : B ≠ g) (hBd : B ≠ db) (h : OpF w db mb nb fs im l f) :
    Calls Tryz.prog 119 #[.pointer (some ⟨A, 0, none⟩), .pointer (some ⟨B, 0, none⟩)] w fun e w' => e = .returned .nilIface ∧ ∃ (i : Ig) (a : Option Addr) (c : Nat), Best im i ∧ w'.heap[B]? = some (.cells #[.int .u64 i.turn, .int .u64 i.time, .slice a i.ks.length c] 167) ∧ w'.ownsRow w.heap.size 173 13 (.slice a i.ks.length c) i.ks.length (rrow i.es i.ks) ∧ w'.heap[db]? = some (.cells #[.map (some mb), .map (some nb), .slice none 0 0, .int .i64 (l - 1), .int .i64 (f - 1), .bool false] 84) ∧ TabOk w' g 1 ∧ (∀ j, (j < 1 ∨ 260 ≤ j) → w'.cell? ⟨g, j, none⟩ = w.cell? ⟨g, j, none⟩ ∧ w'.frozen? ⟨g, j, none⟩ = w.frozen? ⟨g, j, none⟩) ∧ Keep (fun c => c = B ∨ c = g ∨ c = db) w w' := by
  have HL := hide (last118f g db mb nb fs im l f w hg hT hgd hgn hgs h.hd h.hl h.hf h.hD h.hI h.some_ h.rel)
  have a1 := cellB hA
  have lB := ltB hB
  clear hg h hT hgs
  go_enter Tryz.func119, Tryz.ntmps119
  go_wp2_with fail
  refine HL.out.mono ?_
  rintro e w1 ⟨i, a, c, q1, rfl, q2, q3, q4, q5, q6⟩
  have h1 := (q6.block B lB (fun h => h.elim hBg hBd)).trans hB
  have e1 := cellB h1
  have e2 := frozenB h1
  have HQ := hide (And.intro q1 (And.intro q2 (And.intro q3 (And.intro q4 (And.intro q5 q6)))))
  clear q1 q2 q3 q4 q5 q6 a1
  go_wp2
  go_ret
  obtain ⟨q1, q2, q3, q4, q5, q6⟩ := HQ.out
  have nB : ∀ x, x ≠ B → (((w1.setCell ⟨B, 0, none⟩ (.int .u64 i.turn)).setCell ⟨B, 1, none⟩ (.int .u64 i.time)).setCell ⟨B, 2, none⟩ (.slice a i.ks.length c)).heap[x]? = w1.heap[x]? := fun x hx => (heapSetO hx _ _).trans ((heapSetO hx _ _).trans (heapSetO hx _ _))
  refine ⟨rfl, i, a, c, q1, by simpa using heapSet (heapSet (heapSet h1 0 (.int .u64 i.turn)) 1 (.int .u64 i.time)) 2 (.slice a i.ks.length c), own_keptE q2 (fun x hx => nB x (fun e => by have := (own_ltE q2 hx).1; omega)), (nB db (fun e => hBd e.symm)).trans q3, q4.block (nB g (fun e => hBg e.symm)), fun j hj => ⟨(World.cell?_of_block (w := w1) (nB g (fun e => hBg e.symm))).trans (q5 j hj).1, (World.frozen?_of_block (w := w1) (nB g (fun e => hBg e.symm))).trans (q5 j hj).2⟩, ?_⟩
  refine Keep.set (b := B) (Keep.set (b := B) (Keep.set (b := B) ?_ (Or.inl (Or.inl rfl)) _ _) (Or.inl (Or.inl rfl)) _ _) (Or.inl (Or.inl rfl)) _ _
  exact q6.mono (fun x h _ => Or.inr h)

set_option maxRecDepth 100000 in
set_option maxHeartbeats 2000000 in
/-- store.Open over files. -/
theorem storeopen76f (db mb nb : Nat) (fs : Fs) (im : Bool → Option Ig) (l f : Int) (w : World) (h : OpF w db mb nb fs im l f) :
    Calls Tryz.prog 73 #[.iface 80 (.pointer (some ⟨db, 0, none⟩))] w fun e w' => ∃ (g : Nat) (i : Ig) (a : Option Addr) (c : Nat), e = .returned (.tuple #[.pointer (some ⟨g, 0, none⟩), .agg #[.int .u64 i.turn, .int .u64 i.time, .slice a i.ks.length c], .nilIface]) ∧ w.heap.size ≤ g ∧ Best im i ∧ StoAt w' g db i.turn ∧ w'.ownsRow w.heap.size 173 13 (.slice a i.ks.length c) i.ks.length (rrow i.es i.ks) ∧ w'.heap[db]? = some (.cells #[.map (some mb), .map (some nb), .slice none 0 0, .int .i64 (l - 1), .int .i64 (f - 1), .bool false] 84) ∧ Keep (fun c => c = db) w w' := by
  have hmf : ∀ (fn : Fn) (first cap : Array Value) (w : World), (Instr.makeFunc fn first cap).run Tryz.prog w = .ok (.func fn first cap) w := fun _ _ _ _ => rfl
  obtain ⟨zc, hzc, z0, z1, z2, z3, z4, z5⟩ := storeZero db
  obtain ⟨V, hV⟩ : ∃ V, V = (((w.alloc (.cells #[.int .u64 0, .int .u64 0, .slice none 0 0] 167)).alloc (.cells zc 230)).alloc (.cells #[.pointer (some ⟨w.heap.size + 1, 0, none⟩)] 122)).alloc (.cells #[.int .u64 0, .int .u64 0, .slice none 0 0] 167) := ⟨_, rfl⟩
  have h0 : V.heap[w.heap.size]? = some (.cells #[.int .u64 0, .int .u64 0, .slice none 0 0] 167) := hV ▸ upB (upB (upB (heapNew _ _) _) _) _
  have h1 : V.heap[w.heap.size + 1]? = some (.cells zc 230) := hV ▸ upB (upB (heapN (by simp)) _) _
  have h2 : V.heap[w.heap.size + 2]? = some (.cells #[.pointer (some ⟨w.heap.size + 1, 0, none⟩)] 122) := hV ▸ upB (heapN (by simp)) _
  have h3 : V.heap[w.heap.size + 3]? = some (.cells #[.int .u64 0, .int .u64 0, .slice none 0 0] 167) := hV ▸ heapN (by simp)
  have hsV : V.heap.size = w.heap.size + 4 := by rw [hV]; simp
  have hB : Below w.heap.size w V := hV ▸ ((((Below.refl _ w).alloc (Nat.le_refl _) _).alloc (by simp) _).alloc (by simp; omega) _).alloc (by simp; omega) _
  have hdl := ltB h.hd
  have hnl := h.hD.map.lt
  have hfl : ∀ p ∈ fs, p.2.1 < w.heap.size := fun p hp => ltB (h.hD.str p hp)
  obtain ⟨U, hU⟩ : ∃ U, U = V.alloc (.cells #[.nilIface] 93) := ⟨_, rfl⟩
  have hBU : Below w.heap.size w U := hU ▸ hB.alloc hB.size _
  have hsU : U.heap.size = w.heap.size + 5 := by rw [hU]; simp; omega
  have u1 : U.heap[w.heap.size + 1]? = some (.cells zc 230) := hU ▸ upB h1 _
  have cU := cellB u1
  have fU := frozenB u1
  have tU : TabOk U (w.heap.size + 1) 1 := ⟨⟨false, (cU 1).trans z1, fun j hj => ⟨0, (cU _).trans (z3 j hj), fun h => by cases h⟩⟩, (cU 2).trans z2, fun j _ => fU _⟩
  have HG := guard116 119 #[.pointer (some ⟨w.heap.size + 2, 0, none⟩), .pointer (some ⟨w.heap.size + 3, 0, none⟩)] callOpenJob V (fun w2 => ∃ (i : Ig) (a : Option Addr) (c : Nat), Best im i ∧ w2.heap[w.heap.size + 3]? = some (.cells #[.int .u64 i.turn, .int .u64 i.time, .slice a i.ks.length c] 167) ∧ w2.ownsRow U.heap.size 173 13 (.slice a i.ks.length c) i.ks.length (rrow i.es i.ks) ∧ w2.heap[db]? = some (.cells #[.map (some mb), .map (some nb), .slice none 0 0, .int .i64 (l - 1), .int .i64 (f - 1), .bool false] 84) ∧ TabOk w2 (w.heap.size + 1) 1 ∧ (∀ j, (j < 1 ∨ 260 ≤ j) → w2.cell? ⟨w.heap.size + 1, j, none⟩ = U.cell? ⟨w.heap.size + 1, j, none⟩ ∧ w2.frozen? ⟨w.heap.size + 1, j, none⟩ = U.frozen? ⟨w.heap.size + 1, j, none⟩) ∧ Keep (fun c => c = w.heap.size + 3 ∨ c = w.heap.size + 1 ∨ c = db) U w2) (by
    rw [← hU]
    refine (openjob117f (w.heap.size + 2) (w.heap.size + 3) (w.heap.size + 1) db mb nb fs im l f U (hU ▸ upB h2 _) (hU ▸ upB h3 _) ((cU 0).trans z0) tU (by omega) (by omega) (fun p hp e => by have := hfl p hp; omega) (by omega) (by omega) (h.kept hBU)).mono ?_
    rintro e w2 ⟨rfl, i, a, c, q1, q2, q3, q4, q5, q6, q7⟩
    refine ⟨rfl, ?_, i, a, c, q1, q2, q3, q4, q5, q6, q7⟩
    exact (q7.block V.heap.size (by omega) (fun h => by omega)).trans (hU ▸ heapNew _ _))
  have HG := hide HG
  have HB := hide hB
  have HBU := hide hBU
  have HSV := hide (And.intro hsV hsU)
  have HZ := hide (And.intro cU (And.intro fU (And.intro z4 z5)))
  have HZ0 := hide z0
  have HUU := hide hU
  clear h hB hBU hsV hsU z0 z1 z2 z3 z4 z5 tU u1 cU fU hU
  go_enter Tryz.func73, Tryz.ntmps73
  go_upto_region 3 with fail
  rw [← hzc, ← hV]
  clear hV hzc
  go_wp2_with fail
  refine HG.out.mono ?_
  rintro e w1 ⟨rfl, w2, ⟨i, a, c, p1, p2, p3, p4, p5, p6, p7⟩, hb, hw1⟩
  obtain ⟨sV, sU⟩ := HSV.out
  obtain ⟨cU, fU, z4, z5⟩ := HZ.out
  have X : ∀ k, k ≠ V.heap.size → w1.heap[k]? = w2.heap[k]? := fun k hk => by rw [hw1, heapSetO hk]
  have Z : ∀ k, k < V.heap.size → k ≠ w.heap.size + 3 → k ≠ w.heap.size + 1 → k ≠ db → w1.heap[k]? = V.heap[k]? := fun k hk n1 n2 n3 => (X k (by omega)).trans ((p7.block k (by omega) (fun h => by omega)).trans (by rw [HUU.out]; exact heapOld _ _ hk))
  have g0 := (Z w.heap.size (by omega) (by omega) (by omega) (by omega)).trans h0
  have g2 := (Z (w.heap.size + 2) (by omega) (by omega) (by omega) (by omega)).trans h2
  have g3 := (X (w.heap.size + 3) (by omega)).trans p2
  have gd := (X db (by omega)).trans p4
  have gs : w1.heap[w.heap.size + 1]? = w2.heap[w.heap.size + 1]? := X _ (by omega)
  have kw1 : Keep (fun c => c = db) w w1 := by
    rw [hw1]
    refine Keep.set (b := V.heap.size) ?_ (Or.inr (by omega)) _ _
    exact (Keep.of_below HBU.out).then p7 (fun i hi h => by omega)
  have gc : ∀ j, (j < 1 ∨ 260 ≤ j) → w1.cell? ⟨w.heap.size + 1, j, none⟩ = zc[j]? ∧ w1.frozen? ⟨w.heap.size + 1, j, none⟩ = false := fun j hj => ⟨(World.cell?_of_block (w := w2) gs).trans ((p6 j hj).1.trans (cU j)), (World.frozen?_of_block (w := w2) gs).trans ((p6 j hj).2.trans (fU j))⟩
  have gt : TabOk w1 (w.heap.size + 1) 1 := p5.block gs
  obtain ⟨Y, hY⟩ : ∃ Y, Y = w1.setCell ⟨w.heap.size + 1, 260, none⟩ (.int .u64 i.turn) := ⟨_, rfl⟩
  have hS : StoAt Y (w.heap.size + 1) db i.turn := by
    rw [hY]
    refine ⟨fun j hj => ?_, (World.cell?_setCell_other _ _ _ _ (by simp)).trans ((gc 0 (Or.inl (by omega))).1.trans HZ0.out), gt.set (Or.inr (by omega)) _, World.cell?_setCell_same _ _ _ ((gc 260 (Or.inr (by omega))).1.trans z4), (World.cell?_setCell_other _ _ _ _ (by simp)).trans ((gc 261 (Or.inr (by omega))).1.trans z5)⟩
    rw [World.frozen?_setCell]
    by_cases h1 : j < 1 ∨ 260 ≤ j
    · exact (gc j h1).2
    · have := gt.fro (j - 1) (by omega)
      rwa [show 1 + (j - 1) = j by omega] at this
  have NY : ∀ k, k ≠ w.heap.size + 1 → Y.heap[k]? = w1.heap[k]? := fun k hk => by rw [hY, heapSetO hk]
  have y0 := (NY w.heap.size (by omega)).trans g0
  have y2 := (NY (w.heap.size + 2) (by omega)).trans g2
  have y3 := (NY (w.heap.size + 3) (by omega)).trans g3
  have yd := (NY db (by omega)).trans gd
  have hKY : Keep (fun c => c = db) w Y := hY ▸ Keep.set (b := w.heap.size + 1) kw1 (Or.inr (by omega)) _ _
  have hoY : Y.ownsRow U.heap.size 173 13 (.slice a i.ks.length c) i.ks.length (rrow i.es i.ks) := own_keptE p3 (fun x hx => by
    have := (own_ltE p3 hx).1
    exact (NY x (by omega)).trans (X x (by omega)))
  have c1 := (gc 260 (Or.inr (by omega))).1.trans z4
  have c1' := (gc 260 (Or.inr (by omega))).2
  have c2 := cellB g2
  have c3 := cellB g3
  have HS := hide hS
  have HKY := hide hKY
  have HP1 := hide p1
  have HOY := hide hoY
  have HYD := hide yd
  clear hb hw1 p1 p2 p3 p4 p5 p6 p7 X Z gd gs kw1 gc gt hS NY yd hKY hoY cU fU z4 z5 h0 h1 h2 h3
  go_upto_region 7 with fail
  rw [← hY]
  clear hY c1 c1' c2 c3 g0 g2 g3
  have d0 := cellB y0
  have d0' := frozenB y0
  have d2 := cellB y2
  have d3 := cellB y3
  go_region
  all_goals go_wp2
  all_goals refine bodyPost_ret (v := .tuple #[.pointer (some ⟨w.heap.size + 1, 0, none⟩), .agg #[.int .u64 i.turn, .int .u64 i.time, .slice a i.ks.length c], .nilIface]) (by simp [results, Tryz.results73, go_sem, d0]) rfl ?_
  all_goals (
    have hX : ∀ x, x ≠ w.heap.size → (((Y.drew.setCell ⟨w.heap.size, 0, none⟩ (.int .u64 i.turn)).setCell ⟨w.heap.size, 1, none⟩ (.int .u64 i.time)).setCell ⟨w.heap.size, 2, none⟩ (.slice a i.ks.length c)).heap[x]? = Y.heap[x]? := fun x hx => (heapSetO hx _ _).trans ((heapSetO hx _ _).trans (heapSetO hx _ _))
    refine ⟨w.heap.size + 1, i, a, c, rfl, by omega, HP1.out, HS.out.kept (hX _ (by omega)), ?_, (hX db (by omega)).trans HYD.out, ?_⟩
    · have h2 := own_keptE HOY.out (fun x hx => hX x (by have := (own_ltE HOY.out hx).1; omega))
      refine ⟨h2.1, ?_⟩
      rcases h2.2 with h | ⟨x, cap', cur, e1, e2, e3⟩
      · exact Or.inl h
      · exact Or.inr ⟨x, cap', cur, e1, by omega, e3⟩
    · refine Keep.drew (Keep.set (b := w.heap.size) (Keep.set (b := w.heap.size) (Keep.set (b := w.heap.size) ?_ (Or.inr (Nat.le_refl _)) _ _) (Or.inr (Nat.le_refl _)) _ _) (Or.inr (Nat.le_refl _)) _ _)
      exact HKY.out)
end Go.Proofs.YtlcnkcgmjnfbiaaGreatDoor

namespace Go.Proofs.YtlcnkcgmjnfbiaaGreatDoor
open Go.RowKit Go.Maps
variable [dK] [iK]

/-- The entries that a ledger begins with. -/
def opE (es : Es) (ks : List Ky) : Es := ks.map fun k => (k, (heldOf es k, heldOf es k))
theorem opE_snoc (es : Es) (ks : List Ky) (k : Ky) (h : k ∉ ks) : putG k (heldOf es k, heldOf es k) (opE es ks) = opE es (ks ++ [k]) := by
  have hn : fndG k (opE es ks) = none := fndG_none_of (by unfold opE; rw [List.map_map]; simpa using h)
  unfold putG
  rw [hn]
  unfold opE
  simp
theorem rrow_at (es : Es) : ∀ (ks : List Ky) (j : Nat) (k : Ky), ks[j]? = some k → ∀ x, x < 13 → (rrow es ks)[j * 13 + x]? = (kvals k ++ qvals (heldOf es k))[x]?
  | [], j, k, h, _, _ => by simp at h
  | k0 :: r, 0, k, h, x, hx => by
    have e : k0 = k := by simpa using h
    subst e
    unfold rrow
    rw [List.flatMap_cons, Nat.zero_mul, Nat.zero_add, List.getElem?_append_left (by simpa [kvals, qvals] using hx)]
  | k0 :: r, j + 1, k, h, x, hx => by
    have h' : r[j]? = some k := by simpa using h
    have ih := rrow_at es r j k h' x hx
    unfold rrow at ih ⊢
    rw [List.flatMap_cons, List.getElem?_append_right (by simp [kvals, qvals]; omega)]
    rw [show (j + 1) * 13 + x - (kvals k0 ++ qvals (heldOf es k0)).length = j * 13 + x by simp [kvals, qvals]; omega]
    exact ih

theorem own_nemap {w : World} {base e sz : Nat} {v : Value} {n : Nat} {xs : List Value} (h : w.ownsRow base e sz v n xs) {x : Nat} (hx : v.ownBlock = some x) {m : Array MapEntry} {cl : Nat} (hm : w.heap[x]? = some (.map m cl)) : False := by
  rcases h.2 with ⟨rfl, _⟩ | ⟨g', cap', cur, rfl, _, hh, _⟩
  · simp [Value.ownBlock] at hx
  · simp [Value.ownBlock] at hx
    subst hx
    rw [hm] at hh
    cases hh

set_option maxRecDepth 100000 in
set_option maxHeartbeats 4000000 in
/-- The book over files. -/
theorem openbook50f (db mb nb : Nat) (fs : Fs) (im : Bool → Option Ig) (l f : Int) (blk : Int) (w : World) (h : OpF w db mb nb fs im l f) (hnd : ∀ b i, im b = some i → i.ks.Nodup) :
    Calls Tryz.prog 48 #[.iface 80 (.pointer (some ⟨db, 0, none⟩)), .int .u64 blk] w fun e w' => ∃ (g mp : Nat) (i : Ig), e = .returned (.tuple #[.agg #[.int .u64 i.time, .int .u64 blk, .map (some mp), .pointer (some ⟨g, 0, none⟩)], .nilIface]) ∧ Best im i ∧ w.heap.size ≤ g ∧ w.heap.size ≤ mp ∧ g ≠ mp ∧ MapE w' mp (opE i.es i.ks) ∧ StoAt w' g db i.turn ∧ w'.heap[db]? = some (.cells #[.map (some mb), .map (some nb), .slice none 0 0, .int .i64 (l - 1), .int .i64 (f - 1), .bool false] 84) ∧ Keep (fun c => c = db) w w' := by
  have hmm := @run_makeMap Tryz.prog
  obtain ⟨V, hV⟩ : ∃ V, V = w.alloc (.cells #[.int .u64 0, .int .u64 0, .map none, .pointer none] 124) := ⟨_, rfl⟩
  have h0 : V.heap[w.heap.size]? = some (.cells #[.int .u64 0, .int .u64 0, .map none, .pointer none] 124) := hV ▸ heapNew _ _
  have hB : Below w.heap.size w V := hV ▸ (Below.refl _ w).alloc (Nat.le_refl _) _
  have hsV : V.heap.size = w.heap.size + 1 := by rw [hV]; simp
  have hdl := ltB h.hd
  have HO := hide (storeopen76f db mb nb fs im l f V (h.kept hB))
  have HB := hide hB
  have HSV := hide hsV
  have HI := hide h.hI
  have HND := hide hnd
  clear h hB hsV hnd
  go_enter Tryz.func48, Tryz.ntmps48
  go_upto_region 1 with fail
  rw [← hV]
  clear hV
  go_wp2_with fail
  refine HO.out.mono ?_
  rintro e w1 ⟨g, i, a, c, rfl, hgl, hbest, hS1, ho1, hd1, hk1⟩
  have sV := HSV.out
  obtain ⟨Y, hY⟩ : ∃ Y, Y = (w1.alloc (.cells #[.int .u64 i.turn, .int .u64 i.time, .slice a i.ks.length c] 167)).alloc (.map #[] 0) := ⟨_, rfl⟩
  obtain ⟨mp, hmp⟩ : ∃ mp, mp = w1.heap.size + 1 := ⟨_, rfl⟩
  have hs1 := hk1.size
  have g0 := (hk1.block w.heap.size (by omega) (by omega)).trans h0
  have up : ∀ x, x < w1.heap.size → Y.heap[x]? = w1.heap[x]? := fun x hx => by rw [hY, heapOld _ _ (by simp; omega), heapOld _ _ hx]
  have y0 := (up w.heap.size (by omega)).trans g0
  have y1 : Y.heap[w1.heap.size]? = some (.cells #[.int .u64 i.turn, .int .u64 i.time, .slice a i.ks.length c] 167) := hY ▸ upB (heapNew _ _) _
  have y2 : Y.heap[mp]? = some (.map #[] 0) := by rw [hmp, hY]; exact heapN (by simp)
  have hSY : StoAt Y g db i.turn := hS1.kept (up g hS1.lt)
  have hoY : Y.ownsRow V.heap.size 173 13 (.slice a i.ks.length c) i.ks.length (rrow i.es i.ks) := own_keptE ho1 (fun x hx => up x (own_ltE ho1 hx).2)
  have hdY := (up db (by omega)).trans hd1
  have hKY : Keep (fun c => c = db) w Y := by rw [hY]; exact (((Keep.of_below HB.out).then hk1 (fun _ _ h => h)).alloc _).alloc _
  have hgl1 := hS1.lt
  have hsY : Y.heap.size = w1.heap.size + 2 := by rw [hY]; simp
  have hiok : i.ok := ((HI.out _).2 i hbest.1).1
  have hind : i.ks.Nodup := HND.out _ i hbest.1
  have HS := hide hSY
  have HKY := hide hKY
  have HOY := hide hoY
  have HDY := hide hdY
  have HL := hide (And.intro hgl (And.intro hs1 (And.intro hgl1 (And.intro hmp (And.intro hsY sV)))))
  have HBT := hide hbest
  have HIO := hide (And.intro hiok hind)
  have hl12 : (i.ks.length : Int) ≤ 12 := by have := hiok.len; omega
  clear hS1 ho1 hd1 hk1 hSY hKY hoY hdY h0 g0 hgl hs1 hgl1 sV up hbest hiok hind hsY
  go_upto_region 5 with fail
  rw [← hY]
  rw [← hmp]
  clear hY hmp
  have e1 := cellB y1
  go_wp2_with fail
  go_loopw [26] (fun s wr => ∃ j : Nat, j ≤ i.ks.length ∧ s = .int .i64 j ∧ MapE wr mp (opE i.es (i.ks.take j)) ∧ Keep (fun c => c = mp) Y wr) (fun s _ => i.ks.length - (intOf s).toNat)
  case atStart => exact ⟨0, Nat.zero_le _, rfl, MapG.empty y2, Keep.refl _ _⟩
  case round =>
    obtain ⟨j, hj, rfl, hm, hk⟩ := hrel
    by_cases hlt : j < i.ks.length
    · obtain ⟨l1, l2, l3, l4, l5, l6⟩ := HL.out
      have hmpY : mp < Y.heap.size := by omega
      obtain ⟨k, hkj⟩ : ∃ k, i.ks[j]? = some k := ⟨_, List.getElem?_eq_getElem hlt⟩
      obtain ⟨q, hq⟩ : ∃ q, q = heldOf i.es k := ⟨_, rfl⟩
      obtain ⟨rbk, rcp, hre, hrb, hrl⟩ := HOY.out.form (by omega)
      injection hre with hra hrn hrc
      subst hra
      have hnm : rbk ≠ mp := fun e => own_nemap HOY.out (x := mp) (by rw [← e]; rfl) y2
      have hcR : ∀ x, x < 13 → wr.cell? ⟨rbk, j * 13 + x, none⟩ = (kvals k ++ qvals q)[x]? := fun x hx => by
        rw [World.cell?_of_block (w := Y) (hk.block rbk hrl hnm), HOY.out.cellAt (j * 13 + x) (by omega), rrow_at i.es i.ks j k hkj x hx, hq]
      have r0 : wr.cell? ⟨rbk, j * 13, none⟩ = some (.int .u8 k.k0) := hcR 0 (by omega)
      have r1 : wr.cell? ⟨rbk, j * 13 + 1, none⟩ = some (.int .u8 k.k1) := hcR 1 (by omega)
      have r2 : wr.cell? ⟨rbk, j * 13 + 2, none⟩ = some (.int .u8 k.k2) := hcR 2 (by omega)
      have r3 : wr.cell? ⟨rbk, j * 13 + 3, none⟩ = some (.int .u8 k.k3) := hcR 3 (by omega)
      have r4 : wr.cell? ⟨rbk, j * 13 + 4, none⟩ = some (.int .u8 k.k4) := hcR 4 (by omega)
      have r5 : wr.cell? ⟨rbk, j * 13 + 5, none⟩ = some (.int .u8 k.k5) := hcR 5 (by omega)
      have r6 : wr.cell? ⟨rbk, j * 13 + 6, none⟩ = some (.int .u8 k.k6) := hcR 6 (by omega)
      have r7 : wr.cell? ⟨rbk, j * 13 + 7, none⟩ = some (.int .u8 k.k7) := hcR 7 (by omega)
      have r8 : wr.cell? ⟨rbk, j * 13 + 8, none⟩ = some (.int .u8 q.kd) := hcR 8 (by omega)
      have r9 : wr.cell? ⟨rbk, j * 13 + 9, none⟩ = some (.int .u64 q.x) := hcR 9 (by omega)
      have r10 : wr.cell? ⟨rbk, j * 13 + 10, none⟩ = some (.int .u64 q.y) := hcR 10 (by omega)
      have r11 : wr.cell? ⟨rbk, j * 13 + 11, none⟩ = some (.int .u64 q.lv) := hcR 11 (by omega)
      have r12 : wr.cell? ⟨rbk, j * 13 + 12, none⟩ = some (.int .u64 q.wn) := hcR 12 (by omega)
      have hkok : k.ok := (HIO.out.1.rec_ k (List.mem_of_getElem? hkj)).1
      have hknot : k ∉ i.ks.take j := fun hmem => by
        have h := HIO.out.2
        rw [← List.take_append_drop j i.ks] at h
        have hd : (i.ks.drop j)[0]? = some k := by rw [List.getElem?_drop, Nat.add_zero]; exact hkj
        exact (List.nodup_append.1 h).2.2 k hmem k (List.mem_of_getElem? hd) rfl
      have htk : i.ks.take (j + 1) = i.ks.take j ++ [k] := by rw [List.take_add_one, hkj]; rfl
      obtain ⟨W, hW⟩ : ∃ W, W = wr.alloc (.cells #[.int .u8 k.k0, .int .u8 k.k1, .int .u8 k.k2, .int .u8 k.k3, .int .u8 k.k4, .int .u8 k.k5, .int .u8 k.k6, .int .u8 k.k7, .int .u8 q.kd, .int .u64 q.x, .int .u64 q.y, .int .u64 q.lv, .int .u64 q.wn] 173) := ⟨_, rfl⟩
      obtain ⟨R, hR⟩ : ∃ R, R = wr.heap.size := ⟨_, rfl⟩
      have hr0 : W.heap[R]? = some (.cells #[.int .u8 k.k0, .int .u8 k.k1, .int .u8 k.k2, .int .u8 k.k3, .int .u8 k.k4, .int .u8 k.k5, .int .u8 k.k6, .int .u8 k.k7, .int .u8 q.kd, .int .u64 q.x, .int .u64 q.y, .int .u64 q.lv, .int .u64 q.wn] 173) := by rw [hR, hW]; exact heapNew _ _
      have hmW : MapE W mp (opE i.es (i.ks.take j)) := MapG.kept hm (hW ▸ heapOld _ _ (MapG.lt hm))
      have hlen : (opE i.es (i.ks.take j)).length ≤ 1000 := by unfold opE; rw [List.length_map, List.length_take]; have := HIO.out.1.len; omega
      obtain ⟨w3, hrun, hTn, hM3⟩ := MapG.store mkey hmW hlen hkok (q, q) undE
      have hrun' : (Instr.mapUpdate 121 (.map (some mp)) (.agg #[.int .u8 k.k0, .int .u8 k.k1, .int .u8 k.k2, .int .u8 k.k3, .int .u8 k.k4, .int .u8 k.k5, .int .u8 k.k6, .int .u8 k.k7]) (.agg #[.int .u8 q.kd, .int .u64 q.x, .int .u64 q.y, .int .u64 q.lv, .int .u64 q.wn, .int .u8 q.kd, .int .u64 q.x, .int .u64 q.y, .int .u64 q.lv, .int .u64 q.wn])).run Tryz.prog W = .ok () w3 := hrun
      have hM4 : MapE w3 mp (opE i.es (i.ks.take (j + 1))) := by rw [htk, ← opE_snoc i.es _ k hknot, ← hq]; exact hM3
      have hK3 : Keep (fun c => c = mp) Y w3 := (hW ▸ hk.alloc _ : Keep (fun c => c = mp) Y W).then (Keep.turned hTn) (fun _ _ h => h)
      have HM4 := hide hM4
      have HK3 := hide hK3
      have HLT := hide hlt
      have hjl : (j : Int) < (i.ks.length : Int) := by omega
      clear hrun hM3 hTn hM4 hK3 hmW hlen htk hknot hkok hcR hm hk hkj hq l1 l2 l3 l4 l5 l6 hmpY hj hlt
      go_upto_region 8 with fail
      rw [← hW, ← hR]
      clear hW hR r0 r1 r2 r3 r4 r5 r6 r7 r8 r9 r10 r11 r12
      have c1 := cellB hr0
      go_wp2
      go_roundw
      case rel => exact ⟨j + 1, by have := HLT.out; omega, by go_num, HM4.out, HK3.out⟩
      case measure => have := HLT.out; simp [intOf]; omega
    · obtain rfl : j = i.ks.length := by omega
      have n0 : w.heap.size ≠ mp := by have := HL.out; omega
      have n1 : w1.heap.size ≠ mp := by have := HL.out; omega
      have z0 := (hk.block w.heap.size (ltB y0) n0).trans y0
      have z1 := (hk.block w1.heap.size (ltB y1) n1).trans y1
      have c0 := cellB z0
      have c0' := frozenB z0
      have c1 := cellB z1
      have HM := hide hm
      have HK := hide hk
      clear hm hk
      go_wp2
      rw [List.take_length] at HM
      obtain ⟨l1, l2, l3, l4, l5, l6⟩ := HL.out
      refine bodyPost_ret (v := .tuple #[.agg #[.int .u64 i.time, .int .u64 blk, .map (some mp), .pointer (some ⟨g, 0, none⟩)], .nilIface]) (by simp [results, Tryz.results48, go_sem, c0]) rfl ⟨g, mp, i, rfl, HBT.out, by omega, by omega, by omega, ?_⟩
      have hX : ∀ x, x ≠ w.heap.size → ((((wr.setCell ⟨w.heap.size, 0, none⟩ (.int .u64 i.time)).setCell ⟨w.heap.size, 1, none⟩ (.int .u64 blk)).setCell ⟨w.heap.size, 2, none⟩ (.map (some mp))).setCell ⟨w.heap.size, 3, none⟩ (.pointer (some ⟨g, 0, none⟩))).heap[x]? = wr.heap[x]? := fun x hx => (heapSetO hx _ _).trans ((heapSetO hx _ _).trans ((heapSetO hx _ _).trans (heapSetO hx _ _)))
      refine ⟨MapG.kept HM.out (hX mp (fun e => n0 e.symm)), HS.out.kept ((hX g (by omega)).trans (HK.out.block g HS.out.lt (by omega))), (hX db (by omega)).trans ((HK.out.block db (ltB HDY.out) (by omega)).trans HDY.out), ?_⟩
      refine Keep.set (b := w.heap.size) (Keep.set (b := w.heap.size) (Keep.set (b := w.heap.size) (Keep.set (b := w.heap.size) ?_ (Or.inr (Nat.le_refl _)) _ _) (Or.inr (Nat.le_refl _)) _ _) (Or.inr (Nat.le_refl _)) _ _) (Or.inr (Nat.le_refl _)) _ _
      exact HKY.out.then HK.out (fun x hx h => by omega)
end Go.Proofs.YtlcnkcgmjnfbiaaGreatDoor
