import Derived.Test.YtnlgndpcddngoaaGreatDoorZc29
import Derived.Test.YtnlgndpcddngoaaGreatDoorZc28
set_option linter.unusedSectionVars false
namespace Go.Proofs.YtnlgndpcddngoaaGreatDoor
open Go.RowKit Go.Maps
variable [dK] [iK]

/-- What is there to know ahead of an opening over files. -/
structure OpF (w : World) (db mb nb : Nat) (fs : Fs) (im : Bool → Option Ig) (l f : Int) : Prop where
  hd : w.heap[db]? = some (.cells #[.map (some mb), .map (some nb), .slice none 0 0, .int .i64 l, .int .i64 f, .bool false] 88)
  hl : -9223372036854775808 < l ∧ l < 0
  hf : -9223372036854775808 < f ∧ f < 0
  hD : DirAt w nb fs
  hI : Files fs im
  some_ : ∃ b, im b ≠ none
  rel : ∀ a b, im false = some a → im true = some b → b.turn = nextT a.turn ∨ a.turn = nextT b.turn
theorem OpF.kept {w w' : World} {db mb nb : Nat} {fs : Fs} {im : Bool → Option Ig} {l f : Int} (h : OpF w db mb nb fs im l f) (hb : Below w.heap.size w w') : OpF w' db mb nb fs im l f :=
  ⟨(hb.block db (ltB h.hd)).trans h.hd, h.hl, h.hf, h.hD.kept (hb.block nb h.hD.map.lt) (fun p hp => hb.block _ (ltB (h.hD.str p hp))), h.hI, h.some_, h.rel⟩

set_option maxRecDepth 100000 in
set_option maxHeartbeats 1000000 in
theorem openjob117f (A B g db mb nb : Nat) (fs : Fs) (im : Bool → Option Ig) (l f : Int) (w : World) (hA : w.heap[A]? = some (.cells #[.pointer (some ⟨g, 0, none⟩)] 122)) (hB : w.heap[B]? = some (.cells #[.int .u64 0, .int .u64 0, .slice none 0 0] 169)) (hg : w.cell? ⟨g, 0, none⟩ = some (.iface 78 (.pointer (some ⟨db, 0, none⟩)))) (hT : TabOk w g 1) (hgd : g ≠ db) (hgn : g ≠ nb) (hgs : ∀ p ∈ fs, p.2.1 ≠ g) (hBg : B ≠ g) (hBd : B ≠ db) (h : OpF w db mb nb fs im l f) :
    Calls Tryz.prog 117 #[.pointer (some ⟨A, 0, none⟩), .pointer (some ⟨B, 0, none⟩)] w fun e w' => e = .returned .nilIface ∧ ∃ (i : Ig) (a : Option Addr) (c : Nat), Best im i ∧ w'.heap[B]? = some (.cells #[.int .u64 i.turn, .int .u64 i.time, .slice a i.ks.length c] 169) ∧ w'.ownsRow w.heap.size 175 13 (.slice a i.ks.length c) i.ks.length (rrow i.es i.ks) ∧ w'.heap[db]? = some (.cells #[.map (some mb), .map (some nb), .slice none 0 0, .int .i64 (l - 1), .int .i64 (f - 1), .bool false] 88) ∧ TabOk w' g 1 ∧ (∀ j, (j < 1 ∨ 260 ≤ j) → w'.cell? ⟨g, j, none⟩ = w.cell? ⟨g, j, none⟩ ∧ w'.frozen? ⟨g, j, none⟩ = w.frozen? ⟨g, j, none⟩) ∧ Keep (fun c => c = B ∨ c = g ∨ c = db) w w' := by
  have HL := hide (last118f g db mb nb fs im l f w hg hT hgd hgn hgs h.hd h.hl h.hf h.hD h.hI h.some_ h.rel)
  have a1 := cellB hA
  have lB := ltB hB
  clear hg h hT hgs
  go_enter Tryz.func117, Tryz.ntmps117
  go_wp2_with fail
  refine HL.out.mono ?_
  rintro e w1 ⟨i, a, c, q1, rfl, q2, q3, q4, q5, q6⟩
  have h1 := (q6.block B lB (fun h => h.elim hBg hBd)).trans hB
  have e1 := cellB h1
  have e2 := frozenB h1
  have HQ := hide (And.intro q1 (And.intro q2 (And.intro q3 (And.intro q4 (And.intro q5 q6)))))
  clear q1 q2 q3 q4 q5 q6 a1
  go_wp2
  go_ret
  obtain ⟨q1, q2, q3, q4, q5, q6⟩ := HQ.out
  have nB : ∀ x, x ≠ B → (((w1.setCell ⟨B, 0, none⟩ (.int .u64 i.turn)).setCell ⟨B, 1, none⟩ (.int .u64 i.time)).setCell ⟨B, 2, none⟩ (.slice a i.ks.length c)).heap[x]? = w1.heap[x]? := fun x hx => (heapSetO hx _ _).trans ((heapSetO hx _ _).trans (heapSetO hx _ _))
  refine ⟨rfl, i, a, c, q1, by simpa using heapSet (heapSet (heapSet h1 0 (.int .u64 i.turn)) 1 (.int .u64 i.time)) 2 (.slice a i.ks.length c), own_keptE q2 (fun x hx => nB x (fun e => by have := (own_ltE q2 hx).1; omega)), (nB db (fun e => hBd e.symm)).trans q3, q4.block (nB g (fun e => hBg e.symm)), fun j hj => ⟨(World.cell?_of_block (w := w1) (nB g (fun e => hBg e.symm))).trans (q5 j hj).1, (World.frozen?_of_block (w := w1) (nB g (fun e => hBg e.symm))).trans (q5 j hj).2⟩, ?_⟩
  refine Keep.set (b := B) (Keep.set (b := B) (Keep.set (b := B) ?_ (Or.inl (Or.inl rfl)) _ _) (Or.inl (Or.inl rfl)) _ _) (Or.inl (Or.inl rfl)) _ _
  exact q6.mono (fun x h _ => Or.inr h)

set_option maxRecDepth 100000 in
set_option maxHeartbeats 2000000 in
/-- store.Open over files. -/
theorem storeopen76f (db mb nb : Nat) (fs : Fs) (im : Bool → Option Ig) (l f : Int) (w : World) (h : OpF w db mb nb fs im l f) :
    Calls Tryz.prog 76 #[.iface 78 (.pointer (some ⟨db, 0, none⟩))] w fun e w' => ∃ (g : Nat) (i : Ig) (a : Option Addr) (c : Nat), e = .returned (.tuple #[.pointer (some ⟨g, 0, none⟩), .agg #[.int .u64 i.turn, .int .u64 i.time, .slice a i.ks.length c], .nilIface]) ∧ w.heap.size ≤ g ∧ Best im i ∧ StoAt w' g db i.turn ∧ w'.ownsRow w.heap.size 175 13 (.slice a i.ks.length c) i.ks.length (rrow i.es i.ks) ∧ w'.heap[db]? = some (.cells #[.map (some mb), .map (some nb), .slice none 0 0, .int .i64 (l - 1), .int .i64 (f - 1), .bool false] 88) ∧ Keep (fun c => c = db) w w' := by
  have hmf : ∀ (fn : Fn) (first cap : Array Value) (w : World), (Instr.makeFunc fn first cap).run Tryz.prog w = .ok (.func fn first cap) w := fun _ _ _ _ => rfl
  obtain ⟨zc, hzc, z0, z1, z2, z3, z4, z5⟩ := storeZero db
  obtain ⟨V, hV⟩ : ∃ V, V = (((w.alloc (.cells #[.int .u64 0, .int .u64 0, .slice none 0 0] 169)).alloc (.cells zc 230)).alloc (.cells #[.pointer (some ⟨w.heap.size + 1, 0, none⟩)] 122)).alloc (.cells #[.int .u64 0, .int .u64 0, .slice none 0 0] 169) := ⟨_, rfl⟩
  have h0 : V.heap[w.heap.size]? = some (.cells #[.int .u64 0, .int .u64 0, .slice none 0 0] 169) := hV ▸ upB (upB (upB (heapNew _ _) _) _) _
  have h1 : V.heap[w.heap.size + 1]? = some (.cells zc 230) := hV ▸ upB (upB (heapN (by simp)) _) _
  have h2 : V.heap[w.heap.size + 2]? = some (.cells #[.pointer (some ⟨w.heap.size + 1, 0, none⟩)] 122) := hV ▸ upB (heapN (by simp)) _
  have h3 : V.heap[w.heap.size + 3]? = some (.cells #[.int .u64 0, .int .u64 0, .slice none 0 0] 169) := hV ▸ heapN (by simp)
  have hsV : V.heap.size = w.heap.size + 4 := by rw [hV]; simp
  have hB : Below w.heap.size w V := hV ▸ ((((Below.refl _ w).alloc (Nat.le_refl _) _).alloc (by simp) _).alloc (by simp; omega) _).alloc (by simp; omega) _
  have hdl := ltB h.hd
  have hnl := h.hD.map.lt
  have hfl : ∀ p ∈ fs, p.2.1 < w.heap.size := fun p hp => ltB (h.hD.str p hp)
  obtain ⟨U, hU⟩ : ∃ U, U = V.alloc (.cells #[.nilIface] 97) := ⟨_, rfl⟩
  have hBU : Below w.heap.size w U := hU ▸ hB.alloc hB.size _
  have hsU : U.heap.size = w.heap.size + 5 := by rw [hU]; simp; omega
  have u1 : U.heap[w.heap.size + 1]? = some (.cells zc 230) := hU ▸ upB h1 _
  have cU := cellB u1
  have fU := frozenB u1
  have tU : TabOk U (w.heap.size + 1) 1 := ⟨⟨false, (cU 1).trans z1, fun j hj => ⟨0, (cU _).trans (z3 j hj), fun h => by cases h⟩⟩, (cU 2).trans z2, fun j _ => fU _⟩
  have HG := guard116 117 #[.pointer (some ⟨w.heap.size + 2, 0, none⟩), .pointer (some ⟨w.heap.size + 3, 0, none⟩)] callOpenJob V (fun w2 => ∃ (i : Ig) (a : Option Addr) (c : Nat), Best im i ∧ w2.heap[w.heap.size + 3]? = some (.cells #[.int .u64 i.turn, .int .u64 i.time, .slice a i.ks.length c] 169) ∧ w2.ownsRow U.heap.size 175 13 (.slice a i.ks.length c) i.ks.length (rrow i.es i.ks) ∧ w2.heap[db]? = some (.cells #[.map (some mb), .map (some nb), .slice none 0 0, .int .i64 (l - 1), .int .i64 (f - 1), .bool false] 88) ∧ TabOk w2 (w.heap.size + 1) 1 ∧ (∀ j, (j < 1 ∨ 260 ≤ j) → w2.cell? ⟨w.heap.size + 1, j, none⟩ = U.cell? ⟨w.heap.size + 1, j, none⟩ ∧ w2.frozen? ⟨w.heap.size + 1, j, none⟩ = U.frozen? ⟨w.heap.size + 1, j, none⟩) ∧ Keep (fun c => c = w.heap.size + 3 ∨ c = w.heap.size + 1 ∨ c = db) U w2) (by
    rw [← hU]
    refine (openjob117f (w.heap.size + 2) (w.heap.size + 3) (w.heap.size + 1) db mb nb fs im l f U (hU ▸ upB h2 _) (hU ▸ upB h3 _) ((cU 0).trans z0) tU (by omega) (by omega) (fun p hp e => by have := hfl p hp; omega) (by omega) (by omega) (h.kept hBU)).mono ?_
    rintro e w2 ⟨rfl, i, a, c, q1, q2, q3, q4, q5, q6, q7⟩
    refine ⟨rfl, ?_, i, a, c, q1, q2, q3, q4, q5, q6, q7⟩
    exact (q7.block V.heap.size (by omega) (fun h => by omega)).trans (hU ▸ heapNew _ _))
  have HG := hide HG
  have HB := hide hB
  have HBU := hide hBU
  have HSV := hide (And.intro hsV hsU)
  have HZ := hide (And.intro cU (And.intro fU (And.intro z4 z5)))
  have HZ0 := hide z0
  have HUU := hide hU
  clear h hB hBU hsV hsU z0 z1 z2 z3 z4 z5 tU u1 cU fU hU
  go_enter Tryz.func76, Tryz.ntmps76
  go_upto_region 3 with fail
  rw [← hzc, ← hV]
  clear hV hzc
  go_wp2_with fail
  refine HG.out.mono ?_
  rintro e w1 ⟨rfl, w2, ⟨i, a, c, p1, p2, p3, p4, p5, p6, p7⟩, hb, hw1⟩
  obtain ⟨sV, sU⟩ := HSV.out
  obtain ⟨cU, fU, z4, z5⟩ := HZ.out
  have X : ∀ k, k ≠ V.heap.size → w1.heap[k]? = w2.heap[k]? := fun k hk => by rw [hw1, heapSetO hk]
  have Z : ∀ k, k < V.heap.size → k ≠ w.heap.size + 3 → k ≠ w.heap.size + 1 → k ≠ db → w1.heap[k]? = V.heap[k]? := fun k hk n1 n2 n3 => (X k (by omega)).trans ((p7.block k (by omega) (fun h => by omega)).trans (by rw [HUU.out]; exact heapOld _ _ hk))
  have g0 := (Z w.heap.size (by omega) (by omega) (by omega) (by omega)).trans h0
  have g2 := (Z (w.heap.size + 2) (by omega) (by omega) (by omega) (by omega)).trans h2
  have g3 := (X (w.heap.size + 3) (by omega)).trans p2
  have gd := (X db (by omega)).trans p4
  have gs : w1.heap[w.heap.size + 1]? = w2.heap[w.heap.size + 1]? := X _ (by omega)
  have kw1 : Keep (fun c => c = db) w w1 := by
    rw [hw1]
    refine Keep.set (b := V.heap.size) ?_ (Or.inr (by omega)) _ _
    exact (Keep.of_below HBU.out).then p7 (fun i hi h => by omega)
  have gc : ∀ j, (j < 1 ∨ 260 ≤ j) → w1.cell? ⟨w.heap.size + 1, j, none⟩ = zc[j]? ∧ w1.frozen? ⟨w.heap.size + 1, j, none⟩ = false := fun j hj => ⟨(World.cell?_of_block (w := w2) gs).trans ((p6 j hj).1.trans (cU j)), (World.frozen?_of_block (w := w2) gs).trans ((p6 j hj).2.trans (fU j))⟩
  have gt : TabOk w1 (w.heap.size + 1) 1 := p5.block gs
  obtain ⟨Y, hY⟩ : ∃ Y, Y = w1.setCell ⟨w.heap.size + 1, 260, none⟩ (.int .u64 i.turn) := ⟨_, rfl⟩
  have hS : StoAt Y (w.heap.size + 1) db i.turn := by
    rw [hY]
    refine ⟨fun j hj => ?_, (World.cell?_setCell_other _ _ _ _ (by simp)).trans ((gc 0 (Or.inl (by omega))).1.trans HZ0.out), gt.set (Or.inr (by omega)) _, World.cell?_setCell_same _ _ _ ((gc 260 (Or.inr (by omega))).1.trans z4), (World.cell?_setCell_other _ _ _ _ (by simp)).trans ((gc 261 (Or.inr (by omega))).1.trans z5)⟩
    rw [World.frozen?_setCell]
    by_cases h1 : j < 1 ∨ 260 ≤ j
    · exact (gc j h1).2
    · have := gt.fro (j - 1) (by omega)
      rwa [show 1 + (j - 1) = j by omega] at this
  have NY : ∀ k, k ≠ w.heap.size + 1 → Y.heap[k]? = w1.heap[k]? := fun k hk => by rw [hY, heapSetO hk]
  have y0 := (NY w.heap.size (by omega)).trans g0
  have y2 := (NY (w.heap.size + 2) (by omega)).trans g2
  have y3 := (NY (w.heap.size + 3) (by omega)).trans g3
  have yd := (NY db (by omega)).trans gd
  have hKY : Keep (fun c => c = db) w Y := hY ▸ Keep.set (b := w.heap.size + 1) kw1 (Or.inr (by omega)) _ _
  have hoY : Y.ownsRow U.heap.size 175 13 (.slice a i.ks.length c) i.ks.length (rrow i.es i.ks) := own_keptE p3 (fun x hx => by
    have := (own_ltE p3 hx).1
    exact (NY x (by omega)).trans (X x (by omega)))
  have c1 := (gc 260 (Or.inr (by omega))).1.trans z4
  have c1' := (gc 260 (Or.inr (by omega))).2
  have c2 := cellB g2
  have c3 := cellB g3
  have HS := hide hS
  have HKY := hide hKY
  have HP1 := hide p1
  have HOY := hide hoY
  have HYD := hide yd
  clear hb hw1 p1 p2 p3 p4 p5 p6 p7 X Z gd gs kw1 gc gt hS NY yd hKY hoY cU fU z4 z5 h0 h1 h2 h3
  go_upto_region 7 with fail
  rw [← hY]
  clear hY c1 c1' c2 c3 g0 g2 g3
  have d0 := cellB y0
  have d0' := frozenB y0
  have d2 := cellB y2
  have d3 := cellB y3
  go_region
  all_goals go_wp2
  all_goals refine bodyPost_ret (v := .tuple #[.pointer (some ⟨w.heap.size + 1, 0, none⟩), .agg #[.int .u64 i.turn, .int .u64 i.time, .slice a i.ks.length c], .nilIface]) (by simp [results, Tryz.results76, go_sem, d0]) rfl ?_
  all_goals (
    have hX : ∀ x, x ≠ w.heap.size → (((Y.drew.setCell ⟨w.heap.size, 0, none⟩ (.int .u64 i.turn)).setCell ⟨w.heap.size, 1, none⟩ (.int .u64 i.time)).setCell ⟨w.heap.size, 2, none⟩ (.slice a i.ks.length c)).heap[x]? = Y.heap[x]? := fun x hx => (heapSetO hx _ _).trans ((heapSetO hx _ _).trans (heapSetO hx _ _))
    refine ⟨w.heap.size + 1, i, a, c, rfl, by omega, HP1.out, HS.out.kept (hX _ (by omega)), ?_, (hX db (by omega)).trans HYD.out, ?_⟩
    · have h2 := own_keptE HOY.out (fun x hx => hX x (by have := (own_ltE HOY.out hx).1; omega))
      refine ⟨h2.1, ?_⟩
      rcases h2.2 with h | ⟨x, cap', cur, e1, e2, e3⟩
      · exact Or.inl h
      · exact Or.inr ⟨x, cap', cur, e1, by omega, e3⟩
    · refine Keep.drew (Keep.set (b := w.heap.size) (Keep.set (b := w.heap.size) (Keep.set (b := w.heap.size) ?_ (Or.inr (Nat.le_refl _)) _ _) (Or.inr (Nat.le_refl _)) _ _) (Or.inr (Nat.le_refl _)) _ _)
      exact HKY.out)
end Go.Proofs.YtnlgndpcddngoaaGreatDoor
