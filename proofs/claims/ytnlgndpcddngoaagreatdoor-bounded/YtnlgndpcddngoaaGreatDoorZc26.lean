import Derived.Test.YtnlgndpcddngoaaGreatDoorZc25
import Derived.Defers
import Derived.Recover
import Derived.Laws.Pointers
import Derived.Laws.EntriesVeiled
set_option linter.unusedSectionVars false
namespace Go.Proofs.YtnlgndpcddngoaaGreatDoor
open Go.RowKit Go.Maps
variable [dK] [iK]

/-- A disk that is well, in memory: F are the blocks that are its own. k: how many calls that write it bears. -/
structure DskAt (w : World) (db k : Nat) (fsD fsN : Fs) (F : Nat → Prop) : Prop where
  mem : ∃ mb nb l f, w.heap[db]? = some (.cells #[.map (some mb), .map (some nb), .slice none 0 0, .int .i64 l, .int .i64 f, .bool false] 88) ∧ DirAt w mb fsD ∧ DirAt w nb fsN ∧ (-9223372036854775808 + (k : Int) ≤ l ∧ l < 0) ∧ (-9223372036854775808 + (k : Int) ≤ f ∧ f < 0) ∧ F mb ∧ F nb ∧ mb ≠ nb
  sD : ∀ p ∈ fsD, F p.2.1
  sN : ∀ p ∈ fsN, F p.2.1
  own : F db
  lt : ∀ b, F b → b < w.heap.size
theorem DskAt.kept {w w' : World} {db k : Nat} {fsD fsN : Fs} {F : Nat → Prop} (h : DskAt w db k fsD fsN F) (hs : w.heap.size ≤ w'.heap.size) (hb : ∀ b, F b → w'.heap[b]? = w.heap[b]?) : DskAt w' db k fsD fsN F := by
  obtain ⟨mb, nb, l, f, h1, h2, h3, h4, h5, h6, h7, h8⟩ := h.mem
  exact ⟨⟨mb, nb, l, f, (hb db h.own).trans h1, h2.kept (hb mb h6) (fun p hp => hb _ (h.sD p hp)), h3.kept (hb nb h7) (fun p hp => hb _ (h.sN p hp)), h4, h5, h6, h7, h8⟩, h.sD, h.sN, h.own, fun b hF => Nat.lt_of_lt_of_le (h.lt b hF) hs⟩

theorem methodWrite (h : Value) (w : World) : (Go.method 510 78 h "Write").run Tryz.prog w = .ok (259, h) w := by kernel_rfl
theorem methodSync (h : Value) (w : World) : (Go.method 510 78 h "Sync").run Tryz.prog w = .ok (258, h) w := by kernel_rfl

theorem callWr (vs : Array Value) (w : World) : Sem.run Tryz.prog (callFunc 180 vs) w = .ok (.enter 180 vs) w := by simp [go_sem]
theorem callName (vs : Array Value) (w : World) : Sem.run Tryz.prog (callFunc 147 vs) w = .ok (.enter 147 vs) w := by simp [go_sem]
theorem callDW (vs : Array Value) (w : World) : Sem.run Tryz.prog (callFunc 259 vs) w = .ok (.enter 259 vs) w := by simp [go_sem]
/-- A call of a method of an interface, by its contract, in a region that draws. -/
theorem step_inv {ops : Array Oper} {o : Oper} {a : Act} {w : World} {K : Act → World → Prop} {Q : Exit → Act → World → Prop} {E : Prop} {R : Ending → World → Prop} (hg : o.guard = none) (f : FuncId) (nm : String) (t : TypeId) (h : Value) (hm : ∀ w, (Go.method 510 t h nm).run Tryz.prog w = .ok (f, h) w) (hcf : ∀ vs w, Sem.run Tryz.prog (callFunc f vs) w = .ok (.enter f vs) w) (s : Operand) (xs : Array Operand) (tys : Array TypeId)
    (hop : o.op = .call { callee := .invoke s nm, args := xs, argTypes := tys }) (hs : a.eval s = .iface t h) (vs : Array Value) (hx : xs.map a.eval = vs) (hC : Calls Tryz.prog f (#[h] ++ vs) w R)
    (hR : ∀ e w', R e w' → ∃ v, e = .returned v ∧ K (a.put o.dst v) w') :
    if Region.wanted o (yielded ops a.tmps) = true then Oper.wp Tryz.prog o a w K Q else E := by
  have hw : Region.wanted o (yielded ops a.tmps) = true := by simp [Region.wanted, hg]
  rw [if_pos hw]
  have hr : (execOp a.eval o).run Tryz.prog w = .ok (.enter f (#[h] ++ vs)) w := by
    subst hx
    simp only [execOp, hop, resolve, hs]
    simp [invoke, callMethod, go_sem]
    have h0 : (#[Value.iface t h] ++ Array.map a.eval xs)[0]? = some (.iface t h) := by rw [Array.getElem?_append_left (by simp)]; rfl
    have hp : Sem.run Tryz.prog program w = .ok Tryz.prog w := rfl
    have hn : Tryz.prog.types.size + 100 = 510 := by kernel_rfl
    have hx : (Array.map a.eval xs).extract 0 xs.size = Array.map a.eval xs := by
      rw [show xs.size = (Array.map a.eval xs).size from (Array.size_map ..).symm]
      exact Array.extract_size
    rw [h0, hx]
    simp only [Sem.run_bind, hp, hn, hm, Result.andThen, hcf]
  unfold Oper.wp
  rw [hr, Oper.upon_enter]
  refine hC.mono ?_
  intro e w' h
  obtain ⟨v, rfl, h2⟩ := hR e w' h
  exact h2

/-- A store of images, in memory, at block g, over the disk db. -/
structure StoAt (w : World) (g db : Nat) (turn : Int) : Prop where
  fro : ∀ j, j < 262 → w.frozen? ⟨g, j, none⟩ = false
  dsk : w.cell? ⟨g, 0, none⟩ = some (.iface 78 (.pointer (some ⟨db, 0, none⟩)))
  tab : TabOk w g 1
  turn : w.cell? ⟨g, 260, none⟩ = some (.int .u64 turn)
  err : w.cell? ⟨g, 261, none⟩ = some .nilIface
theorem lt_cell {w : World} {g j : Nat} {v : Value} (h : w.cell? ⟨g, j, none⟩ = some v) : g < w.heap.size := by
  rcases Nat.lt_or_ge g w.heap.size with h' | h'
  · exact h'
  · simp [World.cell?, Array.getElem?_eq_none h'] at h
theorem StoAt.lt {w : World} {g db : Nat} {turn : Int} (h : StoAt w g db turn) : g < w.heap.size := lt_cell h.dsk
theorem TabOk.block {w w' : World} {g o : Nat} (h : TabOk w g o) (hb : w'.heap[g]? = w.heap[g]?) : TabOk w' g o := by
  have hc : ∀ j, w'.cell? ⟨g, j, none⟩ = w.cell? ⟨g, j, none⟩ := fun j => World.cell?_of_block (w := w) hb
  have hf : ∀ j, w'.frozen? ⟨g, j, none⟩ = w.frozen? ⟨g, j, none⟩ := fun j => World.frozen?_of_block (w := w) hb
  obtain ⟨d, q1, q2⟩ := h.once
  exact ⟨⟨d, (hc _).trans q1, fun j hj => by obtain ⟨u, hu, hx⟩ := q2 j hj; exact ⟨u, (hc _).trans hu, hx⟩⟩, (hc _).trans h.mu, fun j hj => (hf _).trans (h.fro j hj)⟩
theorem StoAt.kept {w w' : World} {g db : Nat} {turn : Int} (h : StoAt w g db turn) (hb : w'.heap[g]? = w.heap[g]?) : StoAt w' g db turn := by
  have hc : ∀ j, w'.cell? ⟨g, j, none⟩ = w.cell? ⟨g, j, none⟩ := fun j => World.cell?_of_block (w := w) hb
  exact ⟨fun j hj => (World.frozen?_of_block (w := w) hb).trans (h.fro j hj), (hc _).trans h.dsk, h.tab.block hb, (hc _).trans h.turn, (hc _).trans h.err⟩
/-- A cell of a store other than its table is written. -/
theorem TabOk.set {w : World} {g o j : Nat} (h : TabOk w g o) (hj : j < o ∨ o + 259 ≤ j) (v : Value) : TabOk (w.setCell ⟨g, j, none⟩ v) g o := by
  obtain ⟨d, q1, q2⟩ := h.once
  have hc : ∀ i, i ≠ j → (w.setCell ⟨g, j, none⟩ v).cell? ⟨g, i, none⟩ = w.cell? ⟨g, i, none⟩ := fun i hi => World.cell?_setCell_other _ _ _ _ (by intro e; injection e with _ e _; exact hi e.symm)
  exact ⟨⟨d, (hc _ (by omega)).trans q1, fun i hi => by obtain ⟨u, hu, hx⟩ := q2 i hi; exact ⟨u, (hc _ (by omega)).trans hu, hx⟩⟩, (hc _ (by omega)).trans h.mu, fun i hi => by rw [World.frozen?_setCell]; exact h.fro i hi⟩
theorem mem_putG_self {K V : Type} [DecidableEq K] (k : K) (v : V) (ks : List (K × V)) : (k, v) ∈ putG k v ks := by
  refine fndG_mem ?_
  unfold putG
  split
  · exact fndG_upd_same (by assumption)
  · rw [fndG_app, if_neg (by assumption), if_pos rfl]
def nextT (t : Int) : Int := (t + 1) % 18446744073709551616

set_option maxRecDepth 100000 in
set_option maxHeartbeats 4000000 in
theorem stwrite161 (g db b k : Nat) (es : Es) (turn time : Int) (fsD fsN : Fs) (F : Nat → Prop) (w : World) (hE : MapE w b es) (hnd : (es.map Prod.fst).Nodup) (hok : ∀ p ∈ es, p.1.ok) (hq : ∀ p ∈ es, p.2.2.fit) (hsz : es.length ≤ 12) (_ht0 : 0 ≤ turn) (_ht1 : turn ≤ 18446744073709551615) (hm0 : 0 ≤ time) (hm1 : time ≤ 18446744073709551615)
    (hS : StoAt w g db turn) (hD : DskAt w db (k + 2) fsD fsN F) (hgF : ¬ F g) (_hbF : ¬ F b) (hbg : b ≠ g) :
    Calls Tryz.prog 161 #[.pointer (some ⟨g, 0, none⟩), .int .u64 time, .func (.func 143) #[.map (some b)] #[]] w fun e w' => e = .returned .nilIface ∧ ∃ (ks : List Ky) (a c : Nat) (F' : Nat → Prop), ks.Perm (es.map Prod.fst) ∧ StoAt w' g db (nextT turn) ∧ DskAt w' db k (putG (nextT turn % 2 == 1) (a, strOfNums (imgB (nextT turn) time es ks)) fsD) (putG (nextT turn % 2 == 1) (c, strOfNums (imgB (nextT turn) time es ks)) fsN) F' ∧ (∀ b, F' b → F b ∨ w.heap.size ≤ b) ∧ Keep (fun c => c = g ∨ F c) w w' := by
  obtain ⟨T, hT⟩ : ∃ T, T = nextT turn := ⟨_, rfl⟩
  have hT0 : 0 ≤ T ∧ T ≤ 18446744073709551615 := by rw [hT]; unfold nextT; omega
  have hTw : IntKind.u64.wrap (turn + 1) = T := by rw [hT, IntKind.wrap_u64]; rfl
  rw [← hT]
  have hgl := hS.lt
  have hbl := MapG.lt hE
  have hdl := hD.lt db hD.own
  have hgd : g ≠ db := fun e => hgF (e ▸ hD.own)
  obtain ⟨V, hV⟩ : ∃ V, V = w.setCell ⟨g, 260, none⟩ (.int .u64 T) := ⟨_, rfl⟩
  have hSV : StoAt V g db T := by
    rw [hV]
    exact ⟨fun j hj => by rw [World.frozen?_setCell]; exact hS.fro j hj, (World.cell?_setCell_other _ _ _ _ (by simp)).trans hS.dsk, hS.tab.set (Or.inr (by omega)) _, World.cell?_setCell_same _ _ _ hS.turn, (World.cell?_setCell_other _ _ _ _ (by simp)).trans hS.err⟩
  have hDV : DskAt V db (k + 2) fsD fsN F := hD.kept (by rw [hV]; simp) (fun c hc => by rw [hV]; exact heapSetO (fun (e : c = g) => hgF (e ▸ hc)) _ _)
  have hEV : MapE V b es := MapG.kept hE (by rw [hV]; exact heapSetO hbg _ _)
  have hKV : Keep (fun c => c = g ∨ F c) w V := hV ▸ (Keep.refl _ w).set (Or.inl (Or.inl rfl)) _ _
  have hsV : V.heap.size = w.heap.size := by rw [hV, World.size_setCell]
  have a1 := hS.turn
  have a2 := hS.fro 260 (by omega)
  have HW := hide (write180 g 1 b es T time V.drew (hEV.kept rfl) hnd hok hq hsz hT0.1 hT0.2 hm0 hm1 (hSV.tab.block rfl) (by show g < V.heap.size; omega) hbg)
  have HSV := hide hSV
  have HDV := hide hDV
  have HKV := hide hKV
  have HSZ := hide hsV
  have HTT := hide hT
  clear hS hD hE hnd hok hq hSV hDV hEV hKV hsV hT
  go_enter Tryz.func161, Tryz.ntmps161
  go_upto_region 2 with fail
  rw [← hV]
  clear hV a1 a2
  have b1 := HSV.out.turn
  go_cut [7] (fun s7 wx => ∃ (W : World) (gv cap : Nat) (ks : List Ky), W = wx ∧ s7 = .slice (some ⟨gv, 0, none⟩) (imgB T time es ks).length cap ∧ ks.Perm (es.map Prod.fst) ∧ V.heap.size ≤ gv ∧ W.ownsRow V.heap.size 5 1 (.slice (some ⟨gv, 0, none⟩) (imgB T time es ks).length cap) (imgB T time es ks).length ((imgB T time es ks).map (Value.int .u8)) ∧ TabPost V W g 1)
  case first =>
    go_region_law (refine step_fn (by rfl) 180 callWr _ _ (by rfl) #[.pointer (some ⟨g, 1, none⟩), .int .u64 T, .int .u64 time, .func (.func 143) #[.map (some b)] #[]] (by simp only [List.map_toArray, List.map_cons, List.map_nil]; rfl) HW.out ?_; rintro e w2 ⟨gv, cap, ks, rfl, h1, h2, h3, h4⟩; refine ⟨_, rfl, ?_⟩; have H1 := hide h1; have H2 := hide h2; have H3 := hide h3; have H4 := hide h4; clear h1 h2 h3 h4)
    all_goals (go_wp2_with fail; go_meet)
    all_goals exact ⟨w2, gv, cap, ks, rfl, rfl, H1.out, H2.out, H3.out, H4.out.tab, fun j hj => H4.out.cel j hj, ⟨H4.out.keep.os, H4.out.keep.tape, H4.out.keep.output, H4.out.keep.size, H4.out.keep.block⟩⟩
  case rest =>
    obtain ⟨w2, gv, cap, ks, rfl, rfl, hp, hgv, ho2, hP2⟩ := hcut
    obtain ⟨n, hn⟩ : ∃ n, n = (imgB T time es ks).length := ⟨_, rfl⟩
    obtain ⟨bs, hbs⟩ : ∃ bs, bs = imgB T time es ks := ⟨_, rfl⟩
    rw [← hbs] at hn ho2
    rw [← hbs, ← hn]
    rw [← hn] at ho2
    have hn1 : n ≤ 4000000 := by
      have e1 := imgA_len T time es ks
      have e2 : ks.length = es.length := by rw [hp.length_eq, List.length_map]
      rw [hn, hbs]
      unfold imgB
      rw [List.length_append, e1]
      simp [be8]
      omega
    have hS2 : StoAt w2 g db T := by
      refine ⟨fun j hj => ?_, (hP2.cel 0 (Or.inl (by omega))).1.trans HSV.out.dsk, hP2.tab, (hP2.cel 260 (Or.inr (by omega))).1.trans HSV.out.turn, (hP2.cel 261 (Or.inr (by omega))).1.trans HSV.out.err⟩
      by_cases h1 : j < 1 ∨ 260 ≤ j
      · exact (hP2.cel j (by omega)).2.trans (HSV.out.fro j hj)
      · have := hP2.tab.fro (j - 1) (by omega)
        rwa [show 1 + (j - 1) = j by omega] at this
    have hD2 : DskAt w2 db (k + 2) fsD fsN F := HDV.out.kept hP2.keep.size (fun c hc => hP2.keep.block c (HDV.out.lt c hc) (fun (e : c = g) => hgF (e ▸ hc)))
    obtain ⟨mb, nb, l, f, m1, m2, m3, m4, m5, m6, m7, m8⟩ := hD2.mem
    have hmw := methodWrite (.pointer (some ⟨db, 0, none⟩))
    have c1 := hS2.dsk
    have c2 := hS2.turn
    have HWR := hide (write259 db nb V.heap.size gv n cap (.map (some mb)) fsN (T % 2 == 1) bs l f w2.drew m1 (m3.kept rfl (fun _ _ => rfl)) (by omega) (by omega) hn.symm hn1 ho2)
    have HNA := hide (name_any T w2.drew hT0.1 hT0.2)
    have HS2 := hide hS2
    have HD2 := hide hD2
    have HP2 := hide hP2
    have HP := hide hp
    have HBS := hide hbs
    have HGV := hide hgv
    have HM := hide (And.intro m1 (And.intro m2 (And.intro m3 (And.intro m4 m5))))
    have HF := hide (And.intro m6 (And.intro m7 m8))
    clear hS2 hD2 hP2 hp hbs hgv m1 m2 m3 m4 m5 m6 m7 m8 ho2 hn HW b1
    go_upto_region 3 with fail
    go_cut [8] (fun s8 wx => ∃ (W : World) (pv : Value) (c : Nat), W = wx ∧ s8 = .nilIface ∧ W.heap[db]? = some (.cells #[.map (some mb), .map (some nb), pv, .int .i64 (l - 1), .int .i64 (f - 1), .bool false] 88) ∧ w2.heap.size ≤ c ∧ DirAt W nb (putG (T % 2 == 1) (c, strOfNums bs) fsN) ∧ W.ownsRow w2.heap.size 146 3 pv 1 [.int .i64 1, .string (nameB (T % 2 == 1)), .string (strOfNums bs)] ∧ Keep (fun c => c = db ∨ c = nb ∨ c = gv) w2 W)
    case first =>
      go_region_law (first
        | (refine step_fn (by rfl) 147 callName _ _ (by rfl) #[.int .u64 T] (by simp only [List.map_toArray, List.map_cons, List.map_nil]; rfl) HNA.out ?_; rintro e w3 ⟨rfl, rfl⟩; refine ⟨_, rfl, ?_⟩)
        | (refine step_inv (by rfl) 259 "Write" 78 (.pointer (some ⟨db, 0, none⟩)) hmw callDW _ _ _ (by rfl) (by rfl) #[.string (nameB (T % 2 == 1)), .slice (some ⟨gv, 0, none⟩) n cap] (by simp only [List.map_toArray, List.map_cons, List.map_nil]; rfl) HWR.out ?_; rintro e w3 ⟨rfl, pv, c, h1, h2, h3, h4, h5⟩; refine ⟨_, rfl, ?_⟩; have H1 := hide h1; have H2 := hide h2; have H3 := hide h3; have H4 := hide h4; have H5 := hide h5; clear h1 h2 h3 h4 h5))
      all_goals (go_wp2_with fail; go_meet)
      all_goals exact ⟨w3, pv, c, rfl, rfl, H1.out, H2.out, H3.out, H4.out, ⟨H5.out.os, H5.out.tape, H5.out.output, H5.out.size, H5.out.block⟩⟩
    case rest =>
      obtain ⟨w3, pv, c, rfl, rfl, q1, q2, q3, q4, q5⟩ := hcut
      obtain ⟨m1, m2, m3, m4, m5⟩ := HM.out
      obtain ⟨m6, m7, m8⟩ := HF.out
      have hgn : g ≠ nb := fun e => hgF (e ▸ m7)
      have hgm : g ≠ mb := fun e => hgF (e ▸ m6)
      have sV := HSZ.out
      have sG := HGV.out
      have s2 := HP2.out.keep.size
      have s3 := q5.size
      have hFl := HDV.out.lt
      have hS3 : StoAt w3 g db T := HS2.out.kept (q5.block g HS2.out.lt (fun h => by rcases h with h | h | h; exact hgd h; exact hgn h; omega))
      have hmd : mb ≠ db := m2.map.ne m1
      have hnd : nb ≠ db := m3.map.ne m1
      have hD3 : DirAt w3 mb fsD := m2.keep q5 (fun h => by
        rcases h with h | h | h
        · exact hmd h
        · exact m8 h
        · have := hFl mb m6; omega) (fun p hp h => by
        have h1 := m2.str p hp
        rcases h with h | h | h
        · rw [h, m1] at h1; simp at h1
        · rw [h] at h1; exact m3.map.ne h1 rfl
        · have := hFl _ (HD2.out.sD p hp); omega)
      have hms := methodSync (.pointer (some ⟨db, 0, none⟩))
      have d1 := hS3.dsk
      have HSY := hide (sync258w db mb w2.heap.size (.map (some nb)) pv fsD (T % 2 == 1) (strOfNums bs) (l - 1) (f - 1) w3 q1 hD3 (by omega) (by omega) q4)
      have HQ := hide (And.intro q2 (And.intro q3 q5))
      have HQ1 := hide q1
      have HD3 := hide hD3
      have HS3 := hide hS3
      clear q1 q2 q3 q4 q5 hD3 hS3 c1 c2 m1 m2 m3 HWR HNA
      go_wp2_with fail
      refine HSY.out.mono ?_
      rintro e w4 ⟨rfl, a, r1, r2, r3, r4⟩
      have HR := hide (And.intro r1 (And.intro r2 (And.intro r3 r4)))
      clear r1 r2 r3 r4
      go_wp2
      go_ret
      obtain ⟨r1, r2, r3, r4⟩ := HR.out
      obtain ⟨q2, q3, q5⟩ := HQ.out
      have s4 := r4.size
      have hbs := HBS.out
      subst hbs
      have hS4 : StoAt w4 g db T := HS3.out.kept (r4.block g HS3.out.lt (fun h => h.elim hgd hgm))
      have hN4 : DirAt w4 nb (putG (T % 2 == 1) (c, strOfNums (imgB T time es ks)) fsN) := q3.keep r4 (fun h => h.elim hnd (fun e => m8 e.symm)) (fun p hp h => by
        have h1 := q3.str p hp
        rcases h with h | h
        · rw [h, HQ1.out] at h1; simp at h1
        · rw [h] at h1; exact HD3.out.map.ne h1 rfl)
      refine ⟨rfl, ks, a, c, fun x => F x ∨ x = a ∨ x = c, HP.out, hS4, ⟨⟨mb, nb, l - 1 - 1, f - 1 - 1, r1, r3, hN4, by omega, by omega, Or.inl m6, Or.inl m7, m8⟩, fun p hp => ?_, fun p hp => ?_, Or.inl HDV.out.own, fun x hx => ?_⟩, fun x hx => ?_, ?_⟩
      · rcases mem_putG hp with h | h
        · exact Or.inl (HD2.out.sD p h)
        · subst h; exact Or.inr (Or.inl rfl)
      · rcases mem_putG hp with h | h
        · exact Or.inl (HD2.out.sN p h)
        · subst h; exact Or.inr (Or.inr rfl)
      · rcases hx with h | h | h
        · have := hFl x h; omega
        · rw [h]; exact ltB (r3.str _ (mem_putG_self _ _ _))
        · rw [h]; exact ltB (hN4.str _ (mem_putG_self _ _ _))
      · rcases hx with h | h | h
        · exact Or.inl h
        · right; omega
        · right; omega
      · refine ((HKV.out.then HP2.out.keep (fun i _ h => Or.inl h)).then q5 (fun i hi h => ?_)).then r4 (fun i hi h => ?_)
        · rcases h with h | h | h
          · exact Or.inr (h ▸ HDV.out.own)
          · exact Or.inr (h ▸ m7)
          · omega
        · rcases h with h | h
          · exact Or.inr (h ▸ HDV.out.own)
          · exact Or.inr (h ▸ m6)
end Go.Proofs.YtnlgndpcddngoaaGreatDoor
