import Derived.Test.YtlcnkcgmjnfbiaaGreatDoorZd26
import Derived.Test.YtlcnkcgmjnfbiaaGreatDoorZd27
import Derived.Laws.StructEq
import Derived.Test.YtlcnkcgmjnfbiaaGreatDoorZd00
import Derived.Test.YtlcnkcgmjnfbiaaGreatDoorZd25
import Derived.Test.YtlcnkcgmjnfbiaaGreatDoorZd28
import Derived.Maps.AppendAt
set_option linter.unusedSectionVars false
namespace Go.Proofs.YtlcnkcgmjnfbiaaGreatDoor
open Go.RowKit
variable [dK] [iK]

theorem copySum (g o m c : Nat) (v : Int) (w : World) (hgl : g < w.heap.size) (hm : m = 8) (hs : ∀ j, j < 8 → w.cell? ⟨g, o + j, none⟩ = some (.int .u8 (nb v j))) :
    (Builtin.copy_ #[48, 48] 3 #[.slice (some ⟨w.heap.size, 0, none⟩) 8 8, .slice (some ⟨g, o, none⟩) m c]).run Tryz.prog ((w.alloc (.cells #[.int .u8 0, .int .u8 0, .int .u8 0, .int .u8 0, .int .u8 0, .int .u8 0, .int .u8 0, .int .u8 0] 324)).drew)
      = .ok (.int .i64 8) ((w.alloc (.cells #[.int .u8 (nb v 0), .int .u8 (nb v 1), .int .u8 (nb v 2), .int .u8 (nb v 3), .int .u8 (nb v 4), .int .u8 (nb v 5), .int .u8 (nb v 6), .int .u8 (nb v 7)] 324)).drew) := by
  subst hm
  have hg : ((w.alloc (.cells #[.int .u8 0, .int .u8 0, .int .u8 0, .int .u8 0, .int .u8 0, .int .u8 0, .int .u8 0, .int .u8 0] 324)).drew).heap[w.heap.size]? = some (.cells #[.int .u8 0, .int .u8 0, .int .u8 0, .int .u8 0, .int .u8 0, .int .u8 0, .int .u8 0, .int .u8 0] 324 (0, 0)) := heapNew _ _
  have hs' : ∀ j u, ([.int .u8 (nb v 0), .int .u8 (nb v 1), .int .u8 (nb v 2), .int .u8 (nb v 3), .int .u8 (nb v 4), .int .u8 (nb v 5), .int .u8 (nb v 6), .int .u8 (nb v 7)] : List Value)[j]? = some u → ((w.alloc (.cells #[.int .u8 0, .int .u8 0, .int .u8 0, .int .u8 0, .int .u8 0, .int .u8 0, .int .u8 0, .int .u8 0] 324)).drew).cell? ((⟨g, o, none⟩ : Addr).add j) = some u := by
    intro j u hj
    rw [Addr.add_lit]
    show (w.alloc (.cells #[.int .u8 0, .int .u8 0, .int .u8 0, .int .u8 0, .int .u8 0, .int .u8 0, .int .u8 0, .int .u8 0] 324)).cell? ⟨g, o + j, none⟩ = some u
    rw [World.cell?_alloc_lt _ _ ⟨g, o + j, none⟩ hgl]
    match j, hj with
    | 0, hj => simp at hj; subst hj; exact hs 0 (by omega)
    | 1, hj => simp at hj; subst hj; exact hs 1 (by omega)
    | 2, hj => simp at hj; subst hj; exact hs 2 (by omega)
    | 3, hj => simp at hj; subst hj; exact hs 3 (by omega)
    | 4, hj => simp at hj; subst hj; exact hs 4 (by omega)
    | 5, hj => simp at hj; subst hj; exact hs 5 (by omega)
    | 6, hj => simp at hj; subst hj; exact hs 6 (by omega)
    | 7, hj => simp at hj; subst hj; exact hs 7 (by omega)
  rw [run_copy_row (P := Tryz.prog) _ 48 48 3 5 w.heap.size 0 8 8 ⟨g, o, none⟩ 8 c _ 324 [.int .u8 (nb v 0), .int .u8 (nb v 1), .int .u8 (nb v 2), .int .u8 (nb v 3), .int .u8 (nb v 4), .int .u8 (nb v 5), .int .u8 (nb v 6), .int .u8 (nb v 7)] Tryz.underlying48 (by kernel_rfl) hg (by rfl) hs' (by simp) (by simp [Value.oneCell'])]
  have e : ((w.alloc (.cells #[.int .u8 0, .int .u8 0, .int .u8 0, .int .u8 0, .int .u8 0, .int .u8 0, .int .u8 0, .int .u8 0] 324)).drew).setRow w.heap.size #[.int .u8 (nb v 0), .int .u8 (nb v 1), .int .u8 (nb v 2), .int .u8 (nb v 3), .int .u8 (nb v 4), .int .u8 (nb v 5), .int .u8 (nb v 6), .int .u8 (nb v 7)] = (w.alloc (.cells #[.int .u8 (nb v 0), .int .u8 (nb v 1), .int .u8 (nb v 2), .int .u8 (nb v 3), .int .u8 (nb v 4), .int .u8 (nb v 5), .int .u8 (nb v 6), .int .u8 (nb v 7)] 324)).drew := by
    show ((w.alloc (.cells #[.int .u8 0, .int .u8 0, .int .u8 0, .int .u8 0, .int .u8 0, .int .u8 0, .int .u8 0, .int .u8 0] 324)).setRow w.heap.size #[.int .u8 (nb v 0), .int .u8 (nb v 1), .int .u8 (nb v 2), .int .u8 (nb v 3), .int .u8 (nb v 4), .int .u8 (nb v 5), .int .u8 (nb v 6), .int .u8 (nb v 7)]).drew = _
    rw [World.setRow_alloc_new w #[.int .u8 0, .int .u8 0, .int .u8 0, .int .u8 0, .int .u8 0, .int .u8 0, .int .u8 0, .int .u8 0] #[.int .u8 (nb v 0), .int .u8 (nb v 1), .int .u8 (nb v 2), .int .u8 (nb v 3), .int .u8 (nb v 4), .int .u8 (nb v 5), .int .u8 (nb v 6), .int .u8 (nb v 7)] 324]
  simp only [List.take_zero, List.nil_append, List.length_cons, List.length_nil]
  exact congrArg _ e

set_option maxRecDepth 100000 in
theorem size186 (k : Int) (w : World) (hk : 0 ≤ k ∧ k ≤ 12) : Calls Tryz.prog 191 #[.int .u8 k] w fun e w' => e = .returned (.int .i64 (17 + k * 41 + 8)) ∧ w' = w := by
  have w1 : IntKind.i64.wrap k = k := by rw [IntKind.wrap_i64]; omega
  have w2 : IntKind.i64.wrap (k * 41) = k * 41 := by rw [IntKind.wrap_i64]; omega
  have w3 : IntKind.i64.wrap (17 + k * 41) = 17 + k * 41 := by rw [IntKind.wrap_i64]; omega
  have w4 : IntKind.i64.wrap (17 + k * 41 + 8) = 17 + k * 41 + 8 := by rw [IntKind.wrap_i64]; omega
  clear hk
  go_enter Tryz.func191, Tryz.ntmps191
  go_wp2
  go_ret
  exact ⟨rfl, rfl⟩

set_option maxRecDepth 100000 in
theorem sum_same (v : Int) (w : World) : (Op.equalIn 10000 324 (.agg #[.int .u8 (nb v 0), .int .u8 (nb v 1), .int .u8 (nb v 2), .int .u8 (nb v 3), .int .u8 (nb v 4), .int .u8 (nb v 5), .int .u8 (nb v 6), .int .u8 (nb v 7)]) (.agg #[.int .u8 (nb v 0), .int .u8 (nb v 1), .int .u8 (nb v 2), .int .u8 (nb v 3), .int .u8 (nb v 4), .int .u8 (nb v 5), .int .u8 (nb v 6), .int .u8 (nb v 7)])).run Tryz.prog w = .ok true w := by
  have u5 := Tryz.underlying5
  have a5 := Tryz.isAgg5
  have z5 := Tryz.sizeOf5
  rw [show (10000 : Nat) = 9999 + 1 from rfl, Op.equalIn]
  simp only [Sem.run_bind, run_underlying Tryz.underlying324, Result.andThen_ok]
  simp only [Std.Legacy.Range.forIn_eq_forIn_range', Std.Legacy.Range.size, Nat.sub_zero, Nat.add_sub_cancel, Nat.div_one, List.range'_succ, List.range'_zero, List.forIn_cons, List.forIn_nil]
  go_simp

theorem callOf (vs : Array Value) (w : World) : Sem.run Tryz.prog (callFunc 192 vs) w = .ok (.enter 192 vs) w := by simp [go_sem]

set_option maxRecDepth 100000 in
set_option maxHeartbeats 2000000 in
/-- An image that was written is whole. -/
theorem whole169 (gt o g so n cap : Nat) (k : Int) (A : List Int) (v : Int) (w : World) (hT : TabOk w gt o) (hv : v = sumM A) (hA : A.length + 8 = n) (hnc : n ≤ cap) (hk : 0 ≤ k ∧ k ≤ 12) (hn : (n : Int) = 17 + k * 41 + 8) (hgl : g < w.heap.size) (hgt : gt < w.heap.size) (hne : g ≠ gt) (h0 : w.cell? ⟨g, so, none⟩ = some (.int .u8 k)) (hc : ∀ j, j < A.length → w.cell? ⟨g, so + j, none⟩ = some (.int .u8 (A.getD j 0))) (hb : Bytes A) (hs : ∀ j, j < 8 → w.cell? ⟨g, so + (n - 8) + j, none⟩ = some (.int .u8 (nb v j))) :
    Calls Tryz.prog 174 #[.pointer (some ⟨gt, o, none⟩), .slice (some ⟨g, so, none⟩) n cap] w fun e w' => e = .returned (.bool true) ∧ TabPost w w' gt o := by
  obtain ⟨V, hV⟩ : ∃ V, V = w.alloc (.cells #[.int .u8 0, .int .u8 0, .int .u8 0, .int .u8 0, .int .u8 0, .int .u8 0, .int .u8 0, .int .u8 0] 324) := ⟨_, rfl⟩
  obtain ⟨U, hU⟩ : ∃ U, U = (w.alloc (.cells #[.int .u8 (nb v 0), .int .u8 (nb v 1), .int .u8 (nb v 2), .int .u8 (nb v 3), .int .u8 (nb v 4), .int .u8 (nb v 5), .int .u8 (nb v 6), .int .u8 (nb v 7)] 324)).drew := ⟨_, rfl⟩
  have hcp := copySum g (so + (n - 8)) 8 (cap - (n - 8)) v w hgl rfl hs
  rw [← hU, ← hV] at hcp
  have hBU : Below w.heap.size w U := hU ▸ ((Below.refl _ w).alloc (Nat.le_refl _) _).drew
  have hTU : TabOk U gt o := hT.block (hBU.block gt hgt)
  have hUn : U.heap[w.heap.size]? = some (.cells #[.int .u8 (nb v 0), .int .u8 (nb v 1), .int .u8 (nb v 2), .int .u8 (nb v 3), .int .u8 (nb v 4), .int .u8 (nb v 5), .int .u8 (nb v 6), .int .u8 (nb v 7)] 324) := hU ▸ heapNew _ _
  have hsU : U.heap.size = w.heap.size + 1 := by rw [hU]; simp
  have HOF := hide (tabOf gt o g so (n - 8) cap A U.drew (hTU.block rfl) (by omega) (by omega) (by omega) (by show gt < U.heap.size; omega) (by show g < U.heap.size; omega) hne (fun j hj => (World.cell?_of_block (w := w) (hBU.block g hgl)).trans (hc j (by omega))) (fun j => hb.getD j) v hv)
  have HSZ := size186 k w hk
  rw [← hn] at HSZ
  have HSZ := hide HSZ
  have m0 : ((n : Int) == 0) = false := by simp; omega
  have m1 : ¬ (12 : Int) < k := by omega
  have m8 : ¬ cap = n - 8 := by omega
  have m9 : ((n - 8 : Nat) : Int) ≤ (n : Int) := by omega
  have m3 : IntKind.i64.wrap ((n : Int) - 8) = ((n - 8 : Nat) : Int) := by rw [IntKind.wrap_i64]; omega
  have m4 : n - 8 ≤ n := by omega
  have m5 : n - (n - 8) = 8 := by omega
  have m6 : n - 8 ≤ cap := by omega
  have m7 : n - 8 = A.length := by omega
  have n0 : (0 : Int) < (n : Int) := by omega
  have HBU := hide hBU
  have HHV := hide hV
  have HHT := hide hT
  have HSU := hide hsU
  have HM7 := hide m7
  have HN := hide hn
  have HA := hide hA
  clear hT hTU hc hb hs hA hv hBU m7 hn hk hV hU
  go_enter Tryz.func174, Tryz.ntmps174
  go_wp2_with (first | (go_at_call 191; refine HSZ.out.mono ?_; rintro e w' ⟨rfl, rfl⟩))
  rw [← HHV.out]
  go_region
  go_wp2_with fail
  have d0 := cellB hUn
  have hse := sum_same v
  go_region_law (refine step_fn (by rfl) 192 callOf _ _ (by rfl) #[.pointer (some ⟨gt, o, none⟩), .slice (some ⟨g, so, none⟩) (n - 8) cap] (by simp only [List.map_toArray, List.map_cons, List.map_nil]; rfl) HOF.out ?_; rintro e w2 ⟨rfl, hP⟩; refine ⟨_, rfl, ?_⟩; have HP := hide hP; have hq := (hP.keep.block _ (ltB hUn) (fun e => by omega)).trans hUn; have d1 := cellB hq; clear hP)
  all_goals go_wp2
  all_goals go_ret
  all_goals (
    have hB := HBU.out
    have hP := HP.out
    refine ⟨rfl, hP.tab, fun j hj => ⟨(hP.cel j hj).1.trans (hB.cell (p := ⟨gt, j, none⟩) hgt), (hP.cel j hj).2.trans (hB.frozen (p := ⟨gt, j, none⟩) hgt)⟩, (Keep.of_below hB).then (T := fun c => c = gt) ⟨hP.keep.os, hP.keep.tape, hP.keep.output, hP.keep.size, hP.keep.block⟩ (fun _ _ h => h)⟩)
end Go.Proofs.YtlcnkcgmjnfbiaaGreatDoor

namespace Go.Proofs.YtlcnkcgmjnfbiaaGreatDoor
open Go.RowKit Go.Maps
variable [dK] [iK]

theorem guardCatch (p : Addr) (w : World) :
    CallsD Tryz.prog 147 #[.pointer (some p)] .returning w fun e u' w' => e = .returned (.tuple #[]) ∧ u' = .returning ∧ w' = w := by
  refine callsD_of_wpS Tryz.func147 rfl fun c₀ cs hu => ?_
  apply wpS_seq
  apply wpS_region
  simp [wpOpsS, go_sem, recoverD, hu, Tryz.ntmps147, Exit.thenS]
  refine wpS_cond (t := false) (by simp [Act.eval, Array.replicate]) ?_
  simp only [Bool.false_eq_true, if_false]
  refine wpS_of_wp (wp_skip ?_)
  cases c₀
  simp_all [bodyPostS, results, Tryz.results147]

set_option maxRecDepth 100000 in
set_option maxHeartbeats 1000000 in
/-- A job that answers nil, guarded. -/
theorem guard116 (f : FuncId) (cap : Array Value) (hcf : ∀ vs w, Sem.run Tryz.prog (callFunc f vs) w = .ok (.enter f vs) w) (w : World) (R : World → Prop)
    (hC : Calls Tryz.prog f cap (w.alloc (.cells #[.nilIface] 93)) fun e w' => e = .returned .nilIface ∧ w'.heap[w.heap.size]? = some (.cells #[.nilIface] 93) ∧ R w') :
    Calls Tryz.prog 118 #[.func (.func f) #[] cap] w fun e w' => e = .returned .nilIface ∧ ∃ w2, R w2 ∧ w2.heap[w.heap.size]? = some (.cells #[.nilIface] 93) ∧ w' = w2.setCell ⟨w.heap.size, 0, none⟩ .nilIface := by
  have hmf : ∀ (fn : Fn) (first cap : Array Value) (w : World), (Instr.makeFunc fn first cap).run Tryz.prog w = .ok (.func fn first cap) w := fun _ _ _ _ => rfl
  have HC := hide hC
  clear hC
  have hcf' := hcf cap
  have e0 : (#[] : Array Value) ++ cap = cap := by simp
  go_enter_defers Tryz.func118, Tryz.ntmps118
  go_wp2_with fail
  refine HC.out.mono ?_
  rintro e w2 ⟨rfl, hb, hR⟩
  have a1 := cellB hb
  have a2 := frozenB hb
  have HR := hide hR
  have HB := hide hb
  clear hR hb
  go_wp2
  refine leaves_cons (f := 147) (args := #[.pointer (some ⟨w.heap.size, 0, none⟩)]) (by simp) (by simp [go_sem]) ?_
  refine (guardCatch ⟨w.heap.size, 0, none⟩ _).mono ?_
  rintro e u' w'' ⟨rfl, rfl, rfl⟩
  simp [Leaves, settle, results, Tryz.results118, go_sem, a1]
  exact ⟨w2, HR.out, HB.out, rfl⟩

/-- What a keeping leaves. -/
def KpPost (w w' : World) (g db k : Nat) (turn time : Int) (es : Es) (fsD fsN : Fs) (F : Nat → Prop) : Prop :=
  ∃ (ks : List Ky) (a c : Nat) (F' : Nat → Prop), ks.Perm (es.map Prod.fst) ∧ StoAt w' g db (nextT turn) ∧ DskAt w' db k (putG (nextT turn % 2 == 1) (a, strOfNums (imgB (nextT turn) time es ks)) fsD) (putG (nextT turn % 2 == 1) (c, strOfNums (imgB (nextT turn) time es ks)) fsN) F' ∧ (∀ b, F' b → F b ∨ w.heap.size ≤ b) ∧ Keep (fun c => c = g ∨ F c) w w'
theorem KpPost.from {w V w' : World} {g db k : Nat} {turn time : Int} {es : Es} {fsD fsN : Fs} {F : Nat → Prop} (h : KpPost V w' g db k turn time es fsD fsN F) (hV : Keep (fun _ => False) w V) : KpPost w w' g db k turn time es fsD fsN F := by
  obtain ⟨ks, a, c, F', h1, h2, h3, h4, h5⟩ := h
  exact ⟨ks, a, c, F', h1, h2, h3, fun b hb => (h4 b hb).imp id (fun h => Nat.le_trans hV.size h), (hV.mono (fun _ h _ => h.elim)).trans h5⟩
/-- A store into a block that is new at w, and was there at V. -/
theorem KpPost.set {w V w' : World} {g db k : Nat} {turn time : Int} {es : Es} {fsD fsN : Fs} {F : Nat → Prop} (h : KpPost V w' g db k turn time es fsD fsN F) {x : Nat} (hx : x < V.heap.size) (hF : ¬ F x) (hg : x ≠ g) (hV : Keep (fun _ => False) w V) (hw : w.heap.size ≤ x) (j : Nat) (v : Value) : KpPost w (w'.setCell ⟨x, j, none⟩ v) g db k turn time es fsD fsN F := by
  obtain ⟨ks, a, c, F', h1, h2, h3, h4, h5⟩ := h
  refine ⟨ks, a, c, F', h1, h2.kept (heapSetO (fun e => hg e.symm) _ _), h3.kept (by rw [World.size_setCell]; exact Nat.le_refl _) (fun b hb => heapSetO (fun e => ?_) _ _), fun b hb => (h4 b hb).imp id (fun h => Nat.le_trans hV.size h), ((hV.mono (fun _ h _ => h.elim)).trans h5).set (Or.inr hw) _ _⟩
  subst e
  rcases h4 b hb with h | h
  · exact hF h
  · omega
theorem StoAt.seterr {w : World} {g db : Nat} {turn : Int} (h : StoAt w g db turn) : StoAt (w.setCell ⟨g, 261, none⟩ .nilIface) g db turn :=
  ⟨fun j hj => by rw [World.frozen?_setCell]; exact h.fro j hj, (World.cell?_setCell_other _ _ _ _ (by simp)).trans h.dsk, h.tab.set (Or.inr (by omega)) _, (World.cell?_setCell_other _ _ _ _ (by simp)).trans h.turn, World.cell?_setCell_same _ _ _ h.err⟩
theorem KpPost.err {w w' : World} {g db k : Nat} {turn time : Int} {es : Es} {fsD fsN : Fs} {F : Nat → Prop} (h : KpPost w w' g db k turn time es fsD fsN F) (hF : ¬ F g) (hg : g < w.heap.size) : KpPost w (w'.setCell ⟨g, 261, none⟩ .nilIface) g db k turn time es fsD fsN F := by
  obtain ⟨ks, a, c, F', h1, h2, h3, h4, h5⟩ := h
  refine ⟨ks, a, c, F', h1, h2.seterr, h3.kept (by rw [World.size_setCell]; exact Nat.le_refl _) (fun b hb => heapSetO (fun e => ?_) _ _), h4, h5.set (Or.inl (Or.inl rfl)) _ _⟩
  subst e
  rcases h4 b hb with h | h
  · exact hF h
  · omega

/-- What a keeping asks for. -/
structure KpPre (w : World) (g db b k : Nat) (turn time : Int) (es : Es) (fsD fsN : Fs) (F : Nat → Prop) : Prop where
  e : MapE w b es
  nd : (es.map Prod.fst).Nodup
  ok : ∀ p ∈ es, p.1.ok
  fit : ∀ p ∈ es, p.2.2.fit
  sz : es.length ≤ 12
  t0 : 0 ≤ turn
  t1 : turn ≤ 18446744073709551615
  m0 : 0 ≤ time
  m1 : time ≤ 18446744073709551615
  s : StoAt w g db turn
  d : DskAt w db (k + 2) fsD fsN F
  gF : ¬ F g
  bF : ¬ F b
  bg : b ≠ g
theorem KpPre.to {w V : World} {g db b k : Nat} {turn time : Int} {es : Es} {fsD fsN : Fs} {F : Nat → Prop} (h : KpPre w g db b k turn time es fsD fsN F) (hV : Keep (fun _ => False) w V) : KpPre V g db b k turn time es fsD fsN F :=
  ⟨MapG.kept h.e (hV.block b (MapG.lt h.e) (fun h => h)), h.nd, h.ok, h.fit, h.sz, h.t0, h.t1, h.m0, h.m1, h.s.kept (hV.block g h.s.lt (fun h => h)), h.d.kept hV.size (fun c hc => hV.block c (h.d.lt c hc) (fun h => h)), h.gF, h.bF, h.bg⟩

set_option maxRecDepth 100000 in
theorem keepjob172 (A B C g db b k : Nat) (turn time : Int) (es : Es) (fsD fsN : Fs) (F : Nat → Prop) (w : World) (h : KpPre w g db b k turn time es fsD fsN F)
    (hA : w.heap[A]? = some (.cells #[.pointer (some ⟨g, 0, none⟩)] 122)) (hB : w.heap[B]? = some (.cells #[.int .u64 time] 24)) (hC : w.heap[C]? = some (.cells #[.func (.func 170) #[.map (some b)] #[]] 302)) :
    Calls Tryz.prog 193 #[.pointer (some ⟨A, 0, none⟩), .pointer (some ⟨B, 0, none⟩), .pointer (some ⟨C, 0, none⟩)] w fun e w' => e = .returned .nilIface ∧ KpPost w w' g db k turn time es fsD fsN F := by
  have H := hide (stwrite161 g db b k es turn time fsD fsN F w h.e h.nd h.ok h.fit h.sz h.t0 h.t1 h.m0 h.m1 h.s h.d h.gF h.bF h.bg)
  have a1 := cellB hA
  have a2 := cellB hB
  have a3 := cellB hC
  clear h
  go_enter Tryz.func193, Tryz.ntmps193
  go_wp2_with fail
  refine H.out.mono ?_
  rintro e w2 ⟨rfl, hX⟩
  have HX := hide hX
  clear hX
  go_wp2
  go_ret
  exact ⟨rfl, HX.out⟩

theorem callJob (vs : Array Value) (w : World) : Sem.run Tryz.prog (callFunc 193 vs) w = .ok (.enter 193 vs) w := by simp [go_sem]

set_option maxRecDepth 100000 in
set_option maxHeartbeats 1000000 in
theorem ask159 (A B C g db b k : Nat) (turn time : Int) (es : Es) (fsD fsN : Fs) (F : Nat → Prop) (w : World) (h : KpPre w g db b k turn time es fsD fsN F)
    (hA : w.heap[A]? = some (.cells #[.pointer (some ⟨g, 0, none⟩)] 122)) (hB : w.heap[B]? = some (.cells #[.int .u64 time] 24)) (hC : w.heap[C]? = some (.cells #[.func (.func 170) #[.map (some b)] #[]] 302)) :
    Calls Tryz.prog 182 #[.pointer (some ⟨g, 0, none⟩), .func (.func 193) #[] #[.pointer (some ⟨A, 0, none⟩), .pointer (some ⟨B, 0, none⟩), .pointer (some ⟨C, 0, none⟩)]] w fun e w' => e = .returned .nilIface ∧ KpPost w w' g db k turn time es fsD fsN F := by
  have hgl := h.s.lt
  have hKV : Keep (fun _ => False) w (w.alloc (.cells #[.nilIface] 93)) := (Keep.refl _ w).alloc _
  have hFn : ¬ F w.heap.size := fun hF => by have := h.d.lt _ hF; omega
  have HG := hide (guard116 193 #[.pointer (some ⟨A, 0, none⟩), .pointer (some ⟨B, 0, none⟩), .pointer (some ⟨C, 0, none⟩)] callJob w (fun w2 => KpPost (w.alloc (.cells #[.nilIface] 93)) w2 g db k turn time es fsD fsN F) (by
    refine (keepjob172 A B C g db b k turn time es fsD fsN F _ (h.to hKV) (upB hA _) (upB hB _) (upB hC _)).mono ?_
    rintro e w2 ⟨rfl, hP⟩
    refine ⟨rfl, ?_, hP⟩
    obtain ⟨_, _, _, _, _, _, _, _, h5⟩ := hP
    exact (h5.block w.heap.size (by simp) (fun hh => hh.elim (fun e => by omega) hFn)).trans (heapNew _ _)))
  have a1 := h.s.err
  have HP := hide h
  clear h
  go_enter Tryz.func182, Tryz.ntmps182
  go_wp2_with fail
  refine HG.out.mono ?_
  rintro e w1 ⟨rfl, w2, hP, hb, hw1⟩
  have hP1 : KpPost w w1 g db k turn time es fsD fsN F := by
    rw [hw1]
    exact hP.set (by simp) hFn (by omega) hKV (Nat.le_refl _) _ _
  have hs1 : w1.cell? ⟨g, 261, none⟩ = some .nilIface := by
    obtain ⟨_, _, _, _, _, h2, _⟩ := hP1
    exact h2.err
  have hf1 : w1.frozen? ⟨g, 261, none⟩ = false := by
    obtain ⟨_, _, _, _, _, h2, _⟩ := hP1
    exact h2.fro 261 (by omega)
  have HP1 := hide hP1
  clear hP1 hP hb hw1 a1
  go_wp2
  go_ret
  exact ⟨rfl, HP1.out.err HP.out.gF hgl⟩

set_option maxRecDepth 100000 in
set_option maxHeartbeats 1000000 in
/-- Store.Keep over a disk that is well. -/
theorem keep154 (g db b k : Nat) (turn time : Int) (es : Es) (fsD fsN : Fs) (F : Nat → Prop) (w : World) (h : KpPre w g db b k turn time es fsD fsN F) :
    Calls Tryz.prog 178 #[.pointer (some ⟨g, 0, none⟩), .int .u64 time, .func (.func 170) #[.map (some b)] #[]] w fun e w' => e = .returned .nilIface ∧ KpPost w w' g db k turn time es fsD fsN F := by
  have hmf : ∀ (fn : Fn) (first cap : Array Value) (w : World), (Instr.makeFunc fn first cap).run Tryz.prog w = .ok (.func fn first cap) w := fun _ _ _ _ => rfl
  obtain ⟨V, hV⟩ : ∃ V, V = ((w.alloc (.cells #[.pointer (some ⟨g, 0, none⟩)] 122)).alloc (.cells #[.int .u64 time] 24)).alloc (.cells #[.func (.func 170) #[.map (some b)] #[]] 302) := ⟨_, rfl⟩
  have hA : V.heap[w.heap.size]? = some (.cells #[.pointer (some ⟨g, 0, none⟩)] 122) := hV ▸ upB (upB (heapNew _ _) _) _
  have hB : V.heap[w.heap.size + 1]? = some (.cells #[.int .u64 time] 24) := hV ▸ upB (heapN (by simp)) _
  have hC : V.heap[w.heap.size + 2]? = some (.cells #[.func (.func 170) #[.map (some b)] #[]] 302) := hV ▸ heapN (by simp)
  have hKV : Keep (fun _ => False) w V := hV ▸ (((Keep.refl _ w).alloc _).alloc _).alloc _
  have HA := hide (ask159 w.heap.size (w.heap.size + 1) (w.heap.size + 2) g db b k turn time es fsD fsN F V (h.to hKV) hA hB hC)
  have HKV := hide hKV
  have a1 := cellB hA
  clear h hKV
  go_enter Tryz.func178, Tryz.ntmps178
  go_upto_region 1 with fail
  rw [← hV]
  clear hV
  go_wp2_with fail
  refine HA.out.mono ?_
  rintro e w2 ⟨rfl, hX⟩
  have HX := hide (hX.from HKV.out)
  clear hX
  go_wp2
  go_ret
  exact ⟨rfl, HX.out⟩
end Go.Proofs.YtlcnkcgmjnfbiaaGreatDoor

namespace Go.Proofs.YtlcnkcgmjnfbiaaGreatDoor
open Go.RowKit Go.Maps
variable [dK] [iK]

/-- An image, as data. -/
structure Ig where
  turn : Int
  time : Int
  es : Es
  ks : List Ky
structure Ig.ok (i : Ig) : Prop where
  turn : 0 ≤ i.turn ∧ i.turn ≤ 18446744073709551615
  time : 0 ≤ i.time ∧ i.time ≤ 18446744073709551615
  len : i.ks.length ≤ 12
  rec_ : ∀ k ∈ i.ks, k.ok ∧ (heldOf i.es k).ok
def Ig.bytes (i : Ig) : List Int := imgB i.turn i.time i.es i.ks
theorem Ig.ok.byt {i : Ig} (h : i.ok) : Bytes i.bytes := by
  have hfit : ∀ k ∈ i.ks, k.ok ∧ (heldOf i.es k).fit := fun k hk => ⟨(h.rec_ k hk).1, ⟨by rcases (h.rec_ k hk).2.kd with h | h <;> omega, (h.rec_ k hk).2.x, (h.rec_ k hk).2.y, (h.rec_ k hk).2.lv, (h.rec_ k hk).2.wn⟩⟩
  intro b hb
  unfold Ig.bytes imgB at hb
  exact (List.mem_append.1 hb).elim (imgA_bytes i.turn i.time i.es i.ks h.len hfit b) (be8_bytes _ b)
theorem Ig.blen (i : Ig) : i.bytes.length = 25 + 41 * i.ks.length := by
  unfold Ig.bytes imgB
  rw [List.length_append, imgA_len]
  have : (be8 (sumM (imgA i.turn i.time i.es i.ks))).length = 8 := rfl
  omega

/-- What is reserved of a key: it covers what was let in, and lies no further ahead than the block. -/
structure Res (blk : Int) (st hd : Qt) : Prop where
  ok : hd.ok
  kd : hd.kd = st.kd
  x : hd.x = st.x
  y : hd.y = st.y
  wn : hd.wn = st.wn
  lo : st.lv ≤ hd.lv
  up : hd.lv ≤ st.lv + blk
theorem Res.same {blk : Int} {q : Qt} (h : q.ok) (hb : 0 ≤ blk) : Res blk q q := ⟨h, rfl, rfl, rfl, rfl, Int.le_refl _, by omega⟩
/-- What the files say of a ledger; the time that they have is not below D. -/
structure Dur (D time blk : Int) (es : Es) (turn : Int) (fs : Fs) : Prop where
  res : ∀ p ∈ es, Res blk p.2.1 p.2.2
  img : (fs = [] ∧ es = [] ∧ D ≤ 0) ∨ ∃ (tm : Int) (ks : List Ky) (a : Nat), ks.Perm (es.map Prod.fst) ∧ (0 ≤ tm ∧ D ≤ tm) ∧ tm ≤ time ∧ fndG (turn % 2 == 1) fs = some (a, strOfNums (imgB turn tm es ks)) ∧ ∀ p ∈ es, p.2.2.kd = 2 → p.2.2.wn ≤ tm / p.2.2.y
  old : ∀ p, fndG (!(turn % 2 == 1)) fs = some p → ∃ i : Ig, i.ok ∧ i.ks.Nodup ∧ nextT i.turn = turn ∧ p.2 = strOfNums i.bytes
theorem Dur.less {D D' time blk : Int} {es : Es} {turn : Int} {fs : Fs} (h : Dur D time blk es turn fs) (hd : D' ≤ D) : Dur D' time blk es turn fs :=
  ⟨h.res, h.img.imp (fun ⟨h1, h2, h3⟩ => ⟨h1, h2, by omega⟩) (fun ⟨tm, ks, a, h1, h2, h3, h4, h5⟩ => ⟨tm, ks, a, h1, ⟨h2.1, by omega⟩, h3, h4, h5⟩), h.old⟩
theorem Dur.pass {D time time' blk : Int} {es : Es} {turn : Int} {fs : Fs} (h : Dur D time blk es turn fs) (ht : time ≤ time') : Dur D time' blk es turn fs :=
  ⟨h.res, h.img.imp id (fun ⟨tm, ks, a, h1, h2, h3, h4, h5⟩ => ⟨tm, ks, a, h1, h2, by omega, h4, h5⟩), h.old⟩
/-- No window is reserved that is still to come. -/
theorem Dur.wnd {D time blk : Int} {es : Es} {turn : Int} {fs : Fs} (h : Dur D time blk es turn fs) : ∀ p ∈ es, p.2.2.kd = 2 → p.2.2.wn ≤ time / p.2.2.y := fun p hp hk => by
  rcases h.img with ⟨_, h2, _⟩ | ⟨tm, ks, a, _, _, h3, _, h5⟩
  · rw [h2] at hp; cases hp
  · refine Int.le_trans (h5 p hp hk) (Int.ediv_le_ediv ?_ h3)
    have := (h.res p hp).ok.kd
    rcases this with ⟨h, _⟩ | ⟨_, h⟩ <;> omega
theorem nextT_par (t : Int) : (nextT t % 2 == 1) = !(t % 2 == 1) := by
  unfold nextT
  have h : t % 2 = 0 ∨ t % 2 = 1 := by omega
  rcases h with h | h
  · have : (t + 1) % 18446744073709551616 % 2 = 1 := by omega
    rw [this, h]; rfl
  · have : (t + 1) % 18446744073709551616 % 2 = 0 := by omega
    rw [this, h]; rfl
theorem fndG_put_same {K V : Type} [DecidableEq K] (k : K) (v : V) (l : List (K × V)) : fndG k (putG k v l) = some v := by
  unfold putG
  split
  · exact fndG_upd_same (by assumption)
  · rename_i h
    rw [fndG_app, if_neg h, if_pos rfl]
theorem fndG_put_other {K V : Type} [DecidableEq K] {k k' : K} (v : V) (l : List (K × V)) (h : k' ≠ k) : fndG k' (putG k v l) = fndG k' l := by
  unfold putG
  split
  · exact fndG_upd_other h
  · rw [fndG_app]
    by_cases hs : (fndG k' l).isSome = true
    · rw [if_pos hs]
    · rw [if_neg hs, if_neg (fun e => h e.symm)]
      cases h2 : fndG k' l with
      | none => rfl
      | some x => rw [h2] at hs; exact absurd rfl hs
theorem recs_congr (es es' : Es) : ∀ (ks : List Ky), (∀ k ∈ ks, heldOf es k = heldOf es' k) → recs es ks = recs es' ks
  | [], _ => rfl
  | k :: r, h => by
    have ih := recs_congr es es' r (fun x hx => h x (List.mem_cons_of_mem _ hx))
    unfold recs at ih ⊢
    rw [List.flatMap_cons, List.flatMap_cons, ih, h k (by simp)]
theorem imgB_congr (turn time : Int) (es es' : Es) (ks : List Ky) (h : ∀ k ∈ ks, heldOf es k = heldOf es' k) : imgB turn time es ks = imgB turn time es' ks := by
  unfold imgB imgA
  rw [recs_congr es es' ks h]
/-- The image that stands there, as data. -/
theorem Dur.cur {D time blk : Int} {es : Es} {turn : Int} {fs : Fs} (h : Dur D time blk es turn fs) (ht : 0 ≤ turn ∧ turn ≤ 18446744073709551615) (hm : time ≤ 18446744073709551615) (nd : (es.map Prod.fst).Nodup) (key : ∀ p ∈ es, p.1.ok) (len : es.length ≤ 12) {p : Nat × ByteArray} (hp : fndG (turn % 2 == 1) fs = some p) : ∃ i : Ig, i.ok ∧ i.ks.Nodup ∧ i.turn = turn ∧ i.es = es ∧ i.ks.Perm (es.map Prod.fst) ∧ i.time ≤ time ∧ p.2 = strOfNums i.bytes ∧ (∀ p ∈ es, p.2.2.kd = 2 → p.2.2.wn ≤ i.time / p.2.2.y) ∧ D ≤ i.time := by
  rcases h.img with ⟨rfl, _⟩ | ⟨tm, ks, a, h1, h2, h3, h4, h5⟩
  · simp [fndG] at hp
  · rw [h4] at hp
    cases hp
    have hmem : ∀ k ∈ ks, ∃ q ∈ es, q.1 = k := fun k hk => by
      have := (h1.mem_iff).1 hk
      obtain ⟨q, hq, e⟩ := List.mem_map.1 this
      exact ⟨q, hq, e⟩
    refine ⟨⟨turn, tm, es, ks⟩, ⟨ht, ⟨h2.1, by show tm ≤ 18446744073709551615; omega⟩, by have := h1.length_eq; rw [List.length_map] at this; show ks.length ≤ 12; omega, fun k hk => ?_⟩, h1.nodup_iff.2 nd, rfl, rfl, h1, h3, rfl, h5, h2.2⟩
    obtain ⟨q, hq, rfl⟩ := hmem k hk
    refine ⟨key q hq, ?_⟩
    have : fndG q.1 es = some q.2 := fndG_of_mem nd hq
    show (heldOf es q.1).ok
    unfold heldOf
    rw [this]
    exact (h.res q hq).ok
/-- What the files say behind a keeping. -/
theorem Dur.keep {D time blk : Int} {es0 es : Es} {turn : Int} {fs : Fs} (h : Dur D time blk es0 turn fs) (ht : 0 ≤ turn ∧ turn ≤ 18446744073709551615) (hm : 0 ≤ time ∧ time ≤ 18446744073709551615) (nd : (es0.map Prod.fst).Nodup) (key : ∀ p ∈ es0, p.1.ok) (len : es0.length ≤ 12) (hr : ∀ p ∈ es, Res blk p.2.1 p.2.2) (hw : ∀ p ∈ es, p.2.2.kd = 2 → p.2.2.wn ≤ time / p.2.2.y) {ks : List Ky} (hp : ks.Perm (es.map Prod.fst)) (a : Nat) : Dur time time blk es (nextT turn) (putG (nextT turn % 2 == 1) (a, strOfNums (imgB (nextT turn) time es ks)) fs) := by
  refine ⟨hr, Or.inr ⟨time, ks, a, hp, ⟨hm.1, Int.le_refl _⟩, Int.le_refl _, fndG_put_same _ _ _, hw⟩, fun p hpp => ?_⟩
  have hne : (!(nextT turn % 2 == 1)) ≠ (nextT turn % 2 == 1) := by cases (nextT turn % 2 == 1) <;> simp
  rw [fndG_put_other _ _ hne, nextT_par, Bool.not_not] at hpp
  obtain ⟨i, i1, i2, i3, _, _, _, i4, _, _⟩ := h.cur ht hm.2 nd key len hpp
  exact ⟨i, i1, i2, by rw [i3], i4⟩
/-- What the files say when the older one went. -/
theorem Dur.swept {D time blk : Int} {es : Es} {turn : Int} {fs : Fs} (h : Dur D time blk es turn fs) (hnd : (fs.map Prod.fst).Nodup) (hne : fs ≠ [] ∨ es = []) : Dur D time blk es turn (delG (!(turn % 2 == 1)) fs) := by
  have ho : (turn % 2 == 1) ≠ (!(turn % 2 == 1)) := by cases (turn % 2 == 1) <;> simp
  refine ⟨h.res, ?_, fun p hp => ?_⟩
  · rcases h.img with ⟨rfl, h2⟩ | ⟨tm, ks, a, h1, h2, h3, h4, h5⟩
    · exact Or.inl ⟨rfl, h2⟩
    · exact Or.inr ⟨tm, ks, a, h1, h2, h3, by rw [fndG_del_other ho]; exact h4, h5⟩
  · rw [fndG_del_same hnd] at hp
    cases hp
end Go.Proofs.YtlcnkcgmjnfbiaaGreatDoor

namespace Go.Proofs.YtlcnkcgmjnfbiaaGreatDoor
open Go.RowKit Go.Maps
variable [dK] [iK]

theorem conEmpty (a : Option Addr) (c : Nat) (xv : Value) (w : World) : Calls Tryz.prog 149 #[.slice a 0 c, xv] w fun e w' => e = .returned (.bool false) ∧ w' = w :=
  AnyE.slices_Contains_empty (P := Tryz.prog) (ρ := Con.ren) Con.lays a c xv w

set_option maxRecDepth 100000 in
theorem hasours_none (a : Option Addr) (c : Nat) (w : World) : Calls Tryz.prog 148 #[.slice a 0 c] w fun e w' => e = .returned (.bool false) ∧ w' = w := by
  have HN0 := hide (name_any 0 w (by omega) (by omega))
  have HN1 := hide (name_any 1 w (by omega) (by omega))
  go_enter Tryz.func148, Tryz.ntmps148
  go_wp2
  refine wp_loop_rounds 3 ?_
  rw [rounds_succ]
  go_wp2_with fail
  refine HN0.out.mono ?_
  rintro e w' ⟨rfl, rfl⟩
  go_wp2_with fail
  refine (conEmpty _ _ _ _).mono ?_
  rintro e w' ⟨rfl, rfl⟩
  go_wp2_with fail
  rw [rounds_succ]
  go_wp2_with fail
  refine HN1.out.mono ?_
  rintro e w' ⟨rfl, rfl⟩
  go_wp2_with fail
  refine (conEmpty _ _ _ _).mono ?_
  rintro e w' ⟨rfl, rfl⟩
  go_wp2_with fail
  rw [rounds_succ]
  go_wp2
  go_ret
  exact ⟨rfl, rfl⟩

set_option maxRecDepth 100000 in
set_option maxHeartbeats 1000000 in
/-- The last image of a disk with no file. -/
theorem last118 (g db nb : Nat) (c0 c2 c3 c4 : Value) (w : World) (hg : w.cell? ⟨g, 0, none⟩ = some (.iface 80 (.pointer (some ⟨db, 0, none⟩)))) (hd : w.heap[db]? = some (.cells #[c0, .map (some nb), c2, c3, c4, .bool false] 84)) (hD : DirAt w nb []) :
    Calls Tryz.prog 120 #[.pointer (some ⟨g, 0, none⟩)] w fun e w' => e = .returned (.tuple #[.agg #[.int .u64 0, .int .u64 0, .slice none 0 0], .nilIface]) ∧ Below w.heap.size w w' := by
  obtain ⟨V, hV⟩ : ∃ V, V = w.alloc (.cells #[.int .u64 0, .int .u64 0, .slice none 0 0] 167) := ⟨_, rfl⟩
  have hgl := lt_cell hg
  have h0 : V.heap[w.heap.size]? = some (.cells #[.int .u64 0, .int .u64 0, .slice none 0 0] 167) := hV ▸ heapNew _ _
  have hgV : V.cell? ⟨g, 0, none⟩ = some (.iface 80 (.pointer (some ⟨db, 0, none⟩))) := by rw [hV, World.cell?_alloc_lt _ _ ⟨g, 0, none⟩ hgl]; exact hg
  have hdV : V.heap[db]? = _ := hV ▸ upB hd _
  have hDV : DirAt V nb [] := hD.kept (hV ▸ heapOld _ _ hD.map.lt) (fun p hp => by cases hp)
  have hB : Below w.heap.size w V := hV ▸ (Below.refl _ w).alloc (Nat.le_refl _) _
  have hmn := methodNames (.pointer (some ⟨db, 0, none⟩))
  have HNM := hide (names255 db nb c0 c2 c3 c4 [] V hdV hDV)
  have sV : V.heap.size = w.heap.size + 1 := by rw [hV]; simp
  have HSV := hide sV
  have HB := hide hB
  clear hD hDV hd hdV hB sV hg
  go_enter Tryz.func120, Tryz.ntmps120
  go_upto_region 1 with fail
  rw [← hV]
  clear hV
  go_wp2_with fail
  refine HNM.out.mono ?_
  rintro e w1 ⟨v, bs, rfl, hbs, _, hnm, hb1⟩
  have hb0 : bs = [] := by
    cases bs with
    | nil => rfl
    | cons x r => exact absurd ((hbs x).1 (by simp)) (by simp [fndG])
  subst hb0
  obtain ⟨a, c, rfl, _⟩ := hnm
  have h1 := (hb1.block w.heap.size (by have := HSV.out; omega)).trans h0
  have e1 := cellB h1
  have e2 := frozenB h1
  have HB1 := hide hb1
  clear hb1 hbs hgV
  go_wp2_with fail
  refine (hasours_none a c _).mono ?_
  rintro e w' ⟨rfl, rfl⟩
  go_wp2
  refine bodyPost_ret (v := .tuple #[.agg #[.int .u64 0, .int .u64 0, .slice none 0 0], .nilIface]) (by simp [results, Tryz.results120, go_sem, e1]) rfl ⟨rfl, ?_⟩
  have b2 : Below w.heap.size w w' := HB.out.trans (HB1.out.mono (by have := HSV.out; omega))
  exact ((b2.setCell (Nat.le_refl _) _).setCell (Nat.le_refl _) _).setCell (Nat.le_refl _) _

set_option maxRecDepth 100000 in
set_option maxHeartbeats 1000000 in
theorem openjob117 (A B g db nb : Nat) (c0 c2 c3 c4 : Value) (w : World) (hA : w.heap[A]? = some (.cells #[.pointer (some ⟨g, 0, none⟩)] 122)) (hB : w.heap[B]? = some (.cells #[.int .u64 0, .int .u64 0, .slice none 0 0] 167)) (hg : w.cell? ⟨g, 0, none⟩ = some (.iface 80 (.pointer (some ⟨db, 0, none⟩)))) (hd : w.heap[db]? = some (.cells #[c0, .map (some nb), c2, c3, c4, .bool false] 84)) (hD : DirAt w nb []) :
    Calls Tryz.prog 119 #[.pointer (some ⟨A, 0, none⟩), .pointer (some ⟨B, 0, none⟩)] w fun e w' => e = .returned .nilIface ∧ w'.heap[B]? = some (.cells #[.int .u64 0, .int .u64 0, .slice none 0 0] 167) ∧ Keep (fun c => c = B) w w' := by
  have HL := hide (last118 g db nb c0 c2 c3 c4 w hg hd hD)
  have a1 := cellB hA
  have lB := ltB hB
  clear hg hd hD
  go_enter Tryz.func119, Tryz.ntmps119
  go_wp2_with fail
  refine HL.out.mono ?_
  rintro e w1 ⟨rfl, hb1⟩
  have h1 := (hb1.block B lB).trans hB
  have e1 := cellB h1
  have e2 := frozenB h1
  have HB1 := hide hb1
  clear hb1 a1
  go_wp2
  go_ret
  refine ⟨rfl, by simpa using heapSet (heapSet (heapSet h1 0 (.int .u64 0)) 1 (.int .u64 0)) 2 (.slice none 0 0), ?_⟩
  exact Keep.set (S := fun c => c = B) (b := B) (Keep.set (S := fun c => c = B) (b := B) (Keep.set (S := fun c => c = B) (b := B) (Keep.of_below HB1.out) (Or.inl rfl) _ _) (Or.inl rfl) _ _) (Or.inl rfl) _ _

theorem callOpenJob (vs : Array Value) (w : World) : Sem.run Tryz.prog (callFunc 119 vs) w = .ok (.enter 119 vs) w := by simp [go_sem]
theorem callGuard (vs : Array Value) (w : World) : Sem.run Tryz.prog (callFunc 118 vs) w = .ok (.enter 118 vs) w := by simp [go_sem]
end Go.Proofs.YtlcnkcgmjnfbiaaGreatDoor

namespace Go.Proofs.YtlcnkcgmjnfbiaaGreatDoor
open Go.RowKit Go.Maps
variable [dK] [iK]

/-- What a ledger holds: its time, its count, the block, its keys, the turn, the files of its disk. -/
structure Led where
  time : Int
  adm : Int
  blk : Int
  es : Es
  turn : Int
  fsD : Fs
  fsN : Fs
structure Led.ok (c : Led) : Prop where
  time : 0 ≤ c.time ∧ c.time ≤ 18446744073709551615
  adm : 0 ≤ c.adm ∧ c.adm ≤ 18446744073709551615
  blk : 0 ≤ c.blk ∧ c.blk ≤ 18446744073709551615
  turn : 0 ≤ c.turn ∧ c.turn ≤ 18446744073709551615
  nd : (c.es.map Prod.fst).Nodup
  key : ∀ p ∈ c.es, p.1.ok
  qt : ∀ p ∈ c.es, p.2.1.ok
  fit : ∀ p ∈ c.es, p.2.2.fit
  len : c.es.length ≤ 12
  dur : Dur 0 c.time c.blk c.es c.turn c.fsD
/-- The files of a ledger have a time that is not below D. -/
def Led.has (c : Led) (D : Int) : Prop := Dur D c.time c.blk c.es c.turn c.fsD
/-- Block sb is a ledger's server that stands so; F: the blocks that are its own. -/
structure LedAt (w : World) (st : Int) (sb db k : Nat) (c : Led) (F : Nat → Prop) : Prop where
  mem : ∃ mp g FD, w.heap[sb]? = some (.cells #[.int .i32 st, .int .u32 0, .int .u64 c.time, .int .u64 c.blk, .map (some mp), .pointer (some ⟨g, 0, none⟩), .int .u64 c.adm] 139) ∧ MapE w mp c.es ∧ StoAt w g db c.turn ∧ DskAt w db k c.fsD c.fsN FD ∧ (∀ b, FD b → F b) ∧ F mp ∧ F g ∧ ¬ FD g ∧ ¬ FD mp ∧ mp ≠ g ∧ ¬ FD sb ∧ sb ≠ g ∧ sb ≠ mp
  own : F sb
  lt : ∀ b, F b → b < w.heap.size
theorem LedAt.kept {w w' : World} {st : Int} {sb db k : Nat} {c : Led} {F : Nat → Prop} (h : LedAt w st sb db k c F) (hs : w.heap.size ≤ w'.heap.size) (hb : ∀ b, F b → w'.heap[b]? = w.heap[b]?) : LedAt w' st sb db k c F := by
  obtain ⟨mp, g, FD, h1, h2, h3, h4, h5, h6, h7, h8⟩ := h.mem
  exact ⟨⟨mp, g, FD, (hb sb h.own).trans h1, MapG.kept h2 (hb mp h6), h3.kept (hb g h7), h4.kept hs (fun b hF => hb b (h5 b hF)), h5, h6, h7, h8⟩, h.own, fun b hF => Nat.lt_of_lt_of_le (h.lt b hF) hs⟩
theorem LedAt.below {w w' : World} {st : Int} {sb db k : Nat} {c : Led} {F : Nat → Prop} (h : LedAt w st sb db k c F) {B : Nat} (hb : Below B w w') (hB : w.heap.size ≤ B) : LedAt w' st sb db k c F :=
  h.kept hb.size fun b hF => hb.block b (Nat.lt_of_lt_of_le (h.lt b hF) hB)
theorem LedAt.drew {w : World} {st : Int} {sb db k : Nat} {c : Led} {F : Nat → Prop} (h : LedAt w st sb db k c F) : LedAt w.drew st sb db k c F := h.kept (Nat.le_refl _) fun _ _ => rfl
/-- What a call on a ledger leaves. -/
def OutL (w : World) (st : Int) (sb db k : Nat) (c : Led) (F : Nat → Prop) (w' : World) : Prop :=
  ∃ F', LedAt w' st sb db k c F' ∧ Keep F w w' ∧ ∀ b, F' b → F b ∨ w.heap.size ≤ b
theorem OutL.same {w w' : World} {st : Int} {sb db k : Nat} {c : Led} {F : Nat → Prop} (h : LedAt w st sb db k c F) (hb : Below w.heap.size w w') : OutL w st sb db k c F w' :=
  ⟨F, h.below hb (Nat.le_refl _), Keep.of_below hb, fun _ hF => Or.inl hF⟩
/-- As more is asked less is borne. -/
theorem DskAt.less {w : World} {db k k' : Nat} {fsD fsN : Fs} {F : Nat → Prop} (h : DskAt w db k fsD fsN F) (hk : k' ≤ k) : DskAt w db k' fsD fsN F := by
  obtain ⟨mb, nb, l, f, h1, h2, h3, h4, h5, h6⟩ := h.mem
  exact ⟨⟨mb, nb, l, f, h1, h2, h3, by omega, by omega, h6⟩, h.sD, h.sN, h.own, h.lt⟩
theorem LedAt.less {w : World} {st : Int} {sb db k k' : Nat} {c : Led} {F : Nat → Prop} (h : LedAt w st sb db k c F) (hk : k' ≤ k) : LedAt w st sb db k' c F := by
  obtain ⟨mp, g, FD, h1, h2, h3, h4, h5⟩ := h.mem
  exact ⟨⟨mp, g, FD, h1, h2, h3, h4.less hk, h5⟩, h.own, h.lt⟩

/-- The ledger behind a keeping. -/
def keptL (c : Led) (es : Es) (ks : List Ky) (a d : Nat) : Led := ⟨c.time, c.adm, c.blk, es, nextT c.turn, putG (nextT c.turn % 2 == 1) (a, strOfNums (imgB (nextT c.turn) c.time es ks)) c.fsD, putG (nextT c.turn % 2 == 1) (d, strOfNums (imgB (nextT c.turn) c.time es ks)) c.fsN⟩
def Kept (c c' : Led) (es : Es) : Prop := ∃ ks a d, ks.Perm (es.map Prod.fst) ∧ c' = keptL c es ks a d

theorem callKeep (vs : Array Value) (w : World) : Sem.run Tryz.prog (callFunc 178 vs) w = .ok (.enter 178 vs) w := by simp [go_sem]

set_option maxRecDepth 100000 in
set_option maxHeartbeats 4000000 in
/-- The keys are these as soon as they are durable. -/
theorem keep134 (st : Int) (sb db k mp' : Nat) (c : Led) (F : Nat → Prop) (es' : Es) (rc ra rb : Int) (w : World) (h : LedAt w st sb db (k + 2) c F) (hc : c.ok) (hE : MapE w mp' es') (hF : ¬ F mp') (hnd : (es'.map Prod.fst).Nodup) (hok : ∀ p ∈ es', p.1.ok) (hfit : ∀ p ∈ es', p.2.2.fit) (hsz : es'.length ≤ 12) :
    Calls Tryz.prog 162 #[.pointer (some ⟨sb, 2, none⟩), .map (some mp'), .agg #[.int .u8 rc, .int .u64 ra, .int .u64 rb]] w fun e w' => e = .returned (.agg #[.int .u8 rc, .int .u64 ra, .int .u64 rb]) ∧ ∃ c' F', Kept c c' es' ∧ LedAt w' st sb db k c' F' ∧ Keep F w w' ∧ ∀ b, F' b → F b ∨ w.heap.size ≤ b ∨ b = mp' := by
  obtain ⟨mp, g, FD, s1, s2, s3, s4, s5, s6, s7, s8, s9, s10, s11, s12, s13⟩ := h.mem
  obtain ⟨V, hV⟩ : ∃ V, V = (w.alloc (.cells #[.int .u8 rc, .int .u64 ra, .int .u64 rb] 51)).alloc (.cells #[.int .u8 0, .int .u64 0, .int .u64 0] 51) := ⟨_, rfl⟩
  have hKV : Keep (fun _ => False) w V := hV ▸ ((Keep.refl _ w).alloc _).alloc _
  have hr0 : V.heap[w.heap.size]? = some (.cells #[.int .u8 rc, .int .u64 ra, .int .u64 rb] 51) := hV ▸ upB (heapNew _ _) _
  have hr1 : V.heap[w.heap.size + 1]? = some (.cells #[.int .u8 0, .int .u64 0, .int .u64 0] 51) := hV ▸ heapN (by simp)
  have hsV : V.heap[sb]? = _ := (hKV.block sb (ltB s1) (fun h => h)).trans s1
  have hpre : KpPre w g db mp' k c.turn c.time es' c.fsD c.fsN FD := ⟨hE, hnd, hok, hfit, hsz, hc.turn.1, hc.turn.2, hc.time.1, hc.time.2, s3, s4, s8, fun hh => hF (s5 _ hh), fun e => hF (e ▸ s7)⟩
  have hmf : ∀ (fn : Fn) (first cap : Array Value) (w : World), (Instr.makeFunc fn first cap).run Tryz.prog w = .ok (.func fn first cap) w := fun _ _ _ _ => rfl
  have hlw := h.lt
  have HK := hide (keep154 g db mp' k c.turn c.time es' c.fsD c.fsN FD V.drew ((hpre.to hKV).to ⟨rfl, rfl, rfl, Nat.le_refl _, fun _ _ _ => rfl⟩))
  have HH := hide h
  have HKV := hide hKV
  have a1 := cellB hsV
  have HE := hide hE
  have hml := MapG.lt hE
  clear hpre h hKV hE
  go_enter Tryz.func162, Tryz.ntmps162
  go_upto_region 1 with fail
  rw [← hV]
  have HVV := hide hV
  clear hV
  go_cut [7] (fun s7 wx => ∃ (W : World), W = wx ∧ s7 = .nilIface ∧ KpPost V W g db k c.turn c.time es' c.fsD c.fsN FD)
  case first =>
    go_region_law (refine step_fn (by rfl) 178 callKeep _ _ (by rfl) #[.pointer (some ⟨g, 0, none⟩), .int .u64 c.time, .func (.func 170) #[.map (some mp')] #[]] (by simp only [List.map_toArray, List.map_cons, List.map_nil]; rfl) HK.out ?_; rintro e w2 ⟨rfl, hX⟩; refine ⟨_, rfl, ?_⟩; have HX := hide hX; clear hX)
    all_goals (go_wp2_with fail; go_meet)
    all_goals exact ⟨w2, rfl, rfl, HX.out.from (w := V) ⟨rfl, rfl, rfl, Nat.le_refl _, fun _ _ _ => rfl⟩⟩
  case rest =>
    obtain ⟨w2, rfl, rfl, ks, a, d, F', p1, p2, p3, p4, p5⟩ := hcut
    have sV : V.heap.size = w.heap.size + 2 := by rw [HVV.out]; simp
    have ls := ltB s1
    have hkF : ∀ x, x < V.heap.size → ¬ (x = g ∨ FD x) → w2.heap[x]? = V.heap[x]? := fun x hx hn => p5.block x hx hn
    have hs2 : w2.heap[sb]? = _ := (hkF sb (ltB hsV) (fun h => h.elim s12 s11)).trans hsV
    have lg := hlw g s7
    have hq0 := (hkF w.heap.size (by omega) (fun h => h.elim (fun e => by omega) (fun e => by have := hlw _ (s5 _ e); omega))).trans hr0
    have hq1 := (hkF (w.heap.size + 1) (by omega) (fun h => h.elim (fun e => by omega) (fun e => by have := hlw _ (s5 _ e); omega))).trans hr1
    have c1 := cellB hs2
    have c2 := frozenB hs2
    have d1 := cellB hq0
    have e1 := cellB hq1
    have e2 := frozenB hq1
    have HPP := hide (And.intro p1 (And.intro p2 (And.intro p3 (And.intro p4 p5))))
    have n1 : ¬ w.heap.size = sb := by omega
    have n2 : ¬ sb = w.heap.size := by omega
    have n3 : ¬ w.heap.size + 1 = sb := by omega
    have n4 : ¬ sb = w.heap.size + 1 := by omega
    clear p1 p2 p3 p4 p5 a1 hkF
    go_wp2
    obtain ⟨p1, p2, p3, p4, p5⟩ := HPP.out
    have hmp1 : mp' ≠ sb := MapG.ne HE.out s1
    have hmp2 : mp' ≠ g := fun e => hF (e ▸ s7)
    have hmp3 : ¬ FD mp' := fun e => hF (s5 _ e)
    have hF'g : ¬ F' g := fun e => (p4 g e).elim s8 (fun e => by omega)
    have hF'm : ¬ F' mp' := fun e => (p4 mp' e).elim hmp3 (fun e => by omega)
    have hF's : ¬ F' sb := fun e => (p4 sb e).elim s11 (fun e => by omega)
    have hF'r : ¬ F' (w.heap.size + 1) := fun e => (p4 _ e).elim (fun e => by have := hlw _ (s5 _ e); omega) (fun e => by omega)
    have sz2 := p5.size
    obtain ⟨w3, hw3⟩ : ∃ w3, w3 = (((w2.setCell ⟨sb, 4, none⟩ (.map (some mp'))).setCell ⟨w.heap.size + 1, 0, none⟩ (.int .u8 rc)).setCell ⟨w.heap.size + 1, 1, none⟩ (.int .u64 ra)).setCell ⟨w.heap.size + 1, 2, none⟩ (.int .u64 rb) := ⟨_, rfl⟩
    have hX : ∀ x, x ≠ sb → x ≠ w.heap.size + 1 → w3.heap[x]? = w2.heap[x]? := fun x h1 h2 => by rw [hw3, heapSetO h2, heapSetO h2, heapSetO h2, heapSetO h1]
    have hsz3 : w3.heap.size = w2.heap.size := by rw [hw3]; simp
    refine bodyPost_ret (v := .agg #[.int .u8 rc, .int .u64 ra, .int .u64 rb]) (by simp [results, Tryz.results162, go_sem, e1]) rfl ⟨rfl, ?_⟩
    rw [← hw3]
    refine ⟨keptL c es' ks a d, fun x => x = sb ∨ x = mp' ∨ x = g ∨ F' x, ⟨ks, a, d, p1, rfl⟩, ⟨⟨mp', g, F', ?_, ?_, p2.kept (hX g (fun e => s12 e.symm) (by omega)), p3.kept (by omega) (fun x hx => hX x (fun e => hF's (e ▸ hx)) (fun e => hF'r (e ▸ hx))), fun x hx => Or.inr (Or.inr (Or.inr hx)), Or.inr (Or.inl rfl), Or.inr (Or.inr (Or.inl rfl)), hF'g, hF'm, hmp2, hF's, s12, fun e => hmp1 e.symm⟩, Or.inl rfl, fun x hx => ?_⟩, ?_, fun x hx => ?_⟩
    · rw [hw3, heapSetO n4, heapSetO n4, heapSetO n4]
      show (w2.setCell ⟨sb, 4, none⟩ (.map (some mp'))).heap[sb]? = some (.cells #[.int .i32 st, .int .u32 0, .int .u64 c.time, .int .u64 c.blk, .map (some mp'), .pointer (some ⟨g, 0, none⟩), .int .u64 c.adm] 139)
      simpa using heapSet hs2 4 (.map (some mp'))
    · exact MapG.kept HE.out (((hX mp' hmp1 (by omega)).trans (p5.block mp' (by omega) (fun h => h.elim hmp2 hmp3))).trans (HKV.out.block mp' hml (fun h => h)))
    · rw [hsz3]
      rcases hx with h | h | h | h
      · rw [h]; omega
      · rw [h]; omega
      · rw [h]; omega
      · exact p3.lt x h
    · have k0 : Keep F w w2 := (HKV.out.mono (fun _ h _ => h.elim)).then p5 (fun i hi h => h.elim (fun e => e ▸ s7) (s5 i))
      rw [hw3]
      exact (((k0.set (Or.inl HH.out.own) _ _).set (Or.inr (by omega)) _ _).set (Or.inr (by omega)) _ _).set (Or.inr (by omega)) _ _
    · rcases hx with h | h | h | h
      · exact Or.inl (h ▸ HH.out.own)
      · exact Or.inr (Or.inr h)
      · exact Or.inl (h ▸ s7)
      · rcases p4 x h with h | h
        · exact Or.inl (s5 x h)
        · exact Or.inr (Or.inl (by omega))
end Go.Proofs.YtlcnkcgmjnfbiaaGreatDoor

namespace Go.Proofs.YtlcnkcgmjnfbiaaGreatDoor
open Go.RowKit Go.Maps
variable [dK] [iK]

theorem aheadM_res (q : Qt) (blk : Int) (hq : q.ok) (hb : 0 ≤ blk) (hle : q.kd ≠ 1 → q.lv ≤ q.x) : Res blk q (aheadM q blk) := by
  have hk := aheadM_ok q blk hq hb
  have hlv := hq.lv
  have hxx := hq.x
  have e : q.lv ≤ orNever (q.lv + blk) ∧ orNever (q.lv + blk) ≤ q.lv + blk := by unfold orNever; split <;> omega
  refine ⟨hk, ?_, ?_, ?_, ?_, ?_, ?_⟩ <;> unfold aheadM <;> split <;> first | rfl | skip
  · exact e.1
  · rename_i hkd
    have := hle hkd
    show q.lv ≤ if orNever (q.lv + blk) < q.x then orNever (q.lv + blk) else q.x
    split <;> omega
  · exact e.2
  · show (if orNever (q.lv + blk) < q.x then orNever (q.lv + blk) else q.x) ≤ q.lv + blk
    split <;> omega
/-- What is let in turns a quota so. -/
theorem admQ_facts (z : Qt) (now n : Int) (hz : z.ok) (hn : 0 ≤ n) (h2 : (admQ z now n).2.c = 2) : (admQ z now n).1.kd = z.kd ∧ (admQ z now n).1.x = z.x ∧ (admQ z now n).1.y = z.y ∧ ((admQ z now n).1.kd ≠ 1 → (admQ z now n).1.lv ≤ (admQ z now n).1.x) ∧ ((admQ z now n).1.wn = z.wn → z.lv ≤ (admQ z now n).1.lv) ∧ (z.kd ≠ 1 → (admQ z now n).1.wn = now / z.y) := by
  have hx := hz.x
  unfold admQ at h2 ⊢
  by_cases hk : z.kd = 1
  · rw [if_pos hk] at h2 ⊢
    unfold admS at h2 ⊢
    split at h2
    · rename_i h0
      rw [if_pos h0]
      exact ⟨rfl, rfl, rfl, fun h => absurd hk h, fun _ => Int.le_refl _, fun h => absurd hk h⟩
    · rename_i h0
      rw [if_neg h0]
      split at h2
      · simp at h2
      · rename_i h1
        rw [if_neg h1]
        split at h2
        · simp at h2
        · rename_i h3
          rw [if_neg h3]
          split at h2
          · simp at h2
          · rename_i h4
            rw [if_neg h4]
            refine ⟨rfl, rfl, rfl, fun h => absurd hk h, fun _ => ?_, fun h => absurd hk h⟩
            show z.lv ≤ startM z now + n * z.x
            have h5 : z.lv ≤ startM z now := by unfold startM; split <;> omega
            have h6 : 0 ≤ n * z.x := Int.mul_nonneg hn hx.1
            omega
  · rw [if_neg hk] at h2 ⊢
    have hT : (turnM z now).kd = z.kd ∧ (turnM z now).x = z.x ∧ (turnM z now).y = z.y ∧ ((turnM z now).wn = z.wn → (turnM z now).lv = z.lv) ∧ (turnM z now).wn = now / z.y := by
      unfold turnM
      rw [if_neg hk]
      split
      · rename_i h
        exact ⟨rfl, rfl, rfl, fun _ => rfl, h.symm⟩
      · rename_i h
        exact ⟨rfl, rfl, rfl, fun e => absurd e h, rfl⟩
    unfold admW at h2 ⊢
    split at h2
    · rename_i h0
      rw [if_pos h0]
      refine ⟨hT.1, hT.2.1, hT.2.2.1, fun _ => h0, fun e => ?_, fun _ => hT.2.2.2.2⟩
      have := hT.2.2.2.1 e
      show z.lv ≤ (turnM z now).lv + n
      omega
    · split at h2 <;> simp at h2
end Go.Proofs.YtlcnkcgmjnfbiaaGreatDoor

namespace Go.Proofs.YtlcnkcgmjnfbiaaGreatDoor
open Go.RowKit Go.Maps
variable [dK] [iK]

/-- What was let in: when, and how many. -/
abbrev Lt := List (Int × Int)
def sumN : Lt → Int
  | [] => 0
  | p :: r => p.2 + sumN r
/-- What was let in within a window. -/
def sumW (y w : Int) : Lt → Int
  | [] => 0
  | p :: r => (if p.1 / y = w then p.2 else 0) + sumW y w r
theorem sumN_app : ∀ (a b : Lt), sumN (a ++ b) = sumN a + sumN b
  | [], b => by simp [sumN]
  | p :: r, b => by simp only [List.cons_append, sumN]; rw [sumN_app r b]; omega
theorem sumW_app (y w : Int) : ∀ (a b : Lt), sumW y w (a ++ b) = sumW y w a + sumW y w b
  | [], b => by simp [sumW]
  | p :: r, b => by simp only [List.cons_append, sumW]; rw [sumW_app y w r b]; omega
theorem sumN_pos : ∀ (l : Lt), (∀ p ∈ l, 0 ≤ p.2) → 0 ≤ sumN l
  | [], _ => by simp [sumN]
  | p :: r, h => by
    have h1 := h p (by simp)
    have h2 := sumN_pos r (fun q hq => h q (by simp [hq]))
    simp only [sumN]
    omega
theorem sumW_pos (y w : Int) : ∀ (l : Lt), (∀ p ∈ l, 0 ≤ p.2) → 0 ≤ sumW y w l
  | [], _ => by simp [sumW]
  | p :: r, h => by
    have h1 := h p (by simp)
    have h2 := sumW_pos y w r (fun q hq => h q (by simp [hq]))
    simp only [sumW]
    split <;> omega
theorem sumW_drop (y w : Int) (l : Lt) (h : ∀ p ∈ l, 0 ≤ p.2) (i : Nat) : sumW y w (l.drop i) ≤ sumW y w l := by
  have e : sumW y w l = sumW y w (l.take i) + sumW y w (l.drop i) := by rw [← sumW_app, List.take_append_drop]
  have := sumW_pos y w (l.take i) (fun p hp => h p (List.mem_of_mem_take hp))
  omega

/-- How a key stands that let these in. -/
structure Bnd (kd x y : Int) (l : Lt) (T : Int) (z : Qt) : Prop where
  ok : z.ok
  ekd : z.kd = kd
  ex : z.x = x
  ey : z.y = y
  pos : ∀ p ∈ l, 0 < p.2
  wlo : kd = 2 → z.wn ≤ T / y
  wlv : kd = 2 → sumW y z.wn l ≤ z.lv
  wx : kd = 2 → ∀ w, sumW y w l ≤ x
  wup : kd = 2 → ∀ w, z.wn < w → sumW y w l = 0
  slo : kd = 1 → ∀ i, i < l.length → (l.getD i (0, 0)).1 + x * sumN (l.drop i) ≤ z.lv
  sx : kd = 1 → ∀ i k, i ≤ k → k < l.length → x * sumN ((l.drop i).take (k + 1 - i)) ≤ (l.getD k (0, 0)).1 - (l.getD i (0, 0)).1 + y + x
theorem Bnd.start {kd x y : Int} (h : (⟨kd, x, y, 0, 0⟩ : Qt).ok) (hx : 0 ≤ x) (T : Int) (hT : 0 ≤ T) (hy : kd = 2 → 0 < y) : Bnd kd x y [] T ⟨kd, x, y, 0, 0⟩ := by
  refine ⟨h, rfl, rfl, rfl, fun p hp => (by cases hp), fun hk => ?_, fun _ => by simp [sumW], fun _ w => by simpa [sumW] using hx, fun _ w _ => by simp [sumW], fun _ i hi => by simp at hi, fun _ i k _ hk => by simp at hk⟩
  exact Int.ediv_nonneg hT (by have := hy hk; omega)
/-- Time goes on. -/
theorem Bnd.pass {kd x y : Int} {l : Lt} {T T' : Int} {z : Qt} (h : Bnd kd x y l T z) (ht : T ≤ T') (hy : kd = 2 → 0 < y) : Bnd kd x y l T' z :=
  ⟨h.ok, h.ekd, h.ex, h.ey, h.pos, fun hk => Int.le_trans (h.wlo hk) (Int.ediv_le_ediv (hy hk) ht), h.wlv, h.wx, h.wup, h.slo, h.sx⟩
/-- The power fails. -/
theorem Bnd.lose {kd x y blk : Int} {l : Lt} {T T' : Int} {z hd : Qt} (h : Bnd kd x y l T z) (hr : Res blk z hd) (hw : hd.kd = 2 → hd.wn ≤ T' / hd.y) (_hb : 0 ≤ blk) : Bnd kd x y l T' hd := by
  have hlo := hr.lo
  refine ⟨hr.ok, hr.kd.trans h.ekd, hr.x.trans h.ex, hr.y.trans h.ey, h.pos, fun hk => ?_, fun hk => ?_, h.wx, fun hk w hw' => ?_, fun hk i hi => Int.le_trans (h.slo hk i hi) hlo, h.sx⟩
  · have e : hd.y = y := hr.y.trans h.ey
    have := hw ((hr.kd.trans h.ekd).trans hk)
    rw [e] at this
    exact this
  · rw [hr.wn]
    exact Int.le_trans (h.wlv hk) hlo
  · exact h.wup hk w (by rw [hr.wn] at hw'; exact hw')
/-- Something is let in. -/
theorem Bnd.adm_ {kd x y : Int} {l : Lt} {T n : Int} {z : Qt} (h : Bnd kd x y l T z) (hT : 0 ≤ T ∧ T ≤ 18446744073709551615) (hn : 0 < n) (h2 : (admQ z T n).2.c = 2) : Bnd kd x y (l ++ [(T, n)]) T (admQ z T n).1 := by
  have hf := admQ_facts z T n h.ok (by omega) h2
  obtain ⟨f1, f2, f3, f4, f5, f6⟩ := hf
  have hok := (admQ_ok z T n h.ok hT.1 hT.2 (by omega)).1
  have hpos : ∀ p ∈ l ++ [(T, n)], 0 < p.2 := fun p hp => by
    rcases List.mem_append.1 hp with h' | h'
    · exact h.pos p h'
    · rw [List.mem_singleton.1 h']; exact hn
  have hkd : (admQ z T n).1.kd = kd := f1.trans h.ekd
  by_cases hk : kd = 1
  · have hz1 : z.kd = 1 := h.ekd.trans hk
    have hk2 : kd ≠ 2 := by omega
    have hx0 := h.ok.x.1
    have hnz : ¬ n = 0 := by omega
    obtain ⟨st, hst⟩ : ∃ st, st = startM z T := ⟨_, rfl⟩
    have s1 : z.lv ≤ st ∧ T ≤ st := by rw [hst]; unfold startM; split <;> omega
    have hlv : (admQ z T n).1.lv = st + n * x ∧ st + (n - 1) * x ≤ T + y := by
      rw [hst, ← h.ex, ← h.ey]
      unfold admQ at h2 ⊢
      rw [if_pos hz1] at h2 ⊢
      unfold admS at h2 ⊢
      rw [if_neg hnz] at h2 ⊢
      split at h2
      · simp at h2
      · rename_i g1
        rw [if_neg g1]
        split at h2
        · simp at h2
        · rename_i g2
          rw [if_neg g2]
          split at h2
          · simp at h2
          · rename_i g3
            rw [if_neg g3]
            refine ⟨rfl, ?_⟩
            have : orNever (T + z.y) ≤ T + z.y := by unfold orNever; split <;> omega
            omega
    have hnx : n * x = (n - 1) * x + x := by rw [Int.sub_mul]; omega
    have hxm : x * n = n * x := Int.mul_comm _ _
    have hlast : ∀ i, i < (l ++ [(T, n)]).length → ((l ++ [(T, n)]).getD i (0, 0)).1 + x * sumN ((l ++ [(T, n)]).drop i) ≤ st + n * x := fun i hi => by
      rw [List.length_append] at hi
      by_cases hil : i < l.length
      · have h1 := h.slo hk i hil
        have e1 : (l ++ [(T, n)]).getD i (0, 0) = l.getD i (0, 0) := by simp [List.getD, List.getElem?_append_left hil]
        have e2 : (l ++ [(T, n)]).drop i = l.drop i ++ [(T, n)] := List.drop_append_of_le_length (by omega)
        rw [e1, e2, sumN_app, Int.mul_add]
        show _ + (_ + x * (n + 0)) ≤ _
        rw [Int.add_zero]
        omega
      · have e : i = l.length := by simp at hi; omega
        subst e
        have e1 : (l ++ [(T, n)]).getD l.length (0, 0) = (T, n) := by simp [List.getD]
        have e2 : (l ++ [(T, n)]).drop l.length = [(T, n)] := by simp
        rw [e1, e2]
        show T + x * (n + 0) ≤ _
        rw [Int.add_zero]
        omega
    refine ⟨hok, hkd, f2.trans h.ex, f3.trans h.ey, hpos, fun h' => absurd h' hk2, fun h' => absurd h' hk2, fun h' => absurd h' hk2, fun h' => absurd h' hk2, fun _ i hi => by rw [hlv.1]; exact hlast i hi, fun _ i k hik hkl => ?_⟩
    rw [List.length_append] at hkl
    by_cases hkl' : k < l.length
    · have h1 := h.sx hk i k hik hkl'
      have e1 : (l ++ [(T, n)]).getD i (0, 0) = l.getD i (0, 0) := by simp [List.getD, List.getElem?_append_left (show i < l.length by omega)]
      have e3 : (l ++ [(T, n)]).getD k (0, 0) = l.getD k (0, 0) := by simp [List.getD, List.getElem?_append_left hkl']
      have e2 : ((l ++ [(T, n)]).drop i).take (k + 1 - i) = (l.drop i).take (k + 1 - i) := by
        rw [List.drop_append_of_le_length (by omega), List.take_append_of_le_length (by simp; omega)]
      rw [e1, e2, e3]
      exact h1
    · have e : k = l.length := by simp at hkl; omega
      subst e
      have h1 := hlast i (by rw [List.length_append]; simp; omega)
      have e3 : (l ++ [(T, n)]).getD l.length (0, 0) = (T, n) := by simp [List.getD]
      have e2 : ((l ++ [(T, n)]).drop i).take (l.length + 1 - i) = (l ++ [(T, n)]).drop i := List.take_of_length_le (by simp)
      rw [e3, e2]
      have := hlv.2
      show x * sumN ((l ++ [(T, n)]).drop i) ≤ T - _ + y + x
      omega
  · have hk2 : z.kd ≠ 1 := by rw [h.ekd]; exact hk
    have hwn := f6 hk2
    rw [h.ey] at hwn
    have hkk : ∀ p : Prop, (kd = 2 → p) → kd = 2 → p := fun _ h => h
    have hlvx := f4 (by rw [f1]; exact hk2)
    have hlv : (admQ z T n).1.lv = (turnM z T).lv + n := by
      unfold admQ at h2 ⊢
      rw [if_neg hk2] at h2 ⊢
      unfold admW at h2 ⊢
      split at h2
      · rename_i g
        rw [if_pos g]
      · split at h2 <;> simp at h2
    have hsw : ∀ w, sumW y w (l ++ [(T, n)]) = sumW y w l + if T / y = w then n else 0 := fun w => by
      rw [sumW_app]
      simp only [sumW]
      omega
    have hS : kd = 2 → sumW y (T / y) l ≤ (turnM z T).lv := fun h' => by
      unfold turnM
      rw [if_neg hk2, h.ey]
      split
      · rename_i g
        rw [g]
        exact h.wlv h'
      · rename_i g
        have := h.wlo h'
        rw [h.wup h' (T / y) (by omega)]
        exact Int.le_refl _
    have hlv2 : kd = 2 → sumW y (T / y) (l ++ [(T, n)]) ≤ (admQ z T n).1.lv := fun h' => by
      have := hS h'
      rw [hsw, if_pos rfl, hlv]
      omega
    refine ⟨hok, hkd, f2.trans h.ex, f3.trans h.ey, hpos, fun h' => by rw [hwn]; exact Int.le_refl _, fun h' => by rw [hwn]; exact hlv2 h', fun h' w => ?_, fun h' w hw => ?_, fun h' => absurd h' hk, fun h' => absurd h' hk⟩
    · by_cases e : T / y = w
      · subst e
        have h1 := hlv2 h'
        rw [f2, h.ex] at hlvx
        omega
      · rw [hsw, if_neg e]
        have := h.wx h' w
        omega
    · rw [hwn] at hw
      have := h.wlo h'
      rw [hsw, if_neg (by omega), h.wup h' w (by omega)]
      rfl
end Go.Proofs.YtlcnkcgmjnfbiaaGreatDoor

namespace Go.Proofs.YtlcnkcgmjnfbiaaGreatDoor
open Go.RowKit Go.Maps
variable [dK] [iK]

def qClk : Rq := ⟨6, 0, 0, 0, 0, 0, 0, 0, 0, 0, 0, 0, 0⟩
theorem reads_clk : Reads qClk := by
  intro t
  have e : Rq.enc qClk = [1, 6] := rfl
  have eE : rdErr (Rq.enc qClk ++ t) = 0 := by
    rw [e]; simp [rdErr, reqLen]; omega
  have eQ := rdQ_5 (Rq.enc qClk ++ t) eE (by rw [e]; exact Or.inr rfl)
  refine ⟨eE, ?_, ?_⟩
  · unfold rdN; rw [if_pos eE, e]; simp
  · rw [eQ, e]; rfl
theorem do_clk (L : Ld) : doM L qClk = (L, ⟨1, L.time, 0⟩) := by
  unfold doM qClk
  rw [if_neg (by simp), if_neg (by simp), if_neg (by simp), if_neg (by simp), if_pos rfl]
/-- What a ledger with that key says to an Admit, and what time it has then. -/
theorem play_reckon (T A at_ n : Int) (z : Qt) (hn : 0 ≤ n ∧ n ≤ 18446744073709551615) :
    feedM ⟨T, A, [(kK, z)]⟩ ⟨[], false⟩ at_ (encQs [qAdm n, qClk]) = (⟨if T < at_ then at_ else T, if (admM z (if T < at_ then at_ else T) n).2.c = 2 then (A + n) % 18446744073709551616 else A, [(kK, (admM z (if T < at_ then at_ else T) n).1)]⟩, ⟨[], false⟩, [(admM z (if T < at_ then at_ else T) n).2, ⟨1, if T < at_ then at_ else T, 0⟩]) := by
  have e : encQs [qAdm n, qClk] = (qAdm n).enc ++ (qClk.enc ++ []) := by simp [encQs]
  have hp : passM ⟨T, A, [(kK, z)]⟩ at_ = ⟨if T < at_ then at_ else T, A, [(kK, z)]⟩ := rfl
  rw [feedM_good _ _ _ _ rfl, List.nil_append, e, hp, runL_enc _ (qAdm n) (reads_adm 107 n hn), do_adm, runL_enc _ qClk reads_clk, do_clk, runL_nil]
  rfl
/-- A ledger that has one key, and no other. -/
theorem one_key {L : Ld} (hL : L.ok) {h : Qt} (h1 : fnd kK L.ks = some h) (h2 : ∀ k, k ≠ kK → fnd k L.ks = none) : L.ks = [(kK, h)] := by
  have hall : ∀ p ∈ L.ks, p.1 = kK := fun p hp => by
    by_cases e : p.1 = kK
    · exact e
    · have := h2 p.1 e
      have h3 : ∀ (l : List (Ky × Qt)), p ∈ l → fnd p.1 l ≠ none := fun l => by
        induction l with
        | nil => intro h; cases h
        | cons a r ih =>
          intro hm
          unfold fnd
          by_cases e' : a.1 = p.1
          · rw [if_pos e']; simp
          · rw [if_neg e']
            rcases List.mem_cons.1 hm with h' | h'
            · rw [h'] at e'; exact absurd rfl e'
            · exact ih h'
      exact absurd this (h3 _ hp)
  have hnd := hL.nd
  match hk : L.ks with
  | [] => rw [hk] at h1; simp [fnd] at h1
  | [(k, q)] =>
    have e := hall (k, q) (by rw [hk]; simp)
    simp at e
    subst e
    rw [hk] at h1
    simp [fnd] at h1
    rw [h1]
  | p :: p' :: r =>
    have e1 := hall p (by rw [hk]; simp)
    have e2 := hall p' (by rw [hk]; simp)
    rw [hk] at hnd
    simp [e1, e2] at hnd
/-- What is let in at an ask, or nothing. -/
def letM (z : Qt) (T n : Int) : Lt := if (admM z T n).2.c = 2 ∧ 0 < n then [(T, n)] else []
theorem Bnd.ask {kd x y : Int} {l : Lt} {T n : Int} {z : Qt} (h : Bnd kd x y l T z) (hT : 0 ≤ T ∧ T ≤ 18446744073709551615) (hn : 0 ≤ n) : Bnd kd x y (l ++ letM z T n) T (admM z T n).1 := by
  unfold letM
  by_cases h2 : (admQ z T n).2.c = 2 ∧ n ≠ 0
  · have e : (admM z T n).1 = (admQ z T n).1 := by unfold admM; rw [if_pos h2]
    have e2 : (admM z T n).2 = (admQ z T n).2 := rfl
    rw [e, e2, if_pos ⟨h2.1, by omega⟩]
    exact h.adm_ hT (by omega) h2.1
  · have e : (admM z T n).1 = z := by unfold admM; rw [if_neg h2]
    have e2 : (admM z T n).2 = (admQ z T n).2 := rfl
    rw [e, e2, if_neg (fun h' => h2 ⟨h'.1, by omega⟩), List.append_nil]
    exact h
end Go.Proofs.YtlcnkcgmjnfbiaaGreatDoor

namespace Go.Proofs.YtlcnkcgmjnfbiaaGreatDoor
open Go.RowKit
variable [dK] [iK]

/-- A reply with more behind it, read. -/
theorem rp_back (r : Rp) (h1 : 1 ≤ r.c) (h9 : r.c ≤ 9) (ha : 0 ≤ r.a ∧ r.a ≤ 18446744073709551615) (hb : 0 ≤ r.b ∧ r.b ≤ 18446744073709551615) (t : List Int) :
    rpErr (encRep r.c r.a r.b ++ t) = 0 ∧ rpN (encRep r.c r.a r.b ++ t) = 18 ∧ rpQ (encRep r.c r.a r.b ++ t) = r := by
  have e0 : encRep r.c r.a r.b ++ t = 17 :: r.c :: (be8 r.a ++ (be8 r.b ++ t)) := by simp [encRep]
  have hl : (encRep r.c r.a r.b ++ t).length = 18 + t.length := by rw [List.length_append]; rfl
  have hE : rpErr (encRep r.c r.a r.b ++ t) = 0 := by
    rw [e0]
    simp only [rpErr]
    rw [if_neg (by omega), if_pos (by unfold repLen; rw [if_neg (by omega)]), if_neg]
    rw [← e0, hl]; omega
  refine ⟨hE, by unfold rpN; rw [if_pos hE], ?_⟩
  unfold rpQ
  rw [if_pos hE]
  have hc : (encRep r.c r.a r.b ++ t).getD 1 0 = r.c := by rw [e0]; rfl
  have hA : num8 (encRep r.c r.a r.b ++ t) 2 = r.a := by
    rw [e0]
    refine Eq.trans ?_ (rd_be8 r.a ha.1 ha.2)
    unfold num8
    simp [rdTo, be8, List.getD]
  have hB : num8 (encRep r.c r.a r.b ++ t) 10 = r.b := by
    rw [e0]
    refine Eq.trans ?_ (rd_be8 r.b hb.1 hb.2)
    unfold num8
    simp [rdTo, be8, List.getD]
  rw [hc, hA, hB]
end Go.Proofs.YtlcnkcgmjnfbiaaGreatDoor

namespace Go.Proofs.YtlcnkcgmjnfbiaaGreatDoor
open Go.RowKit
variable [dK] [iK]

theorem Tryz.info40 : (Tryz.prog.info? 51).map (fun i => (i.zero, i.size, i.bytes)) = some (some (.agg #[.int .u8 0, .int .u64 0, .int .u64 0]), 3, 24) := by kernel_rfl
def rpc (r : Rp) : List Value := [.int .u8 r.c, .int .u64 r.a, .int .u64 r.b]
def rpcs (rs : List Rp) : List Value := rs.flatMap rpc
structure Rp.told (r : Rp) : Prop where
  c1 : 1 ≤ r.c
  c9 : r.c ≤ 9
  a : 0 ≤ r.a ∧ r.a ≤ 18446744073709551615
  b : 0 ≤ r.b ∧ r.b ≤ 18446744073709551615
theorem encs_bytes (rs : List Rp) (h : ∀ r ∈ rs, r.told) : Bytes (encs rs) := by
  intro x hx
  unfold encs at hx
  obtain ⟨r, hr, hx⟩ := List.mem_flatMap.1 hx
  have ht := h r hr
  have hb : ∀ (v : Int) x, x ∈ be8 v → 0 ≤ x ∧ x ≤ 255 := by
    intro v x hx
    simp only [be8, List.mem_cons, List.not_mem_nil, or_false] at hx
    rcases hx with rfl | rfl | rfl | rfl | rfl | rfl | rfl | rfl <;> exact nb_range v _
  simp only [encRep, List.mem_append, List.mem_cons, List.not_mem_nil, or_false] at hx
  have := ht.c1
  have := ht.c9
  rcases hx with (hx | hx) | hx
  · omega
  · exact hb _ _ hx
  · exact hb _ _ hx

set_option maxRecDepth 100000 in
set_option maxHeartbeats 4000000 in
theorem replies23 (s : ByteArray) (rs : List Rp) (w : World) (hs : numsOf s = encs rs) (hok : ∀ r ∈ rs, r.told) (hlen : rs.length ≤ 1000) (hgl : w.cell? ⟨0, 0, none⟩ = some (.iface 236 (.agg #[.pointer (some ⟨5, 93, none⟩)]))) :
    Calls Tryz.prog 25 #[.string s] w fun e w' => ∃ v, e = .returned (.tuple #[v, .bool true]) ∧ w'.ownsRow w.heap.size 51 3 v rs.length (rpcs rs) ∧ Below w.heap.size w w' := by
  have hbs := fun (w : World) (s : ByteArray) => run_bytes_of_string (P := Tryz.prog) w 9 48 5 s Tryz.underlying9 Tryz.underlying48 Tryz.underlying5
  obtain ⟨i0, hi, hz0, hz1, hz2⟩ := info_parts Tryz.info40
  have hlt0 : 0 < w.heap.size := by
    rcases Nat.eq_zero_or_pos w.heap.size with h0 | h
    · simp [World.cell?, h0] at hgl
    · exact h
  have HG := hide hgl
  have HS := hide hs
  have HOK := hide hok
  clear hgl hs hok
  go_enter Tryz.func25, Tryz.ntmps25
  go_wp2
  have hcap := grownCap_ge w s.size 0 5
  go_loopw [4, 5, 6, 7, 8] (fun s4 s5 _ _ _ wr => ∃ i : Nat, i ≤ rs.length ∧ Sl wr s5 (encs (rs.drop i)) ∧ wr.ownsRow w.heap.size 51 3 s4 i (rpcs (rs.take i)) ∧ Below w.heap.size w wr ∧ (∀ g o n c, s5 = .slice (some ⟨g, o, none⟩) n c → g < wr.heap.size ∧ s4.ownBlock ≠ some g)) (fun _ s5 _ _ _ _ => sliceLen s5)
  case atStart =>
    refine ⟨0, Nat.zero_le _, ?_, World.ownsRow_nil _ _ _ _, ((Below.refl _ w).alloc (Nat.le_refl _) _).drew, fun g o n c h => ⟨?_, by simp [Value.ownBlock]⟩⟩
    · rw [List.drop_zero, ← HS.out]
      exact Sl.of_bytes w s _ (by simpa using hcap)
    · injection h with h1 _ _; injection h1 with h1; injection h1 with h1 _; subst h1; simp
  case round =>
    obtain ⟨i, hi', hsl, hown, hb, hg4⟩ := hrel
    have hwr := hb.size
    by_cases hlt : i < rs.length
    · obtain ⟨r, hr⟩ : ∃ r, r = rs[i] := ⟨_, rfl⟩
      have htold : r.told := hr ▸ HOK.out _ (List.getElem_mem hlt)
      have hdr : encs (rs.drop i) = encRep r.c r.a r.b ++ encs (rs.drop (i + 1)) := by
        rw [List.drop_eq_getElem_cons hlt, ← hr]; rfl
      obtain ⟨bk1, bk2, bk3⟩ := rp_back r htold.c1 htold.c9 htold.a htold.b (encs (rs.drop (i + 1)))
      rw [← hdr] at bk1 bk2 bk3
      have hle : (encs (rs.drop i)).length = 18 + (encs (rs.drop (i + 1))).length := by rw [hdr, List.length_append]; rfl
      have hle2 : (encs (rs.drop i)).length ≤ 18000 := by rw [encs_length, List.length_drop]; omega
      have hbt : Bytes (encs (rs.drop i)) := encs_bytes _ (fun x hx => HOK.out x (List.mem_of_mem_drop hx))
      rcases hsl with ⟨hnil, _⟩ | ⟨hp, g, o, c, hv, hc, hg, hcell⟩
      · rw [hnil] at hle; simp at hle; omega
      subst hv
      have hg4' := hg4 g o _ c rfl
      have hsrc : Src wr (.slice (some ⟨g, o, none⟩) (encs (rs.drop i)).length c) (encs (rs.drop i)) := Sl.src (Or.inr ⟨hp, g, o, c, rfl, hc, hg, hcell⟩)
      have h39 := read17 _ (encs (rs.drop i)) wr hsrc (by omega) hbt.getD r bk3.symm 18 0 bk2.symm bk1.symm ((hb.cell (p := ⟨0, 0, none⟩) hlt0).trans HG.out)
      obtain ⟨n, hn⟩ : ∃ n, n = (encs (rs.drop i)).length := ⟨_, rfl⟩
      rw [← hn] at h39 hle hle2 hp hc ⊢
      have HN := hide hn
      have HD := hide hdr
      have HR := hide hr
      have HCE := hide hcell
      have hn18 : 18 ≤ n := by omega
      have hn18' : (18 : Int) ≤ (n : Int) := by omega
      have hnpos : 0 < n := by omega
      have hnposI : (0 : Int) < (n : Int) := by omega
      have H39 := hide h39
      have HLE := hide hle
      have hn2 : (n : Int) ≤ 18000 := by omega
      clear hle hle2
      have HO := hide hown
      have HSR := hide hsrc
      clear hn hdr hr bk1 bk2 bk3 hbt h39 hown hsrc hg4 hcell
      go_wp2_with fail
      refine H39.out.mono ?_
      rintro e w2 ⟨rfl, hb2⟩
      have hs2 := hb2.size
      clear hbs
      obtain ⟨W, hW⟩ : ∃ W, W = (w2.alloc (.cells #[.int .u8 r.c, .int .u64 r.a, .int .u64 r.b] 51)).alloc (.cells #[.int .u8 r.c, .int .u64 r.a, .int .u64 r.b] 51) := ⟨_, rfl⟩
      have hWk : ∀ z, z < w2.heap.size → W.heap[z]? = w2.heap[z]? := fun z hz => by rw [hW, heapOld _ _ (by simp; omega), heapOld _ _ hz]
      have hWs : W.heap.size = w2.heap.size + 2 := by rw [hW]; simp
      have HOW : Hid (W.ownsRow w.heap.size 51 3 u4 i (rpcs (rs.take i))) := hide (own_keptE HO.out (fun z hz => (hWk z (Nat.lt_of_lt_of_le (own_ltE HO.out hz).2 hs2)).trans (hb2.block z (own_ltE HO.out hz).2)))
      have HCL : Hid (∀ j u, (rpc r)[j]? = some u → W.cell? ((⟨w2.heap.size + 1, 0, none⟩ : Addr).add j) = some u) := hide (fun j u hj => by
        rw [Addr.add_lit, Nat.zero_add, hW, cellB (heapN (by simp)) j, ← hj]
        simp [rpc])
      have HBW : Hid (Below w.heap.size w W) := hide (by rw [hW]; exact ((hb.trans (hb2.mono hwr)).alloc (by omega) _).alloc (by simp; omega) _)
      have HWK := hide hWk
      have HWS := hide hWs
      clear hWk hWs
      go_wp2_with (at_builtin; (rw [← hW]; refine wpList_append_own_at _ rfl _ _ 69 rfl w.heap.size 51 i0 (.agg #[.int .u8 0, .int .u64 0, .int .u64 0]) 3 24 Tryz.underlying69 hi hz0 hz1 hz2 rfl (by decide) u4 i (rpcs (rs.take i)) rfl HOW.out ⟨w2.heap.size + 1, 0, none⟩ 1 1 (rpc r) rfl rfl HCL.out (by simp [rpc, Value.oneCell']) (by unfold maxLen; omega) (by omega) HBW.out.size ?_; intro v5 w4 hown4 hgr4 hnil4 hloc4; clear hW))
      have hgl4 : g < w2.heap.size := Nat.lt_of_lt_of_le hg4'.1 hs2
      have hk4 : w4.heap[g]? = wr.heap[g]? := (hgr4.block g (by rw [HWS.out]; omega) (fun e => hg4'.2 e.symm)).trans ((HWK.out g hgl4).trans (hb2.block g hg4'.1))
      have hwl := HBW.out.size
      have hwl4 := hgr4.size
      have hB4 : Below w.heap.size w w4 := ⟨hgr4.os.trans HBW.out.os, hgr4.tape.trans HBW.out.tape, hgr4.output.trans HBW.out.output, Nat.le_trans hwl hwl4, fun k hk => (hgr4.block k (by omega) (fun e => by have := (own_ltE HO.out e.symm).1; omega)).trans (HBW.out.block k hk)⟩
      have hnl : n - 18 = (encs (rs.drop (i + 1))).length := by have := HLE.out; omega
      go_roundw
      case rel =>
        refine ⟨i + 1, hlt, ?_, ?_, hB4, fun g' o' n' c' h => ?_⟩
        · by_cases h0 : n - 18 = 0
          · refine Or.inl ⟨List.length_eq_zero_iff.1 (hnl.symm.trans h0), Or.inr ?_⟩
            rw [h0]
            split
            · exact ⟨_, _, _, rfl⟩
            · exact ⟨_, _, _, rfl⟩
          · rw [if_neg (by omega)]
            refine Or.inr ⟨by omega, g, o + 18, c - 18, by rw [hnl], by omega, by rw [HWS.out] at hwl4; omega, fun j hj => ?_⟩
            have hj2 : 18 + j < (encs (rs.drop i)).length := by have := HN.out; omega
            rw [World.cell?_of_block (w := wr) hk4, Nat.add_assoc, HCE.out (18 + j) hj2, HD.out]
            congr 2
            simp only [List.getD]
            rw [List.getElem?_append_right (by simp [encRep, be8])]
            simp [encRep, be8]
        · have ht : rpcs (rs.take (i + 1)) = rpcs (rs.take i) ++ rpc r := by
            have htk : rs.take (i + 1) = rs.take i ++ [rs[i]] := by rw [List.take_add_one, List.getElem?_eq_getElem hlt]; rfl
            rw [htk, HR.out]
            unfold rpcs
            rw [List.flatMap_append]
            simp only [List.flatMap_cons, List.flatMap_nil, List.append_nil]
          rw [ht]
          exact hown4
        · have e : g' = g := by
            split at h <;> (injection h with h1 _ _; injection h1 with h1; injection h1 with h1 _; exact h1.symm)
          subst e
          refine ⟨by rw [HWS.out] at hwl4; omega, fun e => ?_⟩
          rcases hloc4 with h4 | h4
          · exact hg4'.2 (h4 ▸ e)
          · rw [h4, HWS.out] at e
            injection e with e
            omega
      case measure =>
        simp only [sliceLen]
        omega
    · obtain rfl : i = rs.length := by omega
      rw [List.drop_of_length_le (Nat.le_refl _)] at hsl
      rw [List.take_of_length_le (Nat.le_refl _)] at hown
      have HO := hide hown
      obtain ⟨ya, yc, hyw⟩ := own_sliceE hown
      subst hyw
      clear hbs hown hg4
      rcases hsl with ⟨_, rfl | ⟨g, o, c, rfl⟩⟩ | ⟨hp, _⟩
      · go_wp2
        go_ret2
        exact ⟨_, rfl, HO.out, hb⟩
      · go_wp2
        go_ret2
        exact ⟨_, rfl, HO.out, hb⟩
      · simp [encs] at hp
end Go.Proofs.YtlcnkcgmjnfbiaaGreatDoor
