import Derived.Test.YtnlgndpcddngoaaGreatDoorZa31
import Derived.Test.YtnlgndpcddngoaaGreatDoorZa32
import Derived.Test.YtnlgndpcddngoaaGreatDoorZa21
import Derived.Test.YtnlgndpcddngoaaGreatDoorZa00
import Derived.Defers
import Derived.Test.YtnlgndpcddngoaaGreatDoorZa14
import Derived.Deep.RegionLaw
import Derived.Deep.AppendLies
import Derived.Test.YtnlgndpcddngoaaGreatDoorZa24
set_option linter.unusedSectionVars false
namespace Go.Proofs.YtnlgndpcddngoaaGreatDoor
open Go.RowKit Go.Maps
variable [dK] [iK]

theorem LedAt.count {w w' : World} {st : Int} {sb db k : Nat} {c : Led} {F : Nat → Prop} {t : Int} (h : LedAt w st sb db k c F) (hs : ∃ s2 s3 s4 s5, w.heap[sb]? = some (.cells #[.int .i32 st, .int .u32 0, s2, s3, s4, s5, .int .u64 c.adm] 130) ∧ w'.heap[sb]? = some (.cells #[.int .i32 st, .int .u32 0, s2, s3, s4, s5, .int .u64 t] 130)) (hk : Keep (fun b => b = sb) w w') : OutL w st sb db k ⟨c.time, t, c.blk, c.es, c.turn, c.fsD, c.fsN⟩ F w' := by
  obtain ⟨mp, g, FD, h1, h2, h3, h4, h5, h6, h7, h8, h9, h10, h11, h12, h13⟩ := h.mem
  obtain ⟨s2, s3, s4, s5, e1, e2⟩ := hs
  rw [h1] at e1
  simp at e1
  obtain ⟨rfl, rfl, rfl, rfl⟩ := e1
  exact ⟨F, ⟨⟨mp, g, FD, e2, MapG.kept h2 (hk.block mp (h.lt mp h6) (fun e => h13 e.symm)), h3.kept (hk.block g (h.lt g h7) (fun e => h12 e.symm)), h4.kept hk.size (fun b hb => hk.block b (h.lt b (h5 b hb)) (fun e => h11 (e ▸ hb))), h5, h6, h7, h8, h9, h10, h11, h12, h13⟩, h.own, fun b hb => Nat.lt_of_lt_of_le (h.lt b hb) hk.size⟩, hk.mono (fun b e _ => e ▸ h.own), fun b hb => Or.inl hb⟩

set_option maxRecDepth 100000 in
set_option maxHeartbeats 4000000 in
theorem do_snap (sb : Nat) (st : Int) (db kk : Nat) (cc : Led) (F : Nat → Prop) (q : Rq) (w : World) (h1 : q.op ≠ 1) (h2 : q.op ≠ 2) (h3 : q.op ≠ 3) (h4 : q.op ≠ 4) (h6 : q.op ≠ 6) (hS : LedAt w st sb db (kk + 4) cc F)
    (hc : Hid (∀ w1, LedAt w1 st sb db (kk + 4) cc F → Calls Tryz.prog 115 #[.pointer (some ⟨sb, 2, none⟩)] w1 fun e w' => e = .returned (.agg #[.int .u8 1, .int .u64 0, .int .u64 0]) ∧ OutQ w1 st sb db kk cc F cc.ld w')) :
    Calls Tryz.prog 74 #[.pointer (some ⟨sb, 0, none⟩), .agg #[.int .u8 q.op, .int .u8 q.k0, .int .u8 q.k1, .int .u8 q.k2, .int .u8 q.k3, .int .u8 q.k4, .int .u8 q.k5, .int .u8 q.k6, .int .u8 q.k7, .int .u8 q.kd, .int .u64 q.x, .int .u64 q.y, .int .u64 q.n]] w fun e w' => e = .returned (.agg #[.int .u8 1, .int .u64 0, .int .u64 0]) ∧ OutQ w st sb db kk cc F cc.ld w' := by
  have n1 : (q.op == 1) = false := by simpa using h1
  have n2 : (q.op == 2) = false := by simpa using h2
  have n3 : (q.op == 3) = false := by simpa using h3
  have n4 : (q.op == 4) = false := by simpa using h4
  have n6 : (q.op == 6) = false := by simpa using h6
  clear h1 h2 h3 h4 h6
  have hFl := hS.lt
  obtain ⟨W, hW⟩ : ∃ W, W = (w.alloc (.cells #[.int .u8 q.op, .int .u8 q.k0, .int .u8 q.k1, .int .u8 q.k2, .int .u8 q.k3, .int .u8 q.k4, .int .u8 q.k5, .int .u8 q.k6, .int .u8 q.k7, .int .u8 q.kd, .int .u64 q.x, .int .u64 q.y, .int .u64 q.n] 65)).alloc (.cells #[.int .u8 0, .int .u64 0, .int .u64 0] 40) := ⟨_, rfl⟩
  have hB : Below w.heap.size w W := hW ▸ ((Below.refl _ w).alloc (Nat.le_refl _) _).alloc (by simp) _
  have hk0 : W.heap[w.heap.size]? = some (.cells #[.int .u8 q.op, .int .u8 q.k0, .int .u8 q.k1, .int .u8 q.k2, .int .u8 q.k3, .int .u8 q.k4, .int .u8 q.k5, .int .u8 q.k6, .int .u8 q.k7, .int .u8 q.kd, .int .u64 q.x, .int .u64 q.y, .int .u64 q.n] 65) := hW ▸ upB (heapNew _ _) _
  have hr0 : W.heap[w.heap.size + 1]? = some (.cells #[.int .u8 0, .int .u64 0, .int .u64 0] 40) := hW ▸ heapN (by simp)
  have hSW := hS.below hB (Nat.le_refl _)
  have a1 := cellB hk0
  have lr := ltB hr0
  go_enter Tryz.func74, Tryz.ntmps74
  go_upto_region 1 with fail
  rw [← hW]
  clear hW
  go_wp2_with fail
  refine (hc.out _ hSW).mono ?_
  rintro e w2 ⟨rfl, c', hc1, hc2, hc3, F', ho1, ho2, ho3⟩
  have hr2 := (ho2.block _ lr (fun h => by have := hFl _ h; omega)).trans hr0
  have c2 := cellB hr2
  have f2 := frozenB hr2
  have HC := hide (And.intro hc1 (And.intro hc2 hc3))
  have HO1 := hide ho1
  clear a1 hc1 hc2 hc3 ho1
  go_wp2
  refine bodyPost_ret (v := .agg #[.int .u8 1, .int .u64 0, .int .u64 0]) (by simp [results, Tryz.results74, go_sem, c2]) rfl ⟨rfl, ?_⟩
  exact ⟨c', HC.out.1, HC.out.2.1, HC.out.2.2, OutL.fin hB lr hFl HO1.out ho2 ho3 _ _ _⟩

/-- A request is done as the document says; what a snapshot does is handed in. -/
theorem do74 (st : Int) (sb db kk : Nat) (c : Led) (F : Nat → Prop) (q : Rq) (w : World) (hS4 : LedAt w st sb db (kk + 4) c F) (hcc : c.ok) (hq : q.ok)
    (hsn : Hid (∀ w1, LedAt w1 st sb db (kk + 4) c F → Calls Tryz.prog 115 #[.pointer (some ⟨sb, 2, none⟩)] w1 fun e w' => e = .returned (.agg #[.int .u8 1, .int .u64 0, .int .u64 0]) ∧ OutQ w1 st sb db kk c F c.ld w')) :
    Calls Tryz.prog 74 #[.pointer (some ⟨sb, 0, none⟩), .agg #[.int .u8 q.op, .int .u8 q.k0, .int .u8 q.k1, .int .u8 q.k2, .int .u8 q.k3, .int .u8 q.k4, .int .u8 q.k5, .int .u8 q.k6, .int .u8 q.k7, .int .u8 q.kd, .int .u64 q.x, .int .u64 q.y, .int .u64 q.n]] w fun e w' => e = .returned (.agg #[.int .u8 (doM c.ld q).2.c, .int .u64 (doM c.ld q).2.a, .int .u64 (doM c.ld q).2.b]) ∧ OutQ w st sb db kk c F (doM c.ld q).1 w' := by
  have hS : LedAt w st sb db (kk + 2) c F := hS4.less (by omega)
  by_cases o1 : q.op = 1
  · exact do_define sb st db kk c _ F q _ _ _ w o1 hS (hide (fun w1 h1 => book_define st sb db kk c F q w1 o1 hq h1 hcc))
  by_cases o2 : q.op = 2
  · have ea : (doM c.ld q).2 = (admB c.ld q).2 := by
      unfold doM admB; rw [if_neg o1, if_pos o2]
      cases fnd q.key c.ld.ks <;> rfl
    rw [ea]
    refine do_admit sb st db kk c (admB c.ld q).1 _ F q _ _ _ w o2 hS (hide (fun w1 h1 => book_adm st sb db kk c F q w1 hq h1 hcc)) (hide (fun w1 F1 c1 k1 e1 h1 => ?_))
    obtain ⟨mp, g, FD, m1, m2, _⟩ := h1.mem
    have hadm : c1.adm = c.adm := by
      have : c1.ld.adm = (admB c.ld q).1.adm := by rw [e1]
      have e2 : (admB c.ld q).1.adm = c.adm := by
        unfold admB
        cases fnd q.key c.ld.ks <;> rfl
      exact this.trans e2
    by_cases h2 : (admB c.ld q).2.c = 2
    · have eL : (doM c.ld q).1 = ⟨c1.time, (c1.adm + q.n) % 18446744073709551616, stands c1.es⟩ := by
        have e3 : (doM c.ld q).1 = ⟨(admB c.ld q).1.time, ((admB c.ld q).1.adm + q.n) % 18446744073709551616, (admB c.ld q).1.ks⟩ := by
          unfold doM admB at *
          rw [if_neg o1, if_pos o2]
          cases hf : fnd q.key c.ld.ks with
          | none => rw [hf] at h2; simp at h2
          | some z =>
            rw [hf] at h2
            show (⟨_, if (admM z c.ld.time q.n).2.c = 2 then _ else _, _⟩ : Ld) = _
            rw [if_pos h2]
        rw [e3, ← e1]; rfl
      rw [h2, eL]
      refine (scount_in sb _ _ _ _ _ _ c1.adm q.n ((c1.adm + q.n) % 18446744073709551616) _ _ (by rw [IntKind.wrap_u64]) w1 m1).mono ?_
      rintro e w' ⟨rfl, g1, g2⟩
      exact ⟨rfl, ⟨c1.time, (c1.adm + q.n) % 18446744073709551616, c1.blk, c1.es, c1.turn, c1.fsD, c1.fsN⟩, ⟨k1.time, by show 0 ≤ (c1.adm + q.n) % 18446744073709551616 ∧ (c1.adm + q.n) % 18446744073709551616 ≤ 18446744073709551615; omega, k1.blk, k1.turn, k1.nd, k1.key, k1.qt, k1.fit, k1.len⟩, rfl, rfl, h1.count ⟨_, _, _, _, m1, g1⟩ g2⟩
    · have eL : (doM c.ld q).1 = c1.ld := by
        rw [e1]
        unfold doM admB at *
        rw [if_neg o1, if_pos o2]
        cases hf : fnd q.key c.ld.ks with
        | none => rfl
        | some z =>
          rw [hf] at h2
          show (⟨_, if (admM z c.ld.time q.n).2.c = 2 then _ else _, _⟩ : Ld) = _
          rw [if_neg h2]
      rw [eL]
      refine (scount_out sb q.n _ _ _ (by simpa using h2) w1).mono ?_
      rintro e w' ⟨rfl, hb⟩
      exact ⟨rfl, c1, k1, rfl, rfl, OutL.same h1 hb⟩
  by_cases o3 : q.op = 3
  · exact do_query sb st db kk c _ F q _ _ _ w o3 hS (hide (fun w1 h1 => book_query st sb db kk c F q w1 o3 hq h1 hcc))
  by_cases o4 : q.op = 4
  · exact do_remove sb st db kk c _ F q _ _ _ w o4 hS (hide (fun w1 h1 => book_remove st sb db kk c F q w1 o4 hq h1 hcc))
  by_cases o6 : q.op = 6
  · have e : doM c.ld q = (c.ld, ⟨1, c.time, 0⟩) := by unfold doM; rw [if_neg o1, if_neg o2, if_neg o3, if_neg o4, if_pos o6]; rfl
    rw [e]
    exact do_clock sb st db kk c F q w o6 hcc hS
  · have e : doM c.ld q = (c.ld, ⟨1, 0, 0⟩) := by unfold doM; rw [if_neg o1, if_neg o2, if_neg o3, if_neg o4, if_neg o6]
    rw [e]
    exact do_snap sb st db kk c F q w o1 o2 o3 o4 o6 hS4 hsn
end Go.Proofs.YtnlgndpcddngoaaGreatDoor

namespace Go.Proofs.YtnlgndpcddngoaaGreatDoor
open Go.RowKit Go.Maps
variable [dK] [iK]

/-- What a renewal leaves of a store and its disk. -/
def RnPost (w w' : World) (g db k : Nat) (F : Nat → Prop) : Prop :=
  ∃ (t : Int) (fsD fsN : Fs) (F' : Nat → Prop), (0 ≤ t ∧ t ≤ 18446744073709551615) ∧ StoAt w' g db t ∧ DskAt w' db k fsD fsN F' ∧ (∀ b, F' b → F b ∨ w.heap.size ≤ b) ∧ Keep (fun c => c = g ∨ F c) w w'
theorem RnPost.from {w V w' : World} {g db k : Nat} {F : Nat → Prop} (h : RnPost V w' g db k F) (hV : Keep (fun _ => False) w V) : RnPost w w' g db k F := by
  obtain ⟨t, fsD, fsN, F', h0, h1, h2, h3, h4⟩ := h
  exact ⟨t, fsD, fsN, F', h0, h1, h2, fun b hb => (h3 b hb).imp id (fun h => Nat.le_trans hV.size h), (hV.mono (fun _ h _ => h.elim)).trans h4⟩
theorem callRenew (vs : Array Value) (w : World) : Sem.run Tryz.prog (callFunc 142 vs) w = .ok (.enter 142 vs) w := by simp [go_sem]

set_option maxRecDepth 100000 in
set_option maxHeartbeats 4000000 in
/-- A snapshot, given what a renewal does. -/
theorem bsnap (st : Int) (sb db k mp g : Nat) (c : Led) (F FD : Nat → Prop) (w : World) (hc : c.ok) (hlw : ∀ b, F b → b < w.heap.size) (hown : F sb)
    (s1 : w.heap[sb]? = some (.cells #[.int .i32 st, .int .u32 0, .int .u64 c.time, .int .u64 c.blk, .map (some mp), .pointer (some ⟨g, 0, none⟩), .int .u64 c.adm] 130)) (s2 : MapE w mp c.es)
    (s5 : ∀ b, FD b → F b) (s6 : F mp) (s7 : F g) (s8 : ¬ FD g) (s9 : ¬ FD mp) (s10 : mp ≠ g) (s11 : ¬ FD sb) (s12 : sb ≠ g) (s13 : sb ≠ mp)
    (h142 : Hid (∀ V, Keep (fun _ => False) w V → Calls Tryz.prog 142 #[.pointer (some ⟨g, 0, none⟩), .int .u64 c.time, .func (.func 143) #[.map (some mp)] #[]] V fun e w' => e = .returned .nilIface ∧ RnPost V w' g db k FD)) :
    Calls Tryz.prog 115 #[.pointer (some ⟨sb, 2, none⟩)] w fun e w' => e = .returned (.agg #[.int .u8 1, .int .u64 0, .int .u64 0]) ∧ OutQ w st sb db k c F c.ld w' := by
  obtain ⟨V, hV⟩ : ∃ V, V = w.alloc (.cells #[.int .u8 0, .int .u64 0, .int .u64 0] 40) := ⟨_, rfl⟩
  have hKV : Keep (fun _ => False) w V := hV ▸ (Keep.refl _ w).alloc _
  have hr1 : V.heap[w.heap.size]? = some (.cells #[.int .u8 0, .int .u64 0, .int .u64 0] 40) := hV ▸ heapNew _ _
  have hsV : V.heap[sb]? = _ := (hKV.block sb (ltB s1) (fun h => h)).trans s1
  have hmf : ∀ (fn : Fn) (first cap : Array Value) (w : World), (Instr.makeFunc fn first cap).run Tryz.prog w = .ok (.func fn first cap) w := fun _ _ _ _ => rfl
  have HK := hide (h142.out V.drew (hKV.then (T := fun _ => False) ⟨rfl, rfl, rfl, Nat.le_refl _, fun _ _ _ => rfl⟩ (fun _ _ h => h)))
  have HKV := hide hKV
  have a1 := cellB hsV
  have sV : V.heap.size = w.heap.size + 1 := by rw [hV]; simp
  have HSV := hide sV
  clear hKV sV
  go_enter Tryz.func115, Tryz.ntmps115
  go_upto_region 1 with fail
  rw [← hV]
  clear hV
  go_cut [3] (fun s3 wx => ∃ (W : World), W = wx ∧ s3 = .nilIface ∧ RnPost V W g db k FD)
  case first =>
    go_region_law (refine step_fn (by rfl) 142 callRenew _ _ (by rfl) #[.pointer (some ⟨g, 0, none⟩), .int .u64 c.time, .func (.func 143) #[.map (some mp)] #[]] (by simp only [List.map_toArray, List.map_cons, List.map_nil]; rfl) HK.out ?_; rintro e w2 ⟨rfl, hX⟩; refine ⟨_, rfl, ?_⟩; have HX := hide hX; clear hX)
    all_goals (go_wp2_with fail; go_meet)
    all_goals exact ⟨w2, rfl, rfl, HX.out.from (w := V) ⟨rfl, rfl, rfl, Nat.le_refl _, fun _ _ _ => rfl⟩⟩
  case rest =>
    obtain ⟨w2, rfl, rfl, t, fsD, fsN, F', p0, p1, p2, p3, p4⟩ := hcut
    have sV := HSV.out
    have lsb := ltB s1
    have lg := hlw g s7
    have lmp := hlw mp s6
    have hq1 := (p4.block w.heap.size (by omega) (fun h => h.elim (fun e => by omega) (fun e => by have := hlw _ (s5 _ e); omega))).trans hr1
    have e1 := cellB hq1
    have e2 := frozenB hq1
    have HPP := hide (And.intro p0 (And.intro p1 (And.intro p2 (And.intro p3 p4))))
    clear p0 p1 p2 p3 p4 a1 sV
    go_wp2
    obtain ⟨p0, p1, p2, p3, p4⟩ := HPP.out
    have sV := HSV.out
    have sz2 := p4.size
    have kw : Keep F w w2 := Keep.then (S := F) (HKV.out.mono (fun _ h _ => h.elim)) p4 (fun i _ h => h.elim (fun e => e ▸ s7) (s5 i))
    have bk : ∀ x, x < w.heap.size → x ≠ g → ¬ FD x → w2.heap[x]? = w.heap[x]? := fun x hx h1 h2 => (p4.block x (by omega) (fun h => h.elim h1 h2)).trans (HKV.out.block x hx (fun h => h))
    have hF'n : ∀ x, x < w.heap.size → F' x → FD x := fun x hx h => (p3 x h).elim id (fun h => by omega)
    refine bodyPost_ret (v := .agg #[.int .u8 1, .int .u64 0, .int .u64 0]) (by simp [results, Tryz.results115, go_sem, e1]) rfl ⟨rfl, ?_⟩
    refine ⟨⟨c.time, c.adm, c.blk, c.es, t, fsD, fsN⟩, ⟨hc.time, hc.adm, hc.blk, p0, hc.nd, hc.key, hc.qt, hc.fit, hc.len⟩, rfl, rfl, ?_⟩
    refine finOut (F' := fun x => x = sb ∨ x = mp ∨ x = g ∨ F' x) 1 0 0 ⟨⟨mp, g, F', (bk sb lsb s12 s11).trans s1, MapG.kept s2 (bk mp lmp s10 s9), p1, p2, fun x hx => Or.inr (Or.inr (Or.inr hx)), Or.inr (Or.inl rfl), Or.inr (Or.inr (Or.inl rfl)), fun h => s8 (hF'n g lg h), fun h => s9 (hF'n mp lmp h), s10, fun h => s11 (hF'n sb lsb h), s12, s13⟩, Or.inl rfl, fun x hx => ?_⟩ kw hlw (Nat.le_refl _) (fun x hx => ?_)
    · rcases hx with h | h | h | h
      · rw [h]; omega
      · rw [h]; omega
      · rw [h]; omega
      · exact p2.lt x h
    · rcases hx with h | h | h | h
      · exact Or.inl (h ▸ hown)
      · exact Or.inl (h ▸ s6)
      · exact Or.inl (h ▸ s7)
      · rcases p3 x h with h | h
        · exact Or.inl (s5 x h)
        · exact Or.inr (by omega)
end Go.Proofs.YtnlgndpcddngoaaGreatDoor

namespace Go.Proofs.YtnlgndpcddngoaaGreatDoor
open Go.RowKit Go.Maps
variable [dK] [iK]

theorem RnPost.set {w V w' : World} {g db k : Nat} {F : Nat → Prop} (h : RnPost V w' g db k F) {x : Nat} (hx : x < V.heap.size) (hF : ¬ F x) (hg : x ≠ g) (hV : Keep (fun _ => False) w V) (hw : w.heap.size ≤ x) (j : Nat) (v : Value) : RnPost w (w'.setCell ⟨x, j, none⟩ v) g db k F := by
  obtain ⟨t, fsD, fsN, F', h0, h2, h3, h4, h5⟩ := h
  refine ⟨t, fsD, fsN, F', h0, h2.kept (heapSetO (fun e => hg e.symm) _ _), h3.kept (by rw [World.size_setCell]; exact Nat.le_refl _) (fun b hb => heapSetO (fun e => ?_) _ _), fun b hb => (h4 b hb).imp id (fun h => Nat.le_trans hV.size h), ((hV.mono (fun _ h _ => h.elim)).trans h5).set (Or.inr hw) _ _⟩
  subst e
  rcases h4 b hb with h | h
  · exact hF h
  · omega
theorem RnPost.err {w w' : World} {g db k : Nat} {F : Nat → Prop} (h : RnPost w w' g db k F) (hF : ¬ F g) (hg : g < w.heap.size) : RnPost w (w'.setCell ⟨g, 261, none⟩ .nilIface) g db k F := by
  obtain ⟨t, fsD, fsN, F', h0, h2, h3, h4, h5⟩ := h
  refine ⟨t, fsD, fsN, F', h0, h2.seterr, h3.kept (by rw [World.size_setCell]; exact Nat.le_refl _) (fun b hb => heapSetO (fun e => ?_) _ _), h4, h5.set (Or.inl (Or.inl rfl)) _ _⟩
  subst e
  rcases h4 b hb with h | h
  · exact hF h
  · omega
/-- What a sweep does. -/
def Sweeps (g db k : Nat) : Prop := ∀ w t fsD fsN F, (0 ≤ t ∧ t ≤ 18446744073709551615) → StoAt w g db t → DskAt w db (k + 2) fsD fsN F → ¬ F g → Calls Tryz.prog 162 #[.pointer (some ⟨g, 0, none⟩)] w fun e w' => e = .returned .nilIface ∧ RnPost w w' g db k F

set_option maxRecDepth 100000 in
set_option maxHeartbeats 1000000 in
theorem renewjob160 (A B C g db b k : Nat) (turn time : Int) (es : Es) (fsD fsN : Fs) (F : Nat → Prop) (w : World) (h : KpPre w g db b (k + 2) turn time es fsD fsN F) (hsw : Hid (Sweeps g db k)) (nA : ¬ F A) (nG : A ≠ g)
    (hA : w.heap[A]? = some (.cells #[.pointer (some ⟨g, 0, none⟩)] 122)) (hB : w.heap[B]? = some (.cells #[.int .u64 time] 23)) (hC : w.heap[C]? = some (.cells #[.func (.func 143) #[.map (some b)] #[]] 278)) :
    Calls Tryz.prog 160 #[.pointer (some ⟨A, 0, none⟩), .pointer (some ⟨B, 0, none⟩), .pointer (some ⟨C, 0, none⟩)] w fun e w' => e = .returned .nilIface ∧ RnPost w w' g db k F := by
  have H := hide (stwrite161 g db b (k + 2) es turn time fsD fsN F w h.e h.nd h.ok h.fit h.sz h.t0 h.t1 h.m0 h.m1 h.s h.d h.gF h.bF h.bg)
  have a1 := cellB hA
  have a2 := cellB hB
  have a3 := cellB hC
  have hgl := h.s.lt
  have HGF := hide h.gF
  clear h
  go_enter Tryz.func160, Tryz.ntmps160
  go_wp2_with fail
  refine H.out.mono ?_
  rintro e w2 ⟨rfl, ks, x, y, F', q1, q2, q3, q4, q5⟩
  have hA2 := (q5.block A (ltB hA) (fun h => h.elim nG nA)).trans hA
  have b1 := cellB hA2
  have nF' : ¬ F' g := fun h => (q4 g h).elim HGF.out (fun h => by omega)
  have HW := hide (hsw.out w2 _ _ _ F' (nextT_ok turn) q2 q3 nF')
  have HQ := hide (And.intro q4 q5)
  clear q1 q2 q3 q4 q5 a1 a2 a3 hA2
  go_wp2_with fail
  refine HW.out.mono ?_
  rintro e w3 ⟨rfl, hX⟩
  have HX := hide hX
  clear hX
  go_wp2
  go_ret
  obtain ⟨q4, q5⟩ := HQ.out
  obtain ⟨t, fD, fN, F2, r0, r1, r2, r3, r4⟩ := HX.out
  refine ⟨rfl, t, fD, fN, F2, r0, r1, r2, fun z hz => ?_, q5.then r4 (fun i hi h => ?_)⟩
  · rcases r3 z hz with h | h
    · exact q4 z h
    · exact Or.inr (Nat.le_trans q5.size h)
  · rcases h with h | h
    · exact Or.inl h
    · exact (q4 i h).elim Or.inr (fun h => by omega)

theorem callJobR (vs : Array Value) (w : World) : Sem.run Tryz.prog (callFunc 160 vs) w = .ok (.enter 160 vs) w := by simp [go_sem]

set_option maxRecDepth 100000 in
set_option maxHeartbeats 1000000 in
theorem ask159r (A B C g db b k : Nat) (turn time : Int) (es : Es) (fsD fsN : Fs) (F : Nat → Prop) (w : World) (h : KpPre w g db b (k + 2) turn time es fsD fsN F) (hsw : Hid (Sweeps g db k)) (nA : ¬ F A) (nG : A ≠ g)
    (hA : w.heap[A]? = some (.cells #[.pointer (some ⟨g, 0, none⟩)] 122)) (hB : w.heap[B]? = some (.cells #[.int .u64 time] 23)) (hC : w.heap[C]? = some (.cells #[.func (.func 143) #[.map (some b)] #[]] 278)) :
    Calls Tryz.prog 159 #[.pointer (some ⟨g, 0, none⟩), .func (.func 160) #[] #[.pointer (some ⟨A, 0, none⟩), .pointer (some ⟨B, 0, none⟩), .pointer (some ⟨C, 0, none⟩)]] w fun e w' => e = .returned .nilIface ∧ RnPost w w' g db k F := by
  have hgl := h.s.lt
  have hKV : Keep (fun _ => False) w (w.alloc (.cells #[.nilIface] 97)) := (Keep.refl _ w).alloc _
  have hFn : ¬ F w.heap.size := fun hF => by have := h.d.lt _ hF; omega
  have HG := hide (guard116 160 #[.pointer (some ⟨A, 0, none⟩), .pointer (some ⟨B, 0, none⟩), .pointer (some ⟨C, 0, none⟩)] callJobR w (fun w2 => RnPost (w.alloc (.cells #[.nilIface] 97)) w2 g db k F) (by
    refine (renewjob160 A B C g db b k turn time es fsD fsN F _ (h.to hKV) hsw nA nG (upB hA _) (upB hB _) (upB hC _)).mono ?_
    rintro e w2 ⟨rfl, hP⟩
    refine ⟨rfl, ?_, hP⟩
    obtain ⟨_, _, _, _, _, _, _, _, h5⟩ := hP
    exact (h5.block w.heap.size (by simp) (fun hh => hh.elim (fun e => by omega) hFn)).trans (heapNew _ _)))
  have a1 := h.s.err
  have HP := hide h
  clear h
  go_enter Tryz.func159, Tryz.ntmps159
  go_wp2_with fail
  refine HG.out.mono ?_
  rintro e w1 ⟨rfl, w2, hP, hb, hw1⟩
  have hP1 : RnPost w w1 g db k F := by
    rw [hw1]
    exact hP.set (by simp) hFn (by omega) hKV (Nat.le_refl _) _ _
  have hs1 : w1.cell? ⟨g, 261, none⟩ = some .nilIface := by
    obtain ⟨_, _, _, _, _, h2, _⟩ := hP1
    exact h2.err
  have hf1 : w1.frozen? ⟨g, 261, none⟩ = false := by
    obtain ⟨_, _, _, _, _, h2, _⟩ := hP1
    exact h2.fro 261 (by omega)
  have HP1 := hide hP1
  clear hP1 hP hb hw1 a1
  go_wp2
  go_ret
  exact ⟨rfl, HP1.out.err HP.out.gF hgl⟩

set_option maxRecDepth 100000 in
set_option maxHeartbeats 1000000 in
/-- Store.Renew over a disk that is well, given what a sweep does. -/
theorem renew142 (g db b k : Nat) (turn time : Int) (es : Es) (fsD fsN : Fs) (F : Nat → Prop) (w : World) (h : KpPre w g db b (k + 2) turn time es fsD fsN F) (hsw : Hid (Sweeps g db k)) :
    Calls Tryz.prog 142 #[.pointer (some ⟨g, 0, none⟩), .int .u64 time, .func (.func 143) #[.map (some b)] #[]] w fun e w' => e = .returned .nilIface ∧ RnPost w w' g db k F := by
  have hmf : ∀ (fn : Fn) (first cap : Array Value) (w : World), (Instr.makeFunc fn first cap).run Tryz.prog w = .ok (.func fn first cap) w := fun _ _ _ _ => rfl
  obtain ⟨V, hV⟩ : ∃ V, V = ((w.alloc (.cells #[.pointer (some ⟨g, 0, none⟩)] 122)).alloc (.cells #[.int .u64 time] 23)).alloc (.cells #[.func (.func 143) #[.map (some b)] #[]] 278) := ⟨_, rfl⟩
  have hA : V.heap[w.heap.size]? = some (.cells #[.pointer (some ⟨g, 0, none⟩)] 122) := hV ▸ upB (upB (heapNew _ _) _) _
  have hB : V.heap[w.heap.size + 1]? = some (.cells #[.int .u64 time] 23) := hV ▸ upB (heapN (by simp)) _
  have hC : V.heap[w.heap.size + 2]? = some (.cells #[.func (.func 143) #[.map (some b)] #[]] 278) := hV ▸ heapN (by simp)
  have hKV : Keep (fun _ => False) w V := hV ▸ (((Keep.refl _ w).alloc _).alloc _).alloc _
  have hgl := h.s.lt
  have HA := hide (ask159r w.heap.size (w.heap.size + 1) (w.heap.size + 2) g db b k turn time es fsD fsN F V (h.to hKV) hsw (fun hF => by have := h.d.lt _ hF; omega) (by omega) hA hB hC)
  have HKV := hide hKV
  have a1 := cellB hA
  clear h hKV
  go_enter Tryz.func142, Tryz.ntmps142
  go_upto_region 1 with fail
  rw [← hV]
  clear hV
  go_wp2_with fail
  refine HA.out.mono ?_
  rintro e w2 ⟨rfl, hX⟩
  have HX := hide (hX.from HKV.out)
  clear hX
  go_wp2
  go_ret
  exact ⟨rfl, HX.out⟩

/-- A snapshot, given what a sweep does. -/
theorem snap115 (st : Int) (sb db kk : Nat) (c : Led) (F : Nat → Prop) (w : World) (hL : LedAt w st sb db (kk + 4) c F) (hc : c.ok) (hsw : ∀ g, Hid (Sweeps g db kk)) :
    Calls Tryz.prog 115 #[.pointer (some ⟨sb, 2, none⟩)] w fun e w' => e = .returned (.agg #[.int .u8 1, .int .u64 0, .int .u64 0]) ∧ OutQ w st sb db kk c F c.ld w' := by
  obtain ⟨mp, g, FD, s1, s2, s3, s4, s5, s6, s7, s8, s9, s10, s11, s12, s13⟩ := hL.mem
  have hpre : KpPre w g db mp (kk + 2) c.turn c.time c.es c.fsD c.fsN FD := ⟨s2, hc.nd, hc.key, hc.fit, hc.len, hc.turn.1, hc.turn.2, hc.time.1, hc.time.2, s3, s4, s8, s9, s10⟩
  exact bsnap st sb db kk mp g c F FD w hc hL.lt hL.own s1 s2 s5 s6 s7 s8 s9 s10 s11 s12 s13 (hide (fun V hV => renew142 g db mp kk c.turn c.time c.es c.fsD c.fsN FD V (hpre.to hV) (hsw g)))
end Go.Proofs.YtnlgndpcddngoaaGreatDoor

namespace Go.Proofs.YtnlgndpcddngoaaGreatDoor
open Go.RowKit
variable [dK] [iK]

/-- A ledger at a server, as the document has it; its disk bears k writes more. -/
def SrvK (db : Nat) (blk : Int) (k : Nat) (w : World) (st : Int) (sb : Nat) (L : Ld) (F : Nat → Prop) : Prop := ∃ c : Led, c.ok ∧ c.ld = L ∧ c.blk = blk ∧ LedAt w st sb db k c F
theorem SrvK.lt {db : Nat} {blk : Int} {k : Nat} {w : World} {st : Int} {sb : Nat} {L : Ld} {F : Nat → Prop} (h : SrvK db blk k w st sb L F) : ∀ b, F b → b < w.heap.size := by
  obtain ⟨c, _, _, _, h⟩ := h
  exact h.lt
theorem SrvK.lok {db : Nat} {blk : Int} {k : Nat} {w : World} {st : Int} {sb : Nat} {L : Ld} {F : Nat → Prop} (h : SrvK db blk k w st sb L F) : L.ok := by
  obtain ⟨c, h1, h2, _, _⟩ := h
  exact h2 ▸ h1.ld
theorem SrvK.kept {db : Nat} {blk : Int} {k : Nat} {w w' : World} {st : Int} {sb : Nat} {L : Ld} {F : Nat → Prop} (h : SrvK db blk k w st sb L F) (hs : w.heap.size ≤ w'.heap.size) (hb : ∀ b, F b → w'.heap[b]? = w.heap[b]?) : SrvK db blk k w' st sb L F := by
  obtain ⟨c, h1, h2, h3, h4⟩ := h
  exact ⟨c, h1, h2, h3, h4.kept hs hb⟩
theorem SrvK.below {db : Nat} {blk : Int} {k : Nat} {w w' : World} {st : Int} {sb : Nat} {L : Ld} {F : Nat → Prop} (h : SrvK db blk k w st sb L F) {B : Nat} (hb : Below B w w') (hB : w.heap.size ≤ B) : SrvK db blk k w' st sb L F :=
  h.kept hb.size fun b hF => hb.block b (Nat.lt_of_lt_of_le (h.lt b hF) hB)
theorem SrvK.drew {db : Nat} {blk : Int} {k : Nat} {w : World} {st : Int} {sb : Nat} {L : Ld} {F : Nat → Prop} (h : SrvK db blk k w st sb L F) : SrvK db blk k w.drew st sb L F := h.kept (Nat.le_refl _) fun _ _ => rfl
theorem SrvK.less {db : Nat} {blk : Int} {k k' : Nat} {w : World} {st : Int} {sb : Nat} {L : Ld} {F : Nat → Prop} (h : SrvK db blk k w st sb L F) (hk : k' ≤ k) : SrvK db blk k' w st sb L F := by
  obtain ⟨c, h1, h2, h3, h4⟩ := h
  exact ⟨c, h1, h2, h3, h4.less hk⟩
def OutK (db : Nat) (blk : Int) (k : Nat) (w : World) (st : Int) (sb : Nat) (L : Ld) (F : Nat → Prop) (w' : World) : Prop :=
  ∃ F', SrvK db blk k w' st sb L F' ∧ Keep F w w' ∧ ∀ b, F' b → F b ∨ w.heap.size ≤ b
theorem OutQ.k {db : Nat} {blk : Int} {k : Nat} {w w' : World} {st : Int} {sb : Nat} {c : Led} {L : Ld} {F : Nat → Prop} (hb : c.blk = blk) (h : OutQ w st sb db k c F L w') : OutK db blk k w st sb L F w' := by
  obtain ⟨c', h1, h2, h3, F', h4, h5, h6⟩ := h
  exact ⟨F', ⟨c', h1, h2, h3.trans hb, h4⟩, h5, h6⟩


/-- What holds while requests are done, one by one. -/
structure RdI (db : Nat) (blk : Int) (k0 : Nat) (w : World) (F : Nat → Prop) (st : Int) (sb cb rb : Nat) (cc : Array Value) (L0 : Ld) (bs0 : List Int) (L : Ld) (bs : List Int) (rs : List Rp) (F' : Nat → Prop) (v1 v5 : Value) (wr : World) : Prop where
  run : runL L0 bs0 = ((runL L bs).1, rs ++ (runL L bs).2.1, (runL L bs).2.2)
  sl : Sl wr v1 bs
  le : 18 * rs.length + 9 * bs.length ≤ 9 * bs0.length
  by_ : Bytes bs
  own : wr.ownsRow w.heap.size 5 1 v5 (encs rs).length ((encs rs).map (Value.int .u8))
  req : wr.heap[rb]? = some (.cells (rqc (rdQ bs)) 65)
  srv : SrvK db blk (4 * bs.length + k0) wr st sb L F'
  lok : L.ok
  F1 : ∀ b, F' b → F b ∨ w.heap.size ≤ b
  F2 : ¬ F' rb
  F3 : ∀ g, v5.ownBlock = some g → ¬ F' g ∧ g ≠ rb
  F4 : ∀ g o n c, v1 = .slice (some ⟨g, o, none⟩) n c → g < w.heap.size ∧ ¬ F g
  conn : wr.heap[cb]? = some (.cells cc 112)
  keep : Keep F w wr
end Go.Proofs.YtnlgndpcddngoaaGreatDoor

namespace Go.Proofs.YtnlgndpcddngoaaGreatDoor
open Go.RowKit
variable [dK] [iK]

set_option maxRecDepth 100000 in
set_option maxHeartbeats 8000000 in
theorem read48 (db : Nat) (blk : Int) (k0 : Nat) (st : Int) (sb cb : Nat) (F : Nat → Prop) (L0 : Ld) (bs0 : List Int) (vb cw cbad : Value) (w : World) (hS : SrvK db blk (4 * bs0.length + k0) w st sb L0 F) (hL : L0.ok) (hcb : w.heap[cb]? = some (.cells #[.pointer (some ⟨sb, 0, none⟩), cw, cbad] 112)) (hFc : ¬ F cb)
    (hs : Sl w vb bs0) (hsF : ∀ g o n c, vb = .slice (some ⟨g, o, none⟩) n c → g < w.heap.size ∧ ¬ F g) (hby : Bytes bs0) (hlen : bs0.length ≤ 100000)
    (hdo : Hid (∀ kk w1 L F1 q, SrvK db blk (kk + 4) w1 st sb L F1 → L.ok → q.ok → Calls Tryz.prog 74 #[.pointer (some ⟨sb, 0, none⟩), .agg #[.int .u8 q.op, .int .u8 q.k0, .int .u8 q.k1, .int .u8 q.k2, .int .u8 q.k3, .int .u8 q.k4, .int .u8 q.k5, .int .u8 q.k6, .int .u8 q.k7, .int .u8 q.kd, .int .u64 q.x, .int .u64 q.y, .int .u64 q.n]] w1 fun e w' => e = .returned (.agg #[.int .u8 (doM L q).2.c, .int .u64 (doM L q).2.a, .int .u64 (doM L q).2.b]) ∧ OutK db blk kk w1 st sb (doM L q).1 F1 w')) :
    Calls Tryz.prog 48 #[.pointer (some ⟨cb, 0, none⟩), vb] w fun e w' => ∃ rv F', e = .returned rv ∧ SrvK db blk k0 w' st sb (runL L0 bs0).1 F' ∧ (∀ b, F' b → F b ∨ w.heap.size ≤ b) ∧ Keep (fun b => F b ∨ b = cb) w w' ∧
      ((runL L0 bs0).2.2.2 = 2 ∧ w'.heap[cb]? = some (.cells #[.pointer (some ⟨sb, 0, none⟩), .slice none 0 0, .bool true] 112) ∧ w'.ownsRow w.heap.size 5 1 rv (encs ((runL L0 bs0).2.1 ++ [⟨6, 0, 0⟩])).length ((encs ((runL L0 bs0).2.1 ++ [⟨6, 0, 0⟩])).map (Value.int .u8)) ∨
       (runL L0 bs0).2.2.2 ≠ 2 ∧ ∃ wv, w'.heap[cb]? = some (.cells #[.pointer (some ⟨sb, 0, none⟩), wv, cbad] 112) ∧ w'.ownsRow w.heap.size 5 1 wv (runL L0 bs0).2.2.1.length ((runL L0 bs0).2.2.1.map (Value.int .u8)) ∧ (∀ g, wv.ownBlock = some g → ¬ F' g) ∧ w'.ownsRow w.heap.size 5 1 rv (encs (runL L0 bs0).2.1).length ((encs (runL L0 bs0).2.1).map (Value.int .u8))) := by
  have hFl := hS.lt
  have lc := ltB hcb
  have HCB := hide hcb
  have HBY := hide hby
  have HS := hide hs
  have HSF := hide hsF
  clear hcb hby hs hsF
  go_enter Tryz.func48, Tryz.ntmps48
  go_wp2_with fail
  refine (read67 vb bs0 w HS.out (by omega) (fun j => HBY.out.getD j) _ rfl _ _ rfl rfl).mono ?_
  rintro e w1 ⟨rfl, hb1⟩
  go_wp2_with fail
  go_loopw [1, 5, 7, 8] (fun s1 s5 s7 s8 wr => ∃ L bs rs F', RdI db blk k0 w F st sb cb w1.heap.size #[.pointer (some ⟨sb, 0, none⟩), cw, cbad] L0 bs0 L bs rs F' s1 s5 wr ∧ s7 = .int .i64 (rdN bs) ∧ s8 = errV (rdErr bs)) (fun s1 _ _ _ _ => sliceLen s1)
  case atStart =>
    have hs1 := hb1.size
    refine ⟨L0, bs0, [], F, ⟨by simp, (HS.out.below hb1 (Nat.le_refl _)).kept (by simp) (fun g _ _ _ _ hg => heapOld _ _ hg), by simp, HBY.out, World.ownsRow_nil _ _ _ _, heapNew _ _, (hS.below hb1 (Nat.le_refl _)).kept (by simp) (fun b hb => heapOld _ _ (by have := hFl b hb; omega)), hL, fun b hb => Or.inl hb, fun h => by have := hFl _ h; omega, fun g hg => by simp [Value.ownBlock] at hg, HSF.out, upB ((hb1.block cb lc).trans HCB.out) _, (Keep.of_below hb1).alloc _⟩, rfl, rfl⟩
  case round =>
    obtain ⟨L, bs, rs, F', I, rfl, rfl⟩ := hrel
    have hs1 := hb1.size
    by_cases h0 : rdErr bs = 0
    · obtain ⟨r1, r2, r3, r4⟩ := rdN_ok bs h0
      have eV : errV (rdErr bs) = .nilIface := by rw [h0]; rfl
      rw [eV, r3]
      have hI := hide I
      rcases I.sl with ⟨hnil, _⟩ | ⟨hp, g, o, c, hv, hc, hg, hcell⟩
      · rw [hnil] at h0; simp [rdErr] at h0
      subst hv
      obtain ⟨q, hq⟩ : ∃ q, q = rdQ bs := ⟨_, rfl⟩
      obtain ⟨m, hm⟩ : ∃ m, m = (rdN bs).toNat := ⟨_, rfl⟩
      obtain ⟨n, hn⟩ : ∃ n, n = bs.length := ⟨_, rfl⟩
      rw [← hm] at r1 r2 r4 ⊢
      rw [← hn] at r2 hc hp ⊢
      have hqok : q.ok := hq ▸ rdQ_ok bs I.by_
      obtain ⟨L2, r, hdm⟩ : ∃ L2 r, doM L q = (L2, r) := ⟨_, _, rfl⟩
      have hd : ∀ w1, SrvK db blk (4 * n + k0) w1 st sb L F' → Calls Tryz.prog 74 #[.pointer (some ⟨sb, 0, none⟩), .agg #[.int .u8 q.op, .int .u8 q.k0, .int .u8 q.k1, .int .u8 q.k2, .int .u8 q.k3, .int .u8 q.k4, .int .u8 q.k5, .int .u8 q.k6, .int .u8 q.k7, .int .u8 q.kd, .int .u64 q.x, .int .u64 q.y, .int .u64 q.n]] w1 fun e w' => e = .returned (.agg #[.int .u8 r.c, .int .u64 r.a, .int .u64 r.b]) ∧ OutK db blk (4 * (n - m) + k0) w1 st sb L2 F' w' := fun w1 h => by
        have := hdo.out (4 * (n - m) + k0) w1 L F' q (h.less (by omega)) I.lok hqok
        rw [hdm] at this
        exact this
      have hdk := doM_ok L q I.lok hqok
      rw [hdm] at hdk
      have HD := hide hd
      have hconn := I.conn
      have hreq : wr.heap[w1.heap.size]? = some (.cells #[.int .u8 q.op, .int .u8 q.k0, .int .u8 q.k1, .int .u8 q.k2, .int .u8 q.k3, .int .u8 q.k4, .int .u8 q.k5, .int .u8 q.k6, .int .u8 q.k7, .int .u8 q.kd, .int .u64 q.x, .int .u64 q.y, .int .u64 q.n] 65) := hq ▸ I.req
      have hF2 := I.F2
      have hF4 := I.F4 g o _ c (by rw [← hn])
      have hFcb : ¬ F' cb := fun h => (I.F1 _ h).elim hFc (fun h => by omega)
      have hFg : ¬ F' g := fun h => (I.F1 _ h).elim hF4.2 (fun h => by omega)
      have hbase := I.keep.size
      have lrb := ltB hreq
      have HO := hide I.own
      have hk5 : (encs rs).length + 18 ≤ 4194304 := by have := I.le; rw [encs_length]; omega
      have HF3 := hide I.F3
      have HRP := hide hdk.2
      have HSR : Hid (SrvK db blk (4 * n + k0) wr st sb L F') := hide (hn ▸ I.srv)
      have HM := hide hm
      have HN := hide hn
      have HQ := hide hq
      have HR3 := hide r3
      have HDM := hide hdm
      have HEV := hide h0
      clear hd hdk I hcell hm hn hq r3 hdm h0 eV
      go_wp2_with fail
      go_region_held3 (fun w' => w'.cell? ⟨cb, 0, none⟩ = some (.pointer (some ⟨sb, 0, none⟩)) ∧ w'.cell? ⟨w1.heap.size, 0, none⟩ = some (.int .u8 q.op) ∧ w'.cell? ⟨w1.heap.size, 1, none⟩ = some (.int .u8 q.k0) ∧ w'.cell? ⟨w1.heap.size, 2, none⟩ = some (.int .u8 q.k1) ∧ w'.cell? ⟨w1.heap.size, 3, none⟩ = some (.int .u8 q.k2) ∧ w'.cell? ⟨w1.heap.size, 4, none⟩ = some (.int .u8 q.k3) ∧ w'.cell? ⟨w1.heap.size, 5, none⟩ = some (.int .u8 q.k4) ∧ w'.cell? ⟨w1.heap.size, 6, none⟩ = some (.int .u8 q.k5) ∧ w'.cell? ⟨w1.heap.size, 7, none⟩ = some (.int .u8 q.k6) ∧ w'.cell? ⟨w1.heap.size, 8, none⟩ = some (.int .u8 q.k7) ∧ w'.cell? ⟨w1.heap.size, 9, none⟩ = some (.int .u8 q.kd) ∧ w'.cell? ⟨w1.heap.size, 10, none⟩ = some (.int .u64 q.x) ∧ w'.cell? ⟨w1.heap.size, 11, none⟩ = some (.int .u64 q.y) ∧ w'.cell? ⟨w1.heap.size, 12, none⟩ = some (.int .u64 q.n))
        (first | (exact ⟨cellB hc4 0, cellB hr4 0, cellB hr4 1, cellB hr4 2, cellB hr4 3, cellB hr4 4, cellB hr4 5, cellB hr4 6, cellB hr4 7, cellB hr4 8, cellB hr4 9, cellB hr4 10, cellB hr4 11, cellB hr4 12⟩) | (exact ⟨cellB hc3 0, cellB hr3 0, cellB hr3 1, cellB hr3 2, cellB hr3 3, cellB hr3 4, cellB hr3 5, cellB hr3 6, cellB hr3 7, cellB hr3 8, cellB hr3 9, cellB hr3 10, cellB hr3 11, cellB hr3 12⟩) | (exact ⟨cellB hc2 0, cellB hr2 0, cellB hr2 1, cellB hr2 2, cellB hr2 3, cellB hr2 4, cellB hr2 5, cellB hr2 6, cellB hr2 7, cellB hr2 8, cellB hr2 9, cellB hr2 10, cellB hr2 11, cellB hr2 12⟩) | (exact ⟨cellB hconn 0, cellB hreq 0, cellB hreq 1, cellB hreq 2, cellB hreq 3, cellB hreq 4, cellB hreq 5, cellB hreq 6, cellB hreq 7, cellB hreq 8, cellB hreq 9, cellB hreq 10, cellB hreq 11, cellB hreq 12⟩))
        (first | (go_at_call 74; (refine (HD.out _ HSR.out.drew).mono ?_; rintro e w2 ⟨rfl, F2, o1, o2, o3⟩; have hc2 := (o2.block cb (ltB hconn) hFcb).trans hconn; have hr2 := (o2.block w1.heap.size lrb hF2).trans hreq))
               | (go_at_call 73; (refine (wrep r.c r.a r.b _ HRP.out.a.1 HRP.out.a.2 HRP.out.b.1 HRP.out.b.2).mono ?_; rintro e w3 ⟨rfl, hown3, hb3⟩; have hc3 := (hb3.block cb (ltB hc2)).trans hc2; have hr3 := (hb3.block w1.heap.size (ltB hr2)).trans hr2))
               | ((refine step_append_src (by rfl) _ _ (by rfl) w.heap.size u5 (encs rs).length (encs rs) (by rfl) (own_kept HO.out (fun z hz => (hb3.block z (Nat.lt_of_lt_of_le (HO.out.lt z hz).2 o2.size)).trans (o2.block z (HO.out.lt z hz).2 (HF3.out z hz).1))) ⟨w2.heap.size + 1, 0, none⟩ 18 18 (encRep r.c r.a r.b) (by rfl) (by simp [encRep, be8]) (fun j u hj => by rw [Addr.add_lit, Nat.zero_add]; exact (hown3.cellAt j (by have := (List.getElem?_eq_some_iff.1 hj).1; simp [encRep, be8] at this; omega)).trans hj) hk5 (by have := hb3.size; have := o2.size; have : wr.drew.heap.size = wr.heap.size := rfl; omega) ?_; intro v5 w4 hown4 hgr4 hloc4; have hz4 : ∀ z, z < w3.heap.size → (∀ y, u5.ownBlock = some y → y ≠ z) → w4.heap[z]? = w3.heap[z]? := fun z hz hy => hgr4.block z hz (fun e => hy z e.symm rfl); have hc4 := (hz4 cb (ltB hc3) (fun y hy e => by have := (HO.out.lt y hy).1; omega)).trans hc3; have hr4 := (hz4 w1.heap.size (ltB hr3) (fun y hy e => (HF3.out y hy).2 e)).trans hr3)))
      have hs3 := hb3.size
      have hs2 := o2.size
      have hsd : wr.drew.heap.size = wr.heap.size := rfl
      have hs4 := hgr4.size
      have hnF : ∀ z, F2 z → (∀ y, u5.ownBlock = some y → y ≠ z) := fun z hz y hy e => by
        subst e
        rcases o3 _ hz with h | h
        · exact (HF3.out y hy).1 h
        · have := (HO.out.lt y hy).2; omega
      have hsrv4 : SrvK db blk (4 * (n - m) + k0) w4 st sb L2 F2 := o1.kept (by omega) (fun z hz => (hz4 z (Nat.lt_of_lt_of_le (o1.lt z hz) hs3) (hnF z hz)).trans (hb3.block z (o1.lt z hz)))
      have hgk : ∀ z, z < w.heap.size → ¬ F z → w4.heap[z]? = wr.heap[z]? := fun z hz hF => (hz4 z (by omega) (fun y hy e => by have := (HO.out.lt y hy).1; omega)).trans ((hb3.block z (by omega)).trans (o2.block z (by show z < wr.heap.size; omega) (fun h => (hI.out.F1 z h).elim hF (fun h => by omega))))
      have hK4 : Keep F w w4 := by
        have k1 : Keep F w w2 := hI.out.keep.drew.then o2 (fun i hi h => (hI.out.F1 i h).elim id (fun h => absurd hi (Nat.not_lt.2 h)))
        have k2 : Keep F w w3 := k1.trans (Keep.of_below hb3)
        exact ⟨hgr4.os.trans k2.os, hgr4.tape.trans k2.tape, hgr4.output.trans k2.output, Nat.le_trans k2.size hs4, fun z hz hF => (hz4 z (by omega) (fun y hy e => by have := (HO.out.lt y hy).1; omega)).trans (k2.block z hz hF)⟩
      have hbd : (bs.drop m).length = n - m := by rw [List.length_drop, ← HN.out]
      have HBD := hide hbd
      clear hbd
      obtain ⟨vd, hvd, hsl4, hvg⟩ : ∃ vd, (if c = m then Value.slice (some ⟨g, o, none⟩) (n - m) (c - m) else Value.slice (some ⟨g, o + m, none⟩) (n - m) (c - m)) = vd ∧ Sl w4 vd (bs.drop m) ∧ (∀ g' o' n' c', vd = .slice (some ⟨g', o', none⟩) n' c' → g' = g) := by
        refine ⟨_, rfl, ?_, ?_⟩
        · rcases hI.out.sl with ⟨hnil, _⟩ | ⟨_, g', o', c', hv, hc', hg', hcell⟩
          · rw [hnil] at HN; have := HN.out; simp at this; omega
          · injection hv with e1 e2 e3
            injection e1 with e1
            injection e1 with e4 e5
            subst e4 e5 e3
            by_cases hrem : n - m = 0
            · left
              refine ⟨List.length_eq_zero_iff.1 (HBD.out.trans hrem), Or.inr ?_⟩
              rw [hrem]
              split
              · exact ⟨_, _, _, rfl⟩
              · exact ⟨_, _, _, rfl⟩
            · right
              rw [if_neg (by omega), HBD.out]
              refine ⟨by omega, g, o + m, c - m, rfl, by omega, by have := hI.out.F4 g o _ c rfl; omega, fun j hj => ?_⟩
              have hF4' := hI.out.F4 g o _ c rfl
              rw [World.cell?_of_block (w := wr) (hgk g hF4'.1 hF4'.2), Nat.add_assoc, hcell (m + j) (by rw [← HN.out]; omega)]
              simp [List.getD, List.getElem?_drop]
        · intro g' o' n' c' h
          split at h <;> (injection h with h1 _ _; injection h1 with h1; injection h1 with h1 _; exact h1.symm)
      have HSL := hide hsl4
      have HSV := hide hsrv4
      have HVD := hide hvd
      have HVG := hide hvg
      have HK4 := hide hK4
      have hmn : (m : Int) ≤ (n : Int) := by omega
      have hm0 : (0 : Int) ≤ (m : Int) := by omega
      clear hsl4 hsrv4 hvd hvg hK4 hgk hnF hown3 hb3 hgr4
      have HL4 := hide hloc4
      have HO4 := hide hown4
      clear hloc4 hown4
      go_wp2_with fail
      · have h := HVD.out
        rw [if_pos (by omega), show c - m = 0 by omega] at h
        subst h
        refine (read67 _ (bs.drop m) w4 HSL.out (by rw [HBD.out]; have := hI.out.le; have := HN.out; omega) (fun j => (hI.out.by_.drop m).getD j) _ rfl _ _ rfl rfl).mono ?_
        rintro e w5 ⟨rfl, hb5⟩
        have hr5 := (hb5.block w1.heap.size (ltB hr4)).trans hr4
        have hs5 := hb5.size
        have d1 := cellB hr5
        have d2 := frozenB hr5
        go_wp2
        go_roundw
        case rel =>
          have hrbF : ¬ F2 w1.heap.size := fun h => (o3 _ h).elim hF2 (fun h => by have : wr.heap.size ≤ _ := h; omega)
          have hstep := runL_step L bs HEV.out
          rw [← HQ.out, HDM.out, ← HM.out] at hstep
          have hdok := doM_ok L q hI.out.lok (HQ.out ▸ rdQ_ok bs hI.out.by_)
          rw [HDM.out] at hdok
          have hv5 : ∀ y, v5.ownBlock = some y → y ≠ w1.heap.size ∧ ¬ F2 y := by
            intro y hy
            rcases HL4.out with h | h
            · rw [h] at hy
              refine ⟨(HF3.out y hy).2, fun hF => (o3 _ hF).elim (HF3.out y hy).1 (fun h => ?_)⟩
              have := (HO.out.lt y hy).2
              have : wr.heap.size ≤ _ := h
              omega
            · rw [h] at hy
              injection hy with hy
              refine ⟨by omega, fun hF => ?_⟩
              have := o1.lt y hF
              omega
          refine ⟨L2, bs.drop m, rs ++ [r], F2, ⟨?_, ?_, ?_, hI.out.by_.drop m, ?_, ?_, ?_, hdok.1, ?_, hrbF, fun y hy => ⟨(hv5 y hy).2, (hv5 y hy).1⟩, fun g' o' n' c' h => by rw [HVG.out g' o' n' c' h]; exact hF4, ?_, ?_⟩, rfl, rfl⟩
          · rw [hI.out.run, hstep, List.append_assoc]; rfl
          · refine (HSL.out.below hb5 (Nat.le_refl _)).kept (by simp) (fun g' o' n' c' h hg' => ?_)
            have := HVG.out g' o' n' c' h
            repeat (refine (heapSetO (by omega) _ _).trans ?_)
            rfl
          · have := hI.out.le
            have := HN.out
            rw [List.length_append, HBD.out]
            simp only [List.length_cons, List.length_nil]
            omega
          · refine own_kept (w := w4) ?_ (fun y hy => ?_)
            · have := HO4.out
              rw [encs_snoc, List.length_append]
              exact this
            · have h1 := (hv5 y hy).1
              repeat (refine (heapSetO h1 _ _).trans ?_)
              exact hb5.block y (HO4.out.lt y hy).2
          · exact heapSet13 hr5 _ _ _ _ _ _ _ _ _ _ _ _ _
          · rw [HBD.out]
            refine HSV.out.kept (by simp; omega) (fun z hz => ?_)
            have h1 : z ≠ w1.heap.size := fun e => hrbF (e ▸ hz)
            repeat (refine (heapSetO h1 _ _).trans ?_)
            exact hb5.block z (HSV.out.lt z hz)
          · exact fun z hz => (o3 z hz).elim (hI.out.F1 z) (fun h => Or.inr (by have : wr.heap.size ≤ z := h; omega))
          · repeat (refine (heapSetO (by omega) _ _).trans ?_)
            exact (hb5.block cb (ltB hc4)).trans hc4
          · repeat (refine Keep.set ?_ (Or.inr (by omega)) _ _)
            exact HK4.out.trans (Keep.of_below hb5)
        case measure => simp [sliceLen]; omega
      · have h := HVD.out
        rw [if_neg (by omega)] at h
        subst h
        refine (read67 _ (bs.drop m) w4 HSL.out (by rw [HBD.out]; have := hI.out.le; have := HN.out; omega) (fun j => (hI.out.by_.drop m).getD j) _ rfl _ _ rfl rfl).mono ?_
        rintro e w5 ⟨rfl, hb5⟩
        have hr5 := (hb5.block w1.heap.size (ltB hr4)).trans hr4
        have hs5 := hb5.size
        have d1 := cellB hr5
        have d2 := frozenB hr5
        go_wp2
        go_roundw
        case rel =>
          have hrbF : ¬ F2 w1.heap.size := fun h => (o3 _ h).elim hF2 (fun h => by have : wr.heap.size ≤ _ := h; omega)
          have hstep := runL_step L bs HEV.out
          rw [← HQ.out, HDM.out, ← HM.out] at hstep
          have hdok := doM_ok L q hI.out.lok (HQ.out ▸ rdQ_ok bs hI.out.by_)
          rw [HDM.out] at hdok
          have hv5 : ∀ y, v5.ownBlock = some y → y ≠ w1.heap.size ∧ ¬ F2 y := by
            intro y hy
            rcases HL4.out with h | h
            · rw [h] at hy
              refine ⟨(HF3.out y hy).2, fun hF => (o3 _ hF).elim (HF3.out y hy).1 (fun h => ?_)⟩
              have := (HO.out.lt y hy).2
              have : wr.heap.size ≤ _ := h
              omega
            · rw [h] at hy
              injection hy with hy
              refine ⟨by omega, fun hF => ?_⟩
              have := o1.lt y hF
              omega
          refine ⟨L2, bs.drop m, rs ++ [r], F2, ⟨?_, ?_, ?_, hI.out.by_.drop m, ?_, ?_, ?_, hdok.1, ?_, hrbF, fun y hy => ⟨(hv5 y hy).2, (hv5 y hy).1⟩, fun g' o' n' c' h => by rw [HVG.out g' o' n' c' h]; exact hF4, ?_, ?_⟩, rfl, rfl⟩
          · rw [hI.out.run, hstep, List.append_assoc]; rfl
          · refine (HSL.out.below hb5 (Nat.le_refl _)).kept (by simp) (fun g' o' n' c' h hg' => ?_)
            have := HVG.out g' o' n' c' h
            repeat (refine (heapSetO (by omega) _ _).trans ?_)
            rfl
          · have := hI.out.le
            have := HN.out
            rw [List.length_append, HBD.out]
            simp only [List.length_cons, List.length_nil]
            omega
          · refine own_kept (w := w4) ?_ (fun y hy => ?_)
            · have := HO4.out
              rw [encs_snoc, List.length_append]
              exact this
            · have h1 := (hv5 y hy).1
              repeat (refine (heapSetO h1 _ _).trans ?_)
              exact hb5.block y (HO4.out.lt y hy).2
          · exact heapSet13 hr5 _ _ _ _ _ _ _ _ _ _ _ _ _
          · rw [HBD.out]
            refine HSV.out.kept (by simp; omega) (fun z hz => ?_)
            have h1 : z ≠ w1.heap.size := fun e => hrbF (e ▸ hz)
            repeat (refine (heapSetO h1 _ _).trans ?_)
            exact hb5.block z (HSV.out.lt z hz)
          · exact fun z hz => (o3 z hz).elim (hI.out.F1 z) (fun h => Or.inr (by have : wr.heap.size ≤ z := h; omega))
          · repeat (refine (heapSetO (by omega) _ _).trans ?_)
            exact (hb5.block cb (ltB hc4)).trans hc4
          · repeat (refine Keep.set ?_ (Or.inr (by omega)) _ _)
            exact HK4.out.trans (Keep.of_below hb5)
        case measure => simp [sliceLen]; omega
    · have hrun := I.run
      rw [runL_stop L bs h0] at hrun
      simp only [List.append_nil] at hrun
      have hI := hide I
      have hbase := I.keep.size
      have hconn := I.conn
      have lcw := ltB hconn
      have hle : 18 * rs.length + 9 * bs.length ≤ 9 * bs0.length := I.le
      rcases rdErr_cases bs with h | h | h
      · exact absurd h h0
      · rw [h] at hrun ⊢
        have eV : errV 1 = .iface 53 (.int .i64 1) := rfl
        rw [eV]
        have HRUN := hide hrun
        clear hrun I h h0 eV
        go_wp2_with fail
        refine (is_other 1 2 _ (by decide)).mono ?_
        rintro e wq ⟨rfl, rfl⟩
        go_wp2_with (at_builtin; refine wpList_append_srcA rfl _ _ rfl w.heap.size (.slice none 0 0) 0 [] rfl (World.ownsRow_nil _ _ _ _) u1 bs rfl hI.out.sl.src (by omega) hbase ?_; intro wv w3 hown3 hgr3 hloc3; obtain ⟨ya, yc, hyw⟩ := own_slice hown3; subst hyw; have hc3 := (hgr3.block cb lcw (by simp [Value.ownBlock])).trans hconn; have d1 := cellB hc3; have d2 := frozenB hc3)
        go_ret
        have hs3 := hgr3.size
        have hwv : ∀ y, (Value.slice ya (0 + bs.length) yc).ownBlock = some y → y = wq.heap.size := fun y hy => by
          rcases hloc3 with h | h
          · rw [h] at hy; simp [Value.ownBlock] at hy
          · rw [h] at hy; injection hy with hy; exact hy.symm
        rw [HRUN.out]
        have hk3 : ∀ z, z < wq.heap.size → w3.heap[z]? = wq.heap[z]? := fun z hz => hgr3.block z hz (by simp [Value.ownBlock])
        have hcF : ¬ F' cb := fun h => (hI.out.F1 _ h).elim hFc (fun h => by omega)
        refine ⟨u5, F', rfl, (hI.out.srv.less (by omega)).kept (by simp; omega) (fun z hz => ?_), hI.out.F1, ?_, Or.inr ⟨by simp, (Value.slice ya (0 + bs.length) yc), by simpa using heapSet hc3 1 (Value.slice ya (0 + bs.length) yc), ?_, fun y hy hF => ?_, ?_⟩⟩
        · have hzc : z ≠ cb := fun e => hcF (e ▸ hz)
          exact (heapSetO hzc _ _).trans (hk3 z (hI.out.srv.lt z hz))
        · refine Keep.set ?_ (Or.inl (Or.inr rfl)) _ _
          exact ⟨hgr3.os.trans hI.out.keep.os, hgr3.tape.trans hI.out.keep.tape, hgr3.output.trans hI.out.keep.output, by omega, fun z hz hn => (hk3 z (by omega)).trans (hI.out.keep.block z hz (fun h => hn (Or.inl h)))⟩
        · refine own_kept (w := w3) ?_ (fun y hy => heapSetO (by have := hwv y hy; omega) _ _)
          simpa using hown3
        · have := hwv y hy
          have := hI.out.srv.lt y hF
          omega
        · refine own_kept (w := wq) hI.out.own (fun y hy => ?_)
          have h1 := hI.out.own.lt y hy
          exact (heapSetO (by omega) _ _).trans (hk3 y h1.2)
      · rw [h] at hrun ⊢
        have eV : errV 2 = .iface 53 (.int .i64 2) := rfl
        rw [eV]
        have HRUN := hide hrun
        have d1 := cellB hconn
        have d2 := frozenB hconn
        clear hrun I h h0 eV
        go_wp2_with fail
        refine (is_same 2 _).mono ?_
        rintro e wq ⟨rfl, rfl⟩
        go_wp2_with fail
        have hcF : ¬ F' cb := fun h => (hI.out.F1 _ h).elim hFc (fun h => by omega)
        obtain ⟨V, hV⟩ : ∃ V, V = (wq.setCell ⟨cb, 2, none⟩ (.bool true)).setCell ⟨cb, 1, none⟩ (.slice none 0 0) := ⟨_, rfl⟩
        rw [← hV]
        have hcV : V.heap[cb]? = some (.cells #[.pointer (some ⟨sb, 0, none⟩), .slice none 0 0, .bool true] 112) := by
          rw [hV]; simpa using heapSet (heapSet hconn 2 (.bool true)) 1 (.slice none 0 0)
        have hVo : ∀ z, z ≠ cb → V.heap[z]? = wq.heap[z]? := fun z hz => by rw [hV, heapSetO hz, heapSetO hz]
        have hVs : V.heap.size = wq.heap.size := by rw [hV]; simp
        have hVk : Keep (fun b => b = cb) wq V := by
          rw [hV]
          exact Keep.set (S := fun b => b = cb) (b := cb) (Keep.set (S := fun b => b = cb) (b := cb) (Keep.refl _ wq) (Or.inl rfl) _ _) (Or.inl rfl) _ _
        clear hV d1 d2
        refine (wrep 6 0 0 V (by omega) (by omega) (by omega) (by omega)).mono ?_
        rintro e w3 ⟨rfl, hown3, hb3⟩
        have hs3 := hb3.size
        have hown5 : w3.ownsRow w.heap.size 5 1 u5 (encs rs).length ((encs rs).map (Value.int .u8)) := own_kept hI.out.own (fun y hy => by
          have h1 := hI.out.own.lt y hy
          exact (hb3.block y (by omega)).trans (hVo y (by omega)))
        have hsrc3 : Src w3 (.slice (some ⟨V.heap.size + 1, 0, none⟩) 18 18) (encRep 6 0 0) := Src.of_own hown3
        have hel : (encRep 6 0 0).length = 18 := rfl
        have hbw3 : w.heap.size ≤ w3.heap.size := by omega
        have HVS := hide hVs
        have HOV := hide hVo
        clear hVs hVo
        have hk5 : (encs rs).length + 18 ≤ 4194304 := by rw [encs_length]; omega
        go_wp2_with (at_builtin; (refine wpList_append_srcA rfl _ _ rfl w.heap.size u5 (encs rs).length (encs rs) rfl hown5 (.slice (some ⟨V.heap.size + 1, 0, none⟩) 18 18) (encRep 6 0 0) rfl hsrc3 (by rw [hel]; exact hk5) hbw3 ?_; intro rv w4 hown4 hgr4 hloc4))
        go_ret
        rw [HRUN.out]
        have hVs := HVS.out
        have hVo := HOV.out
        have hs4 := hgr4.size
        have hk4 : ∀ z, z < wq.heap.size → (∀ y, u5.ownBlock = some y → y ≠ z) → z ≠ cb → w4.heap[z]? = wq.heap[z]? := fun z hz hy hc => (hgr4.block z (by omega) (fun e => hy z e.symm rfl)).trans ((hb3.block z (by omega)).trans (hVo z hc))
        have hu5 : ∀ y, u5.ownBlock = some y → w.heap.size ≤ y := fun y hy => (hI.out.own.lt y hy).1
        refine ⟨rv, F', rfl, (hI.out.srv.less (by omega)).kept (by omega) (fun z hz => ?_), hI.out.F1, ?_, Or.inl ⟨rfl, ?_, ?_⟩⟩
        · exact hk4 z (hI.out.srv.lt z hz) (fun y hy e => (hI.out.F3 y hy).1 (e ▸ hz)) (fun e => hcF (e ▸ hz))
        · have k1 : Keep (fun b => F b ∨ b = cb) w V := (hI.out.keep.mono (fun k h _ => Or.inl h)).then hVk (fun i _ h => Or.inr h)
          have k2 := k1.trans (Keep.of_below hb3)
          exact ⟨hgr4.os.trans k2.os, hgr4.tape.trans k2.tape, hgr4.output.trans k2.output, by omega, fun z hz hn => (hgr4.block z (by omega) (fun e => by have := hu5 z e.symm; omega)).trans (k2.block z hz hn)⟩
        · exact (hgr4.block cb (by omega) (fun e => by have := hu5 cb e.symm; omega)).trans ((hb3.block cb (by omega)).trans hcV)
        · rw [encs_snoc, List.length_append]
          exact hown4
end Go.Proofs.YtnlgndpcddngoaaGreatDoor

namespace Go.Proofs.YtnlgndpcddngoaaGreatDoor
open Go.RowKit
variable [dK] [iK]

theorem SrvK.own {db : Nat} {blk : Int} {k : Nat} {w : World} {st : Int} {sb : Nat} {L : Ld} {F : Nat → Prop} (h : SrvK db blk k w st sb L F) : F sb := by
  obtain ⟨c, _, _, _, h⟩ := h
  exact h.own
theorem SrvK.mem {db : Nat} {blk : Int} {k : Nat} {w : World} {st : Int} {sb : Nat} {L : Ld} {F : Nat → Prop} (h : SrvK db blk k w st sb L F) : ∃ mv mq ms, w.heap[sb]? = some (.cells #[.int .i32 st, .int .u32 0, .int .u64 L.time, mv, mq, ms, .int .u64 L.adm] 130) := by
  obtain ⟨c, _, h2, _, h⟩ := h
  obtain ⟨mp, g, FD, h1, _⟩ := h.mem
  subst h2
  exact ⟨_, _, _, h1⟩
theorem SrvK.lock {db : Nat} {blk : Int} {k : Nat} {w : World} {st : Int} {sb : Nat} {L : Ld} {F : Nat → Prop} (h : SrvK db blk k w st sb L F) (st' : Int) : SrvK db blk k (w.setCell ⟨sb, 0, none⟩ (.int .i32 st')) st' sb L F := by
  obtain ⟨c, k1, k2, k3, h⟩ := h
  obtain ⟨mp, g, FD, h1, h2, h3, h4, h5, h6, h7, h8, h9, h10, h11, h12, h13⟩ := h.mem
  exact ⟨c, k1, k2, k3, ⟨⟨mp, g, FD, by simpa using heapSet h1 0 (.int .i32 st'), MapG.kept h2 (heapSetO (fun e => h13 e.symm) _ _), h3.kept (heapSetO (fun e => h12 e.symm) _ _), h4.kept (by simp) (fun b hb => heapSetO (fun (e : b = sb) => h11 (e ▸ hb)) _ _), h5, h6, h7, h8, h9, h10, h11, h12, h13⟩, h.own, fun b hF => by rw [World.size_setCell]; exact h.lt b hF⟩⟩
theorem SrvK.pass {db : Nat} {blk : Int} {k : Nat} {w : World} {st : Int} {sb : Nat} {L : Ld} {F : Nat → Prop} (h : SrvK db blk k w st sb L F) (now : Int) (h0 : 0 ≤ now) (h9 : now ≤ 18446744073709551615) {w' : World} {mv mq ms : Value} (e1 : w.heap[sb]? = some (.cells #[.int .i32 st, .int .u32 0, .int .u64 L.time, mv, mq, ms, .int .u64 L.adm] 130)) (e2 : w'.heap[sb]? = some (.cells #[.int .i32 st, .int .u32 0, .int .u64 (passM L now).time, mv, mq, ms, .int .u64 L.adm] 130)) (hk : Keep (fun b => b = sb) w w') : SrvK db blk k w' st sb (passM L now) F := by
  obtain ⟨c, k1, k2, k3, h⟩ := h
  obtain ⟨mp, g, FD, h1, h2, h3, h4, h5, h6, h7, h8, h9', h10, h11, h12, h13⟩ := h.mem
  subst k2
  rw [h1] at e1
  simp at e1
  obtain ⟨_, rfl, rfl, rfl, _⟩ := e1
  refine ⟨⟨(passM c.ld now).time, c.adm, c.blk, c.es, c.turn, c.fsD, c.fsN⟩, ⟨?_, k1.adm, k1.blk, k1.turn, k1.nd, k1.key, k1.qt, k1.fit, k1.len⟩, rfl, k3, ⟨⟨mp, g, FD, e2, MapG.kept h2 (hk.block mp (h.lt mp h6) (fun e => h13 e.symm)), h3.kept (hk.block g (h.lt g h7) (fun e => h12 e.symm)), h4.kept hk.size (fun b hb => hk.block b (h.lt b (h5 b hb)) (fun e => h11 (e ▸ hb))), h5, h6, h7, h8, h9', h10, h11, h12, h13⟩, h.own, fun b hF => Nat.lt_of_lt_of_le (h.lt b hF) hk.size⟩⟩
  have := k1.time
  show 0 ≤ (passM c.ld now).time ∧ (passM c.ld now).time ≤ 18446744073709551615
  unfold passM
  show 0 ≤ (if c.ld.time < now then now else c.ld.time) ∧ (if c.ld.time < now then now else c.ld.time) ≤ 18446744073709551615
  have e : c.ld.time = c.time := rfl
  rw [e]
  split <;> omega
theorem passM_ok (L : Ld) (now : Int) (h : L.ok) (h0 : 0 ≤ now) (h1 : now ≤ 18446744073709551615) : (passM L now).ok := by
  refine ⟨?_, h.adm, h.key, h.qt, h.nd, h.len⟩
  have := h.time
  unfold passM
  dsimp only
  split <;> omega

/-- A connection in memory. -/
structure ConnAt (w : World) (sb cb : Nat) (c : Cn) (F : Nat → Prop) : Prop where
  mem : ∃ cw, w.heap[cb]? = some (.cells #[.pointer (some ⟨sb, 0, none⟩), cw, .bool c.bad] 112) ∧ Src w cw c.waits ∧ ∀ g o n d, cw = .slice (some ⟨g, o, none⟩) n d → ¬ F g ∧ g ≠ cb ∧ g < w.heap.size
  nF : ¬ F cb

set_option maxRecDepth 100000 in
set_option maxHeartbeats 4000000 in
theorem feed31_bad (db : Nat) (blk : Int) (k0 : Nat) (sb cb : Nat) (F : Nat → Prop) (L : Ld) (cw vb : Value) (now : Int) (w : World) (hS : SrvK db blk k0 w 0 sb L F) (hcb : w.heap[cb]? = some (.cells #[.pointer (some ⟨sb, 0, none⟩), cw, .bool true] 112)) (hF : ¬ F cb) (h0 : 0 ≤ now) (h1 : now ≤ 18446744073709551615) :
    Calls Tryz.prog 31 #[.pointer (some ⟨cb, 0, none⟩), .int .u64 now, vb] w fun e w' => e = .returned (.slice none 0 0) ∧ SrvK db blk k0 w' 0 sb (passM L now) F ∧ Keep F w w' := by
  have hne : cb ≠ sb := fun e => hF (e ▸ hS.own)
  have a1 := cellB hcb
  obtain ⟨mv, mq, ms, m1⟩ := hS.mem
  obtain ⟨W, hW⟩ : ∃ W, W = w.setCell ⟨sb, 0, none⟩ (.int .i32 1) := ⟨_, rfl⟩
  have hS1 : SrvK db blk k0 W 1 sb L F := hW ▸ hS.lock 1
  have hs1 : W.heap[sb]? = some (.cells #[.int .i32 1, .int .u32 0, .int .u64 L.time, mv, mq, ms, .int .u64 L.adm] 130) := by rw [hW]; simpa using heapSet m1 0 (.int .i32 1)
  have hc1 : W.heap[cb]? = some (.cells #[.pointer (some ⟨sb, 0, none⟩), cw, .bool true] 112) := hW ▸ (heapSetO hne _ _).trans hcb
  have hK1 : Keep F w W := hW ▸ (Keep.refl F w).set (Or.inl hS.own) _ _
  have a2 := cellB hc1
  go_enter_defers Tryz.func31, Tryz.ntmps31
  go_wp2_with (first | (go_at_call 45; refine (lockA ⟨sb, 0, none⟩ _ (cellB m1 0) (frozenB m1 0)).mono ?_; rintro e w' ⟨rfl, rfl⟩; rw [← hW]; clear hW) | (go_at_call 47; refine (bpass sb _ _ _ _ _ _ L.time now (passM L now).time rfl _ hs1).mono ?_; rintro e w2 ⟨rfl, hs2, hk2⟩; have hc2 := (hk2.block cb (ltB hc1) hne).trans hc1; have a3 := cellB hc2))
  refine leaves_cons (f := 46) (args := #[.pointer (some ⟨sb, 0, none⟩)]) (by simp) (by simp [go_sem]) ?_
  refine (unlockA ⟨sb, 0, none⟩ .returning _ (cellB hs2 0) (frozenB hs2 0)).mono ?_
  rintro e u' w'' ⟨rfl, rfl, rfl⟩
  have hS2 : SrvK db blk k0 w2 1 sb (passM L now) F := hS1.pass now h0 h1 hs1 hs2 hk2
  exact ⟨_, results_tmp rfl _ _ _, rfl, hS2.lock 0, (hK1.then hk2 (fun i _ h => h ▸ hS.own)).set (Or.inl hS.own) _ _⟩

/-- What waits in a connection lies where it lay, or in a new block. -/
def NewW (sb cb : Nat) (w w' : World) (b b' : Bool) : Prop := ∀ g, g < w.heap.size → (∀ cw, w.heap[cb]? = some (.cells #[.pointer (some ⟨sb, 0, none⟩), cw, .bool b] 112) → cw.ownBlock ≠ some g) → ∀ cw', w'.heap[cb]? = some (.cells #[.pointer (some ⟨sb, 0, none⟩), cw', .bool b'] 112) → cw'.ownBlock ≠ some g
/-- What a call of Feed leaves. -/
def FeedPost (db : Nat) (blk : Int) (k0 : Nat) (sb cb : Nat) (F : Nat → Prop) (L : Ld) (c : Cn) (now : Int) (bs : List Int) (w : World) (rv : Value) (w' : World) : Prop :=
  ∃ F', SrvK db blk k0 w' 0 sb (feedM L c now bs).1 F' ∧ ConnAt w' sb cb (feedM L c now bs).2.1 F' ∧ (∀ b, F' b → F b ∨ w.heap.size ≤ b) ∧ Keep (fun b => F b ∨ b = cb) w w' ∧ w'.ownsRow w.heap.size 5 1 rv (encs (feedM L c now bs).2.2).length ((encs (feedM L c now bs).2.2).map (Value.int .u8)) ∧ NewW sb cb w w' c.bad (feedM L c now bs).2.1.bad

set_option maxRecDepth 100000 in
set_option maxHeartbeats 4000000 in
theorem feed31 (db : Nat) (blk : Int) (k0 : Nat) (sb cb : Nat) (F : Nat → Prop) (L : Ld) (c : Cn) (vb : Value) (now : Int) (bs : List Int) (w : World) (hS : SrvK db blk (4 * (c.waits.length + bs.length) + k0) w 0 sb L F) (hL : L.ok) (h0 : 0 ≤ now) (h1 : now ≤ 18446744073709551615) (hC : ConnAt w sb cb c F) (hs : Src w vb bs) (hby : Bytes bs) (hbw : Bytes c.waits) (hlen : c.waits.length + bs.length ≤ 100000)
    (hvF : ∀ g o n d, vb = .slice (some ⟨g, o, none⟩) n d → ¬ F g)
    (hdo : Hid (∀ kk w1 L F1 q, SrvK db blk (kk + 4) w1 1 sb L F1 → L.ok → q.ok → Calls Tryz.prog 74 #[.pointer (some ⟨sb, 0, none⟩), .agg #[.int .u8 q.op, .int .u8 q.k0, .int .u8 q.k1, .int .u8 q.k2, .int .u8 q.k3, .int .u8 q.k4, .int .u8 q.k5, .int .u8 q.k6, .int .u8 q.k7, .int .u8 q.kd, .int .u64 q.x, .int .u64 q.y, .int .u64 q.n]] w1 fun e w' => e = .returned (.agg #[.int .u8 (doM L q).2.c, .int .u64 (doM L q).2.a, .int .u64 (doM L q).2.b]) ∧ OutK db blk kk w1 1 sb (doM L q).1 F1 w')) :
    Calls Tryz.prog 31 #[.pointer (some ⟨cb, 0, none⟩), .int .u64 now, vb] w fun e w' => ∃ rv, e = .returned rv ∧ FeedPost db blk k0 sb cb F L c now bs w rv w' := by
  obtain ⟨cw, hcb, hsw, hcw⟩ := hC.mem
  have hF := hC.nF
  cases hb : c.bad with
  | true =>
    rw [hb] at hcb
    refine (feed31_bad db blk k0 sb cb F L cw vb now w (hS.less (by omega)) hcb hF h0 h1).mono ?_
    rintro e w' ⟨rfl, g1, g2⟩
    have em : feedM L c now bs = (passM L now, c, []) := by unfold feedM; rw [if_pos hb]
    refine ⟨_, rfl, F, ?_, ⟨⟨cw, ?_, ?_, fun g o n d h => ⟨(hcw g o n d h).1, (hcw g o n d h).2.1, Nat.lt_of_lt_of_le (hcw g o n d h).2.2 g2.size⟩⟩, ?_⟩, fun b h => Or.inl h, g2.mono (fun k h _ => Or.inl h), ?_, ?_⟩
    · rw [em]; exact g1
    · rw [em]; rw [hb]; exact (g2.block cb (ltB hcb) hF).trans hcb
    · rw [em]; exact hsw.kept g2.size (fun g o n d h hg => g2.block g hg (hcw g o n d h).1)
    · exact hF
    · rw [em]; exact World.ownsRow_nil _ _ _ _
    · rw [em]
      intro g _ h cw' hcw'
      rw [hb] at h hcw'
      exact h cw' (((g2.block cb (ltB hcb) hF).symm.trans hcw'))
  | false =>
    rw [hb] at hcb
    have hne : cb ≠ sb := fun e => hF (e ▸ hS.own)
    have hFl := hS.lt
    have a1 := cellB hcb
    obtain ⟨mv, mq, ms, m1⟩ := hS.mem
    obtain ⟨W, hW⟩ : ∃ W, W = w.setCell ⟨sb, 0, none⟩ (.int .i32 1) := ⟨_, rfl⟩
    have hS1 : SrvK db blk (4 * (c.waits.length + bs.length) + k0) W 1 sb L F := hW ▸ hS.lock 1
    have hs1 : W.heap[sb]? = some (.cells #[.int .i32 1, .int .u32 0, .int .u64 L.time, mv, mq, ms, .int .u64 L.adm] 130) := by rw [hW]; simpa using heapSet m1 0 (.int .i32 1)
    have hc1 : W.heap[cb]? = some (.cells #[.pointer (some ⟨sb, 0, none⟩), cw, .bool false] 112) := hW ▸ (heapSetO hne _ _).trans hcb
    have hK1 : Keep F w W := hW ▸ (Keep.refl F w).set (Or.inl hS.own) _ _
    have a2 := cellB hc1
    obtain ⟨x1, c1, e1⟩ := hsw.shape
    obtain ⟨x2, c2, e2⟩ := hs.shape
    have HSW := hide hsw
    have HSB := hide hs
    have HCW := hide hcw
    have HVF := hide hvF
    clear hsw hs hcw hvF
    subst e1 e2
    go_enter_defers Tryz.func31, Tryz.ntmps31
    go_wp2_with (first | (go_at_call 45; refine (lockA ⟨sb, 0, none⟩ _ (cellB m1 0) (frozenB m1 0)).mono ?_; rintro e w' ⟨rfl, rfl⟩; rw [← hW]; clear hW) | (go_at_call 47; refine (bpass sb _ _ _ _ _ _ L.time now (passM L now).time rfl _ hs1).mono ?_; rintro e w2 ⟨rfl, hs2, hk2⟩; have hc2 := (hk2.block cb (ltB hc1) hne).trans hc1; have a3 := cellB hc2))
    have hS2 : SrvK db blk (4 * (c.waits.length + bs.length) + k0) w2 1 sb (passM L now) F := hS1.pass now h0 h1 hs1 hs2 hk2
    have hK2 : Keep F w w2 := hK1.then hk2 (fun i _ h => h ▸ hS.own)
    have hsz2 := hK2.size
    obtain ⟨V, hV⟩ : ∃ V, V = w2.alloc (.cells #[.slice x1 c.waits.length c1, .slice x2 bs.length c2] 76) := ⟨_, rfl⟩
    have hA : V.heap[w2.heap.size]? = some (.cells #[.slice x1 c.waits.length c1, .slice x2 bs.length c2] 76) := hV ▸ heapNew _ _
    have hKV : Keep F w V := hV ▸ hK2.alloc _
    have hSV : SrvK db blk (4 * (c.waits.length + bs.length) + k0) V 1 sb (passM L now) F := hV ▸ hS2.kept (by simp) (fun b hb => heapOld _ _ (hS2.lt b hb))
    have hcV : V.heap[cb]? = some (.cells #[.pointer (some ⟨sb, 0, none⟩), .slice x1 c.waits.length c1, .bool false] 112) := hV ▸ upB hc2 _
    have hwV : Src V (.slice x1 c.waits.length c1) c.waits := HSW.out.kept hKV.size (fun g o n d h hg => hKV.block g hg (HCW.out g o n d h).1)
    have hbV : Src V (.slice x2 bs.length c2) bs := HSB.out.kept hKV.size (fun g o n d h hg => hKV.block g hg (HVF.out g o n d h))
    have hszV := hKV.size
    rw [← hV]
    clear hV
    refine (concat2 w2.heap.size _ _ c.waits bs _ V hA hwV hbV (by omega) (by omega)).mono ?_
    rintro e w3 ⟨v3, rfl, hown3, hb3⟩
    have hS3 := hSV.below hb3 (Nat.le_refl _)
    have hc3 := (hb3.block cb (ltB hcV)).trans hcV
    have hsz3 := hb3.size
    clear a1 a2 a3
    go_wp2_with fail
    refine (read48 db blk k0 1 sb cb F (passM L now) (c.waits ++ bs) v3 _ _ w3 (by rw [List.length_append]; exact hS3) (passM_ok L now hL h0 h1) hc3 hF (Sl.of_own hown3) (fun g o n d h => by
        have h2 := hown3.lt g (by rw [h]; rfl)
        exact ⟨h2.2, fun hFg => by have := hFl g hFg; omega⟩) (hbw.app hby) (by rw [List.length_append]; exact hlen) hdo).mono ?_
    rintro e w4 ⟨rv, F', rfl, hS4, hF4, hK4, hpost⟩
    go_wp2_with fail
    obtain ⟨mv4, mq4, ms4, m4⟩ := hS4.mem
    refine leaves_cons (f := 46) (args := #[.pointer (some ⟨sb, 0, none⟩)]) (by simp) (by simp [go_sem]) ?_
    refine (unlockA ⟨sb, 0, none⟩ .returning _ (cellB m4 0) (frozenB m4 0)).mono ?_
    rintro e u' w'' ⟨rfl, rfl, rfl⟩
    refine ⟨_, results_tmp rfl _ _ _, _, rfl, ?_⟩
    have hKK : Keep (fun b => F b ∨ b = cb) w w4 := ((hKV.trans (Keep.of_below hb3)).mono (fun k h _ => Or.inl h)).then hK4 (fun i hi h => h)
    have hsb := hFl sb hS.own
    have hcl : cb < w.heap.size := ltB hcb
    have hsz4 := hK4.size
    have hF'c : ¬ F' cb := fun h => (hF4 cb h).elim hF (fun h => by omega)
    have em : feedM L c now bs = if (runL (passM L now) (c.waits ++ bs)).2.2.2 = 2 then ((runL (passM L now) (c.waits ++ bs)).1, ⟨[], true⟩, (runL (passM L now) (c.waits ++ bs)).2.1 ++ [⟨6, 0, 0⟩]) else ((runL (passM L now) (c.waits ++ bs)).1, ⟨(runL (passM L now) (c.waits ++ bs)).2.2.1, false⟩, (runL (passM L now) (c.waits ++ bs)).2.1) := by
      unfold feedM
      rw [if_neg (by rw [hb]; simp)]
      rfl
    have hFF : ∀ b, F' b → F b ∨ w.heap.size ≤ b := fun b h => (hF4 b h).imp id (fun h => by omega)
    have hown_set : ∀ v n xs, w4.ownsRow w3.heap.size 5 1 v n xs → (w4.setCell ⟨sb, 0, none⟩ (.int .i32 0)).ownsRow w.heap.size 5 1 v n xs := fun v n xs h => own_down (b := w3.heap.size) (by omega) (own_kept h (fun g hg => heapSetO (by have := (h.lt g hg).1; omega) _ _))
    rcases hpost with ⟨p1, p2, p3⟩ | ⟨p1, wv, p2, p3, p4, p5⟩
    · rw [if_pos p1] at em
      refine ⟨F', ?_, ⟨⟨.slice none 0 0, ?_, Or.inl ⟨by rw [em], Or.inl rfl⟩, fun g o n d h => by simp at h⟩, hF'c⟩, hFF, hKK.set (Or.inl (Or.inl hS.own)) _ _, ?_, ?_⟩
      · rw [em]; exact hS4.lock 0
      · rw [em]; exact (heapSetO hne _ _).trans p2
      · rw [em]; exact hown_set _ _ _ p3
      · rw [em]
        intro g _ _ cw' hcw'
        rw [heapSetO hne, p2] at hcw'
        injection hcw' with hcw'
        injection hcw' with hcw' _ _
        simp at hcw'
        subst hcw'
        simp [Value.ownBlock]
    · rw [if_neg p1] at em
      refine ⟨F', ?_, ⟨⟨wv, ?_, ?_, fun g o n d h => ?_⟩, hF'c⟩, hFF, hKK.set (Or.inl (Or.inl hS.own)) _ _, ?_, ?_⟩
      · rw [em]; exact hS4.lock 0
      · rw [em]; exact (heapSetO hne _ _).trans p2
      · rw [em]; exact Src.of_own (hown_set _ _ _ p3)
      · have hg : wv.ownBlock = some g := by rw [h]; rfl
        refine ⟨p4 g hg, fun e => ?_, ?_⟩
        · have := (p3.lt g hg).1
          omega
        · rw [World.size_setCell]; exact (p3.lt g hg).2
      · rw [em]; exact hown_set _ _ _ p5
      · rw [em]
        intro g hg _ cw' hcw' hown
        rw [heapSetO hne, p2] at hcw'
        injection hcw' with hcw'
        injection hcw' with hcw' _ _
        simp at hcw'
        subst hcw'
        have := (p3.lt g hown).1
        omega
end Go.Proofs.YtnlgndpcddngoaaGreatDoor

namespace Go.Proofs.YtnlgndpcddngoaaGreatDoor
open Go.RowKit Go.Maps
variable [dK] [iK]

/-- Server.do as Conn.read and Conn.Feed want it, given what a sweep does. -/
theorem srvDo (db : Nat) (blk st : Int) (sb : Nat) (hsw : ∀ g kk, Hid (Sweeps g db kk)) :
    Hid (∀ kk w1 L F1 q, SrvK db blk (kk + 4) w1 st sb L F1 → L.ok → q.ok → Calls Tryz.prog 74 #[.pointer (some ⟨sb, 0, none⟩), .agg #[.int .u8 q.op, .int .u8 q.k0, .int .u8 q.k1, .int .u8 q.k2, .int .u8 q.k3, .int .u8 q.k4, .int .u8 q.k5, .int .u8 q.k6, .int .u8 q.k7, .int .u8 q.kd, .int .u64 q.x, .int .u64 q.y, .int .u64 q.n]] w1 fun e w' => e = .returned (.agg #[.int .u8 (doM L q).2.c, .int .u64 (doM L q).2.a, .int .u64 (doM L q).2.b]) ∧ OutK db blk kk w1 st sb (doM L q).1 F1 w') :=
  hide (fun kk w1 L F1 q hS _ hq => by
    obtain ⟨c, hc, rfl, hb, hL⟩ := hS
    refine (do74 st sb db kk c F1 q w1 hL hc hq (hide (fun w2 h2 => snap115 st sb db kk c F1 w2 h2 hc (fun g => hsw g kk)))).mono ?_
    rintro e w' ⟨rfl, hO⟩
    exact ⟨rfl, hO.k hb⟩)

/-- Conn.Feed, given what a sweep does. -/
theorem feed31s (db : Nat) (blk : Int) (k0 : Nat) (sb cb : Nat) (F : Nat → Prop) (L : Ld) (c : Cn) (vb : Value) (now : Int) (bs : List Int) (w : World) (hS : SrvK db blk (4 * (c.waits.length + bs.length) + k0) w 0 sb L F) (h0 : 0 ≤ now) (h1 : now ≤ 18446744073709551615) (hC : ConnAt w sb cb c F) (hs : Src w vb bs) (hby : Bytes bs) (hbw : Bytes c.waits) (hlen : c.waits.length + bs.length ≤ 100000)
    (hvF : ∀ g o n d, vb = .slice (some ⟨g, o, none⟩) n d → ¬ F g) (hsw : ∀ g kk, Hid (Sweeps g db kk)) :
    Calls Tryz.prog 31 #[.pointer (some ⟨cb, 0, none⟩), .int .u64 now, vb] w fun e w' => ∃ rv, e = .returned rv ∧ FeedPost db blk k0 sb cb F L c now bs w rv w' :=
  feed31 db blk k0 sb cb F L c vb now bs w hS hS.lok h0 h1 hC hs hby hbw hlen hvF (srvDo db blk 1 sb hsw)
end Go.Proofs.YtnlgndpcddngoaaGreatDoor

namespace Go.Proofs.YtnlgndpcddngoaaGreatDoor
open Go.RowKit Go.Maps
variable [dK] [iK]

theorem methodRemove (h : Value) (w : World) : (Go.method 510 78 h "Remove").run Tryz.prog w = .ok (257, h) w := by kernel_rfl

set_option maxRecDepth 100000 in
set_option maxHeartbeats 2000000 in
/-- What a sweep does. -/
theorem sweep162 (g db k : Nat) : Sweeps g db k := by
  intro w t fsD fsN F ht hS hD hgF
  obtain ⟨mb, nb, l, f, m1, m2, m3, m4, m5, m6, m7, m8⟩ := hD.mem
  obtain ⟨T, hT⟩ : ∃ T, IntKind.u64.wrap (t - 1) = T := ⟨_, rfl⟩
  have hT0 : 0 ≤ T ∧ T ≤ 18446744073709551615 := by rw [← hT, IntKind.wrap_u64]; omega
  obtain ⟨x, hx⟩ : ∃ x, x = (T % 2 == 1) := ⟨_, rfl⟩
  have HNA := name_any T w hT0.1 hT0.2
  rw [← hx] at HNA
  have HNA := hide HNA
  have HNM := hide (names255 db nb _ _ _ _ fsN w m1 m3)
  have hgl := hS.lt
  have hdl := hD.lt db hD.own
  have hgd : g ≠ db := fun e => hgF (e ▸ hD.own)
  have hgm : g ≠ mb := fun e => hgF (e ▸ m6)
  have hgn : g ≠ nb := fun e => hgF (e ▸ m7)
  have hmd : mb ≠ db := m2.map.ne m1
  have hnd : nb ≠ db := m3.map.ne m1
  have a1 := hS.turn
  have a2 := hS.dsk
  have hmn := methodNames (.pointer (some ⟨db, 0, none⟩))
  have hmr := methodRemove (.pointer (some ⟨db, 0, none⟩))
  have hms := methodSync (.pointer (some ⟨db, 0, none⟩))
  have HM1 := hide m1
  have HM2 := hide m2
  have HM3 := hide m3
  have HM4 := hide (And.intro m4 m5)
  have HD := hide hD
  have HS := hide hS
  have HHT := hide ht
  clear m1 m2 m3 m4 m5 hD hS ht hx hT0
  go_enter Tryz.func162, Tryz.ntmps162
  go_wp2_with fail
  refine HNA.out.mono ?_
  rintro e w' ⟨rfl, he⟩
  have he' := he.symm
  clear he
  subst he'
  go_wp2_with fail
  refine HNM.out.mono ?_
  rintro e w1 ⟨v, bs, rfl, hbs, hnl, hnm, hb1⟩
  have HC := contains146 v bs x w1 hnm hnl
  obtain ⟨r, hr⟩ : ∃ r, r = bs.any (fun y => x == y) := ⟨_, rfl⟩
  rw [← hr] at HC
  have HC := hide HC
  have HBS := hide hbs
  have HR := hide hr
  have hS1 : StoAt w1 g db t := HS.out.kept (hb1.block g hgl)
  have hD1 : DskAt w1 db (k + 2) fsD fsN F := HD.out.kept hb1.size (fun b hb => hb1.block b (HD.out.lt b hb))
  have HS1 := hide hS1
  have HD1 := hide hD1
  have HB1 := hide hb1
  have b1 := hS1.dsk
  clear hbs hr hS1 hD1 hb1 hnm a1 a2 HNA HNM
  cases r
  · go_wp2_with (go_at_call 146; refine HC.out.mono ?_; rintro e w' ⟨rfl, he⟩; have he' := he.symm; clear he; subst he')
    go_ret
    exact ⟨rfl, t, fsD, fsN, F, HHT.out, HS1.out, HD1.out.less (by omega), fun b hb => Or.inl hb, Keep.of_below HB1.out⟩
  · have hin : (fndG x fsN).isSome = true := by
      refine (HBS.out x).1 ?_
      obtain ⟨y, hy, hxy⟩ := List.any_eq_true.1 HR.out.symm
      have : x = y := by simpa using hxy
      exact this ▸ hy
    have m1 := (HB1.out.block db hdl).trans HM1.out
    have m3 : DirAt w1 nb fsN := HM3.out.kept (HB1.out.block nb (HD.out.lt nb m7)) (fun p hp => HB1.out.block _ (HD.out.lt _ (HD.out.sN p hp)))
    have m2 : DirAt w1 mb fsD := HM2.out.kept (HB1.out.block mb (HD.out.lt mb m6)) (fun p hp => HB1.out.block _ (HD.out.lt _ (HD.out.sD p hp)))
    have h4 := HM4.out
    have HRM := hide (remove257 db nb (.map (some mb)) fsN x l f w1 m1 m3 (by omega) (by omega) hin)
    have HM21 := hide m2
    have HM31 := hide m3
    have HM11 := hide m1
    clear m1 m2 m3 h4
    go_wp2_with (first | (go_at_call 146; refine HC.out.mono ?_; rintro e w' ⟨rfl, he⟩; have he' := he.symm; clear he; subst he') | fail)
    refine HRM.out.mono ?_
    rintro e w2 ⟨rfl, pv, q1, q2, q3, q4⟩
    have hS2 : StoAt w2 g db t := HS1.out.kept (q4.block g HS1.out.lt (fun h => h.elim hgd hgn))
    have hM2 : DirAt w2 mb fsD := HM21.out.keep q4 (fun h => h.elim hmd m8) (fun p hp h => by
      have h1 := HM21.out.str p hp
      rcases h with h | h
      · rw [h, HM11.out] at h1; simp at h1
      · rw [h] at h1; exact HM31.out.map.ne h1 rfl)
    have h4 := HM4.out
    have HSY := hide (sync258d db mb w1.heap.size (.map (some nb)) pv fsD x ⟨#[]⟩ (l - 1) (f - 1) w2 q1 hM2 (by omega) (by omega) q3)
    have c1 := hS2.dsk
    have HS2 := hide hS2
    have HQ := hide (And.intro q1 (And.intro q2 q4))
    have HM22 := hide hM2
    clear q1 q2 q3 q4 hS2 hM2 h4 b1
    go_wp2_with fail
    refine HSY.out.mono ?_
    rintro e w3 ⟨rfl, gg, r1, r2, r3, r4⟩
    have HRR := hide (And.intro r1 (And.intro r3 r4))
    clear r1 r2 r3 r4
    go_wp2
    go_ret
    obtain ⟨r1, r3, r4⟩ := HRR.out
    obtain ⟨q1, q2, q4⟩ := HQ.out
    have h4 := HM4.out
    have hN3 : DirAt w3 nb (delG x fsN) := q2.keep r4 (fun h => h.elim hnd (fun e => m8 e.symm)) (fun p hp h => by
      have h1 := q2.str p hp
      rcases h with h | h
      · rw [h, q1] at h1; simp at h1
      · rw [h] at h1; exact HM22.out.map.ne h1 rfl)
    have s1 := HB1.out.size
    have s2 := q4.size
    have s3 := r4.size
    refine ⟨rfl, t, delG x fsD, delG x fsN, F, HHT.out, HS2.out.kept (r4.block g HS2.out.lt (fun h => h.elim hgd hgm)), ⟨⟨mb, nb, l - 1 - 1, f - 1 - 1, r1, r3, hN3, by omega, by omega, m6, m7, m8⟩, fun p hp => HD.out.sD p (delG_sub.subset hp), fun p hp => HD.out.sN p (delG_sub.subset hp), HD.out.own, fun b hb => by have := HD.out.lt b hb; omega⟩, fun b hb => Or.inl hb, ?_⟩
    refine ((Keep.of_below HB1.out).then q4 (fun i _ h => ?_)).then r4 (fun i _ h => ?_)
    · rcases h with h | h
      · exact Or.inr (h ▸ HD.out.own)
      · exact Or.inr (h ▸ m7)
    · rcases h with h | h
      · exact Or.inr (h ▸ HD.out.own)
      · exact Or.inr (h ▸ m6)
theorem sweeps (g db k : Nat) : Hid (Sweeps g db k) := hide (sweep162 g db k)
end Go.Proofs.YtnlgndpcddngoaaGreatDoor

namespace Go.Proofs.YtnlgndpcddngoaaGreatDoor
open Go.RowKit Go.Maps
variable [dK] [iK]

set_option maxRecDepth 100000 in
set_option maxHeartbeats 2000000 in
/-- Open over a disk with no file. -/
theorem open34 (db mb nb : Nat) (blk : Int) (w : World) (hblk : 0 ≤ blk ∧ blk ≤ 18446744073709551615) (hd : w.heap[db]? = some (.cells #[.map (some mb), .map (some nb), .slice none 0 0, .int .i64 (-1), .int .i64 (-1), .bool false] 88)) (hM : w.heap[mb]? = some (.map #[] 0)) (hN : w.heap[nb]? = some (.map #[] 0)) (hmn : mb ≠ nb) :
    Calls Tryz.prog 34 #[.iface 78 (.pointer (some ⟨db, 0, none⟩)), .int .u64 blk] w fun e w' => ∃ sb F, e = .returned (.tuple #[.pointer (some ⟨sb, 0, none⟩), .nilIface]) ∧ w.heap.size ≤ sb ∧ SrvK db blk 4000000 w' 0 sb ⟨0, 0, []⟩ F ∧ (∀ b, F b → b = db ∨ b = mb ∨ b = nb ∨ w.heap.size ≤ b) ∧ Below w.heap.size w w' := by
  have HO := hide (openbook50 db nb _ _ _ _ blk w hd (DirAt.empty hN))
  have hdl := ltB hd
  have hml := ltB hM
  have hnl := ltB hN
  have HD := hide hd
  have HM := hide hM
  have HN := hide hN
  clear hd hM hN
  go_enter Tryz.func34, Tryz.ntmps34
  go_wp2_with fail
  refine HO.out.mono ?_
  rintro e w1 ⟨g, mp, rfl, q1, q2, q3, q4, q5, q6⟩
  have HQ := hide (And.intro q1 (And.intro q2 (And.intro q3 (And.intro q4 (And.intro q5 q6)))))
  clear q1 q2 q3 q4 q5 q6
  go_wp2
  go_ret2
  obtain ⟨q1, q2, q3, q4, q5, q6⟩ := HQ.out
  have s1 := q6.size
  have gl := q5.lt
  have ml := ltB q4
  obtain ⟨W, hW⟩ : ∃ W, W = (w1.alloc (.cells #[.int .u64 0, .int .u64 blk, .map (some mp), .pointer (some ⟨g, 0, none⟩)] 124)).alloc (.cells #[.int .i32 0, .int .u32 0, .int .u64 0, .int .u64 blk, .map (some mp), .pointer (some ⟨g, 0, none⟩), .int .u64 0] 130) := ⟨_, rfl⟩
  have up : ∀ k, k < w1.heap.size → W.heap[k]? = w1.heap[k]? := fun k hk => by rw [hW, heapOld _ _ (by simp; omega), heapOld _ _ hk]
  have old : ∀ k, k < w.heap.size → W.heap[k]? = w.heap[k]? := fun k hk => (up k (by omega)).trans (q6.block k hk)
  have hsb : W.heap[w1.heap.size + 1]? = _ := hW ▸ heapN (by simp)
  have hsW : W.heap.size = w1.heap.size + 2 := by rw [hW]; simp
  have hBW : Below w.heap.size w W := hW ▸ (q6.alloc s1 _).alloc (by simp; omega) _
  refine ⟨w1.heap.size + 1, fun b => b = db ∨ b = mb ∨ b = nb ∨ b = w1.heap.size + 1 ∨ b = mp ∨ b = g, by simp, by omega, ?_, fun b hb => ?_, by rw [← hW]; exact hBW⟩
  · rw [← hW]
    refine ⟨⟨0, 0, blk, [], 0, [], []⟩, ⟨by simp, by simp, hblk, by simp, by simp, fun p hp => (by cases hp), fun p hp => (by cases hp), fun p hp => (by cases hp), by simp⟩, rfl, rfl, ⟨⟨mp, g, fun b => b = db ∨ b = mb ∨ b = nb, hsb, MapG.empty ((up mp ml).trans q4), q5.kept (up g gl), ⟨⟨mb, nb, -1, -1, (old db hdl).trans HD.out, DirAt.empty ((old mb hml).trans HM.out), DirAt.empty ((old nb hnl).trans HN.out), by omega, by omega, Or.inr (Or.inl rfl), Or.inr (Or.inr rfl), hmn⟩, fun p hp => (by cases hp), fun p hp => (by cases hp), Or.inl rfl, fun b hb => ?_⟩, fun b hb => ?_, ?_, ?_, fun h => ?_, fun h => ?_, fun e => q3 e.symm, fun h => ?_, by omega, by omega⟩, ?_, fun b hb => ?_⟩⟩
    · rcases hb with h | h | h <;> (rw [h]; omega)
    · rcases hb with h | h | h
      · exact Or.inl h
      · exact Or.inr (Or.inl h)
      · exact Or.inr (Or.inr (Or.inl h))
    · exact Or.inr (Or.inr (Or.inr (Or.inr (Or.inl rfl))))
    · exact Or.inr (Or.inr (Or.inr (Or.inr (Or.inr rfl))))
    · rcases h with h | h | h <;> omega
    · rcases h with h | h | h <;> omega
    · rcases h with h | h | h <;> omega
    · exact Or.inr (Or.inr (Or.inr (Or.inl rfl)))
    · rcases hb with h | h | h | h | h | h <;> (rw [h]; omega)
  · rcases hb with h | h | h | h | h | h
    · exact Or.inl h
    · exact Or.inr (Or.inl h)
    · exact Or.inr (Or.inr (Or.inl h))
    · exact Or.inr (Or.inr (Or.inr (by omega)))
    · exact Or.inr (Or.inr (Or.inr (by omega)))
    · exact Or.inr (Or.inr (Or.inr (by omega)))

set_option maxRecDepth 100000 in
theorem connect25 (sb : Nat) (w : World) : Calls Tryz.prog 29 #[.pointer (some ⟨sb, 0, none⟩)] w fun e w' => e = .returned (.pointer (some ⟨w.heap.size, 0, none⟩)) ∧ w' = w.alloc (.cells #[.pointer (some ⟨sb, 0, none⟩), .slice none 0 0, .bool false] 112) := by
  go_enter Tryz.func29, Tryz.ntmps29
  go_wp2
  go_ret
  exact ⟨rfl, rfl⟩
end Go.Proofs.YtnlgndpcddngoaaGreatDoor

namespace Go.Proofs.YtnlgndpcddngoaaGreatDoor
open Go.RowKit Go.Maps
variable [dK] [iK]

theorem SrvK.dskF {db : Nat} {blk : Int} {k : Nat} {w : World} {st : Int} {sb : Nat} {L : Ld} {F : Nat → Prop} (h : SrvK db blk k w st sb L F) : F db := by
  obtain ⟨c, _, _, _, h⟩ := h
  obtain ⟨mp, g, FD, _, _, _, h4, h5, _⟩ := h.mem
  exact h5 db h4.own
theorem SrvK.dsk {db : Nat} {blk : Int} {k : Nat} {w : World} {st : Int} {sb : Nat} {L : Ld} {F : Nat → Prop} (h : SrvK db blk k w st sb L F) : ∃ mb nb l f, w.heap[db]? = some (.cells #[.map (some mb), .map (some nb), .slice none 0 0, .int .i64 l, .int .i64 f, .bool false] 88) := by
  obtain ⟨c, _, _, _, h⟩ := h
  obtain ⟨mp, g, FD, _, _, _, h4, _⟩ := h.mem
  obtain ⟨mb, nb, l, f, h1, _⟩ := h4.mem
  exact ⟨mb, nb, l, f, h1⟩
/-- The disk is told anew that it never goes down. -/
theorem SrvK.refill {db : Nat} {blk : Int} {k : Nat} {w w' : World} {st : Int} {sb : Nat} {L : Ld} {F : Nat → Prop} (h : SrvK db blk k w st sb L F) {mb nb : Nat} {l f : Int} (hd : w.heap[db]? = some (.cells #[.map (some mb), .map (some nb), .slice none 0 0, .int .i64 l, .int .i64 f, .bool false] 88))
    (hd' : w'.heap[db]? = some (.cells #[.map (some mb), .map (some nb), .slice none 0 0, .int .i64 (-1), .int .i64 (-1), .bool false] 88)) (hs : w.heap.size ≤ w'.heap.size) (hk : ∀ b, F b → b ≠ db → w'.heap[b]? = w.heap[b]?) : SrvK db blk 4000000 w' st sb L F := by
  obtain ⟨c, k1, k2, k3, h⟩ := h
  obtain ⟨mp, g, FD, h1, h2, h3, h4, h5, h6, h7, h8, h9, h10, h11, h12, h13⟩ := h.mem
  obtain ⟨mb', nb', l', f', m1, m2, m3, m4, m5, m6, m7, m8⟩ := h4.mem
  rw [hd] at m1
  simp at m1
  obtain ⟨rfl, rfl, _, _⟩ := m1
  have ne : ∀ x, ¬ FD x → x ≠ db := fun x hx e => hx (e ▸ h4.own)
  have nm : mb ≠ db := m2.map.ne hd
  have nn : nb ≠ db := m3.map.ne hd
  have ns : ∀ (p : Bool × (Nat × ByteArray)), w.heap[p.2.1]? = some (.cells #[.string p.2.2] 9) → p.2.1 ≠ db := fun p hp e => by rw [e, hd] at hp; simp at hp
  exact ⟨c, k1, k2, k3, ⟨⟨mp, g, FD, (hk sb h.own (ne sb h11)).trans h1, MapG.kept h2 (hk mp h6 (ne mp h9)), h3.kept (hk g h7 (ne g h8)), ⟨⟨mb, nb, -1, -1, hd', m2.kept (hk mb (h5 _ m6) nm) (fun p hp => hk _ (h5 _ (h4.sD p hp)) (ns p (m2.str p hp))), m3.kept (hk nb (h5 _ m7) nn) (fun p hp => hk _ (h5 _ (h4.sN p hp)) (ns p (m3.str p hp))), by omega, by omega, m6, m7, m8⟩, h4.sD, h4.sN, h4.own, fun b hF => Nat.lt_of_lt_of_le (h4.lt b hF) hs⟩, h5, h6, h7, h8, h9, h10, h11, h12, h13⟩, h.own, fun b hF => Nat.lt_of_lt_of_le (h.lt b hF) hs⟩⟩
end Go.Proofs.YtnlgndpcddngoaaGreatDoor

namespace Go.Proofs.YtnlgndpcddngoaaGreatDoor
open Go.RowKit
variable [dK] [iK]

set_option maxRecDepth 100000 in
set_option maxHeartbeats 2000000 in
theorem hostopen16 (hb db nb mb : Nat) (sv cv : Value) (blk l f : Int) (w : World) (hblk : 0 ≤ blk ∧ blk ≤ 18446744073709551615) (hh : w.heap[hb]? = some (.cells #[.pointer (some ⟨db, 0, none⟩), sv, cv, .int .u64 blk] 82)) (hd : w.heap[db]? = some (.cells #[.map (some mb), .map (some nb), .slice none 0 0, .int .i64 l, .int .i64 f, .bool false] 88)) (hm : w.heap[mb]? = some (.map #[] 0)) (hn : w.heap[nb]? = some (.map #[] 0)) (hmn : mb ≠ nb) :
    Calls Tryz.prog 20 #[.pointer (some ⟨hb, 0, none⟩), .int .i64 (-1), .int .i64 (-1), .int .i64 0, .int .i64 0] w fun e w' => ∃ sb F, e = .returned (.int .i64 0) ∧ w.heap.size ≤ sb ∧ w'.heap[hb]? = some (.cells #[.pointer (some ⟨db, 0, none⟩), .pointer (some ⟨sb, 0, none⟩), .slice none 0 0, .int .u64 blk] 82) ∧ SrvK db blk 0 w' 0 sb ⟨0, 0, []⟩ F ∧ (∀ b, F b → b = db ∨ b = mb ∨ b = nb ∨ w.heap.size ≤ b) ∧ ¬ F hb ∧ Keep (fun b => b = hb ∨ b = db) w w' := by
  have lh := ltB hh
  have ld := ltB hd
  have hne : hb ≠ db := by
    intro e; subst e
    rw [hh] at hd; simp at hd
  have hnd : nb ≠ db := by
    intro e; subst e
    rw [hd] at hn; simp at hn
  have hmd : mb ≠ db := by
    intro e; subst e
    rw [hd] at hm; simp at hm
  have hmh : mb ≠ hb := by
    intro e; subst e
    rw [hh] at hm; simp at hm
  have hnh : nb ≠ hb := by
    intro e; subst e
    rw [hh] at hn; simp at hn
  obtain ⟨V, hV⟩ : ∃ V, V = ((w.setCell ⟨db, 3, none⟩ (.int .i64 (-1))).setCell ⟨db, 4, none⟩ (.int .i64 (-1))).drew := ⟨_, rfl⟩
  have hhV : V.heap[hb]? = some (.cells #[.pointer (some ⟨db, 0, none⟩), sv, cv, .int .u64 blk] 82) := by rw [hV, heapDrew, heapSetO hne, heapSetO hne]; exact hh
  have hdV : V.heap[db]? = some (.cells #[.map (some mb), .map (some nb), .slice none 0 0, .int .i64 (-1), .int .i64 (-1), .bool false] 88) := by rw [hV, heapDrew]; simpa using heapSet (heapSet hd 3 (.int .i64 (-1))) 4 (.int .i64 (-1))
  have hmV : V.heap[mb]? = some (.map #[] 0) := by rw [hV, heapDrew, heapSetO hmd, heapSetO hmd]; exact hm
  have hnV : V.heap[nb]? = some (.map #[] 0) := by rw [hV, heapDrew, heapSetO hnd, heapSetO hnd]; exact hn
  have hKV : Keep (fun b => b = hb ∨ b = db) w V := hV ▸ (Keep.set (S := fun b => b = hb ∨ b = db) (b := db) (Keep.set (S := fun b => b = hb ∨ b = db) (b := db) (Keep.refl _ w) (Or.inl (Or.inr rfl)) _ _) (Or.inl (Or.inr rfl)) _ _).drew
  have a0 := cellB hh 0
  have a1 := cellB hd
  have a2 := frozenB hd
  have n1 : ¬ hb = db := hne
  have n2 : ¬ db = hb := fun e => hne e.symm
  go_enter Tryz.func20, Tryz.ntmps20
  go_upto_region 1 with fail
  go_cut [] (fun wx => wx = V)
  case first =>
    go_region_held3 (fun w' => w'.cell? ⟨hb, 0, none⟩ = some (.pointer (some ⟨db, 0, none⟩))) (go_keep) (fail)
    all_goals (go_wp2_with fail; go_meet)
    all_goals exact hV.symm
  case rest =>
    subst hcut
    clear hV a0 a1 a2
    have hdD := (heapDrew _ db).trans hdV
    have hmD := (heapDrew _ mb).trans hmV
    have hnD := (heapDrew _ nb).trans hnV
    have b0 := cellB hhV 0
    have b3 := cellB hhV 3
    go_upto_region 2 with fail
    go_region_held3 (fun w' => w'.cell? ⟨hb, 0, none⟩ = some (.pointer (some ⟨db, 0, none⟩)) ∧ w'.cell? ⟨hb, 3, none⟩ = some (.int .u64 blk)) (first | go_keep | (exact ⟨cellB hh2 0, cellB hh2 3⟩))
      (first | (go_at_call 34; refine (open34 db mb nb blk _ hblk hdD hmD hnD hmn).mono ?_; rintro e w2 ⟨sb, F, rfl, hsb, hS2, hF2, hb2⟩; have hh2 := (hb2.block hb (ltB hhV)).trans hhV))
    have hsz2 := hb2.size
    have hszV := hKV.size
    have hd2 := (hb2.block db (ltB hdV)).trans hdV
    go_wp2_with fail
    refine (told_nil _).mono ?_
    rintro e w3 ⟨rfl, hb3⟩
    have hh3 := (hb3.block hb (ltB hh2)).trans hh2
    have hd3 := (hb3.block db (ltB hd2)).trans hd2
    have hS3 := hS2.below hb3 (Nat.le_refl _)
    have c1 := cellB hh3
    have c2 := frozenB hh3
    clear b0 b3
    go_wp2_with fail
    obtain ⟨U, hU⟩ : ∃ U, U = (w3.setCell ⟨hb, 1, none⟩ (.pointer (some ⟨sb, 0, none⟩))).setCell ⟨hb, 2, none⟩ (.slice none 0 0) := ⟨_, rfl⟩
    rw [← hU]
    have hhU : U.heap[hb]? = some (.cells #[.pointer (some ⟨db, 0, none⟩), .pointer (some ⟨sb, 0, none⟩), .slice none 0 0, .int .u64 blk] 82) := by rw [hU]; simpa using heapSet (heapSet hh3 1 (.pointer (some ⟨sb, 0, none⟩))) 2 (.slice none 0 0)
    have hdU : U.heap[db]? = some (.cells #[.map (some mb), .map (some nb), .slice none 0 0, .int .i64 (-1), .int .i64 (-1), .bool false] 88) := by rw [hU, heapSetO n2, heapSetO n2]; exact hd3
    have hFw : ∀ b, F b → b = db ∨ b = mb ∨ b = nb ∨ w.heap.size ≤ b := fun b h => (hF2 b h).imp id (fun h => h.imp id (fun h => h.imp id (fun h => Nat.le_trans hszV h)))
    have hFh : ∀ b, F b → b ≠ hb := fun b h e => by
      rcases hFw b h with h | h | h | h
      · exact n1 (e.symm.trans h)
      · exact hmh (h.symm.trans e)
      · exact hnh (h.symm.trans e)
      · omega
    have hSU : SrvK db blk 4000000 U 0 sb ⟨0, 0, []⟩ F := hS3.kept (by rw [hU]; simp) (fun b hb' => by rw [hU, heapSetO (hFh b hb'), heapSetO (hFh b hb')])
    have hKU : Keep (fun b => b = hb ∨ b = db) w U := by
      have k1 := (hKV.drew.trans (Keep.of_below hb2)).trans (Keep.of_below hb3)
      rw [hU]
      exact Keep.set (S := fun b => b = hb ∨ b = db) (b := hb) (Keep.set (S := fun b => b = hb ∨ b = db) (b := hb) k1 (Or.inl (Or.inl rfl)) _ _) (Or.inl (Or.inl rfl)) _ _
    clear hU c1 c2
    refine (after28 hb db (some mb) (some nb) _ _ _ _ (-1) (-1) 0 0 U hhU hdU).mono ?_
    rintro e w4 ⟨rfl, g1, g2⟩
    go_wp2
    go_ret
    refine ⟨sb, F, rfl, Nat.le_trans hszV hsb, (g2.block hb (ltB hhU) hne).trans hhU, (hSU.refill hdU g1 g2.size (fun b hF hne' => g2.block b (hSU.lt b hF) hne')).less (by omega), hFw, fun h => hFh hb h rfl, hKU.then g2 (fun i _ h => Or.inr h)⟩
end Go.Proofs.YtnlgndpcddngoaaGreatDoor

namespace Go.Proofs.YtnlgndpcddngoaaGreatDoor
open Go.RowKit
variable [dK] [iK]

/-- The blocks of a host. -/
def HG (hb db : Nat) (F : Nat → Prop) (cv : Value) (m : Nat) (cb : Nat → Nat) (b : Nat) : Prop := b = hb ∨ b = db ∨ F b ∨ cv.ownBlock = some b ∨ ∃ i, i < m ∧ b = cb i
/-- A host in memory: its disk, its ledger, its connections. -/
structure HostAt (w : World) (hb db _nb sb : Nat) (_mb : Option Nat) (blk : Int) (L : Ld) (F : Nat → Prop) (B : Nat) (cv : Value) (m : Nat) (cb : Nat → Nat) (c : Nat → Cn) : Prop where
  hh : w.heap[hb]? = some (.cells #[.pointer (some ⟨db, 0, none⟩), .pointer (some ⟨sb, 0, none⟩), cv, .int .u64 blk] 82)
  hd : F db
  hs : SrvK db blk 0 w 0 sb L F
  hc : ∀ i, i < m → ConnAt w sb (cb i) (c i) F
  hi : ∀ i j, i < m → j < m → cb i = cb j → i = j
  ho : w.ownsRow B 83 1 cv m (ptrs cb m)
  hF : ∀ g, (g = hb ∨ False ∨ cv.ownBlock = some g) → ¬ F g
  lo : ∀ b, HG hb db F cv m cb b → B ≤ b
  fr : ∀ i, m ≤ i → c i = ⟨[], false⟩

theorem Tryz.info76 : (Tryz.prog.info? 83).map (fun i => (i.zero, i.size, i.bytes)) = some (some (.pointer none), 1, 8) := by kernel_rfl

theorem connect25' (sb : Nat) (w : World) : Calls Tryz.prog 29 #[.pointer (some ⟨sb, 0, none⟩)] w fun e w' => e = .returned (.pointer (some ⟨w.heap.size, 0, none⟩)) ∧ w'.heap[w.heap.size]? = some (.cells #[.pointer (some ⟨sb, 0, none⟩), .slice none 0 0, .bool false] 112) ∧ w'.heap.size = w.heap.size + 1 ∧ Below w.heap.size w w' := by
  refine (connect25 sb w).mono ?_
  rintro e w' ⟨rfl, rfl⟩
  exact ⟨rfl, heapNew _ _, by simp, (Below.refl _ w).alloc (Nat.le_refl _) _⟩

/-- Connect in a region that draws. -/
theorem step_connect {ops : Array Oper} {o : Oper} {a : Act} {w : World} {K : Act → World → Prop} {Q : Exit → Act → World → Prop} {E : Prop} (hg : o.guard = none) (x : Operand)
    (hop : o.op = .call { callee := .value (.func 29), args := #[x], argTypes := #[79] }) (sb : Nat) (hx : a.eval x = .pointer (some ⟨sb, 0, none⟩))
    (hK : ∀ w', w'.heap[w.heap.size]? = some (.cells #[.pointer (some ⟨sb, 0, none⟩), .slice none 0 0, .bool false] 112) → w'.heap.size = w.heap.size + 1 → Below w.heap.size w w' → K (a.put o.dst (.pointer (some ⟨w.heap.size, 0, none⟩))) w') :
    if Region.wanted o (yielded ops a.tmps) = true then Oper.wp Tryz.prog o a w K Q else E := by
  have hw : Region.wanted o (yielded ops a.tmps) = true := by simp [Region.wanted, hg]
  rw [if_pos hw]
  have hr : (execOp a.eval o).run Tryz.prog w = .ok (.enter 29 #[.pointer (some ⟨sb, 0, none⟩)]) w := by
    simp [execOp, hop, resolve, invoke, go_sem]
    rw [← hx]
    cases x <;> simp [Act.eval]
  unfold Oper.wp
  rw [hr, Oper.upon_enter]
  refine (connect25' sb w).mono ?_
  rintro e w' ⟨rfl, h1, h2, h3⟩
  exact hK w' h1 h2 h3

/-- One connection more. -/
theorem HostAt.more {wr w2 w4 : World} {hb db nb sb : Nat} {mb : Option Nat} {blk : Int} {L : Ld} {F : Nat → Prop} {B : Nat} {cv v5 : Value} {m : Nat} {cb : Nat → Nat} {c : Nat → Cn} {N : Nat} {ob : Obj} (H : HostAt wr hb db nb sb mb blk L F B cv m cb c) (hq : ∀ i, c i = ⟨[], false⟩) (hN : N = wr.heap.size) (hBN : B ≤ N)
    (h2 : w2.heap[N]? = some (.cells #[.pointer (some ⟨sb, 0, none⟩), .slice none 0 0, .bool false] 112)) (hs2 : w2.heap.size = N + 1) (hb2 : Below N wr w2)
    (ho4 : w4.ownsRow B 83 1 v5 (m + 1) (ptrs cb m ++ [.pointer (some ⟨N, 0, none⟩)])) (hg4 : (w2.alloc ob).grownBy w4 cv.ownBlock) (hl4 : v5.ownBlock = cv.ownBlock ∨ v5.ownBlock = some (w2.alloc ob).heap.size) :
    HostAt (w4.setCell ⟨hb, 2, none⟩ v5) hb db nb sb mb blk L F B v5 (m + 1) (fun i => if i = m then N else cb i) c ∧ Keep (HG hb db F cv m cb) wr (w4.setCell ⟨hb, 2, none⟩ v5) ∧ ∀ b, HG hb db F v5 (m + 1) (fun i => if i = m then N else cb i) b → HG hb db F cv m cb b ∨ N ≤ b := by
  have lh : hb < N := hN ▸ ltB H.hh
  have ld : db < N := hN ▸ H.hs.lt db H.hd
  have nhd : db ≠ hb := fun e => H.hF hb (Or.inl rfl) (e ▸ H.hd)
  have nh : cv.ownBlock ≠ some hb := fun e => own_neE H.ho e H.hh (by decide) rfl
  have nd : cv.ownBlock ≠ some db := fun e => H.hF db (Or.inr (Or.inr e)) H.hd
  have nN : cv.ownBlock ≠ some N := fun e => by have := (own_ltE H.ho e).2; omega
  have hA : (w2.alloc ob).heap.size = N + 2 := by rw [World.size_alloc, hs2]
  have X4 : ∀ k, k < N → cv.ownBlock ≠ some k → w4.heap[k]? = wr.heap[k]? := fun k hk hne =>
    ((hg4.block k (by omega) (fun e => hne e.symm)).trans (heapOld w2 ob (by omega))).trans (hb2.block k hk)
  have X : ∀ k, k < N → k ≠ hb → cv.ownBlock ≠ some k → (w4.setCell ⟨hb, 2, none⟩ v5).heap[k]? = wr.heap[k]? := fun k hk h1 hne => (heapSetO h1 _ _).trans (X4 k hk hne)
  have hh4 := (X4 hb lh nh).trans H.hh
  have hsz4 : N + 2 ≤ w4.heap.size := hA ▸ hg4.size
  have hcn : ∀ i, i < m → cb i < N ∧ cb i ≠ hb ∧ cv.ownBlock ≠ some (cb i) := fun i hi => by
    obtain ⟨cw, g1, _⟩ := (H.hc i hi).mem
    refine ⟨hN ▸ ltB g1, fun e => ?_, fun e => own_neE H.ho e g1 (by decide) rfl⟩
    rw [e, H.hh] at g1
    simp at g1
  have hFN : ∀ b, F b → b < N := fun b h => hN ▸ H.hs.lt b h
  have hsz : wr.heap.size ≤ (w4.setCell ⟨hb, 2, none⟩ v5).heap.size := by rw [World.size_setCell]; omega
  refine ⟨⟨by simpa using heapSet hh4 2 v5, H.hd, H.hs.kept hsz (fun b hF => X b (hFN b hF) (fun e => H.hF hb (Or.inl rfl) (e ▸ hF)) (fun e => H.hF b (Or.inr (Or.inr e)) hF)), fun i hi => ?_, fun i j hi hj e => ?_, ?_, fun g hg hFg => ?_, fun b hb' => ?_, fun i hi => H.fr i (by omega)⟩, ⟨hg4.os.trans hb2.os, hg4.tape.trans hb2.tape, hg4.output.trans hb2.output, hsz, fun k hk hG => X k (by omega) (fun e => hG (Or.inl e)) (fun e => hG (Or.inr (Or.inr (Or.inr (Or.inl e)))))⟩, fun b hb' => ?_⟩
  · by_cases him : i = m
    · subst him
      rw [if_pos rfl]
      refine ⟨⟨.slice none 0 0, ?_, Or.inl ⟨by rw [hq i], Or.inl rfl⟩, fun g o n d h => by simp at h⟩, fun h => by have := hFN _ h; omega⟩
      rw [heapSetO (by omega), hg4.block N (by omega) (fun e => nN e.symm), heapOld w2 ob (by omega), h2, hq i]
    · rw [if_neg him]
      obtain ⟨c1, c2, c3⟩ := hcn i (by omega)
      obtain ⟨⟨cw, g1, g2, g3⟩, g4⟩ := H.hc i (by omega)
      refine ⟨⟨cw, (X _ c1 c2 c3).trans g1, ?_, fun g o n d h => ⟨(g3 g o n d h).1, (g3 g o n d h).2.1, Nat.lt_of_lt_of_le (g3 g o n d h).2.2 hsz⟩⟩, g4⟩
      rw [hq i] at g2 ⊢
      rcases g2 with g2 | ⟨g2, _⟩
      · exact Or.inl g2
      · simp at g2
  · by_cases h1 : i = m
    · by_cases h2 : j = m
      · omega
      · rw [if_pos h1, if_neg h2] at e
        have := (hcn j (by omega)).1
        omega
    · by_cases h2 : j = m
      · rw [if_neg h1, if_pos h2] at e
        have := (hcn i (by omega)).1
        omega
      · rw [if_neg h1, if_neg h2] at e
        exact H.hi i j (by omega) (by omega) e
  · have e : ptrs (fun i => if i = m then N else cb i) (m + 1) = ptrs cb m ++ [.pointer (some ⟨N, 0, none⟩)] := by
      unfold ptrs
      rw [List.range_succ, List.map_append]
      congr 1
      · apply List.map_congr_left
        intro i hi
        have := List.mem_range.1 hi
        show Value.pointer (some ⟨if i = m then N else cb i, 0, none⟩) = _
        rw [if_neg (by omega)]
      · simp
    rw [e]
    exact own_keptE ho4 (fun g hg => heapSetO (own_neE ho4 hg hh4 (by decide)) _ _)
  · rcases hg with h | h | h
    · exact H.hF g (Or.inl h) hFg
    · exact H.hF g (Or.inr (Or.inl h)) hFg
    · rcases hl4 with h4 | h4
      · exact H.hF g (Or.inr (Or.inr (h4 ▸ h))) hFg
      · rw [h4, hA] at h
        injection h with h
        have := hFN g hFg
        omega
  · rcases hb' with h | h | h | h | ⟨i, hi, h⟩
    · exact H.lo b (Or.inl h)
    · exact H.lo b (Or.inr (Or.inl h))
    · exact H.lo b (Or.inr (Or.inr (Or.inl h)))
    · exact (own_ltE ho4 h).1
    · dsimp only at h
      split at h
      · omega
      · exact H.lo b (Or.inr (Or.inr (Or.inr (Or.inr ⟨i, by omega, h⟩))))
  · rcases hb' with h | h | h | h | ⟨i, hi, h⟩
    · exact Or.inl (Or.inl h)
    · exact Or.inl (Or.inr (Or.inl h))
    · exact Or.inl (Or.inr (Or.inr (Or.inl h)))
    · rcases hl4 with h4 | h4
      · exact Or.inl (Or.inr (Or.inr (Or.inr (Or.inl (h4 ▸ h)))))
      · rw [h4, hA] at h
        injection h with h
        exact Or.inr (by omega)
    · dsimp only at h
      split at h
      · exact Or.inr (by omega)
      · exact Or.inl (Or.inr (Or.inr (Or.inr (Or.inr ⟨i, by omega, h⟩))))

theorem HostAt.kept {w w' : World} {hb db nb sb : Nat} {mb : Option Nat} {blk : Int} {L : Ld} {F : Nat → Prop} {B : Nat} {cv : Value} {m : Nat} {cb : Nat → Nat} {c : Nat → Cn} (H : HostAt w hb db nb sb mb blk L F B cv m cb c) (hs : w.heap.size ≤ w'.heap.size) (hk : ∀ k, k < w.heap.size → w'.heap[k]? = w.heap[k]?) : HostAt w' hb db nb sb mb blk L F B cv m cb c := by
  refine ⟨(hk hb (ltB H.hh)).trans H.hh, H.hd, H.hs.kept hs (fun b hF => hk b (H.hs.lt b hF)), fun i hi => ?_, H.hi, own_keptE H.ho (fun g hg => hk g (own_ltE H.ho hg).2), H.hF, H.lo, H.fr⟩
  obtain ⟨⟨cw, g1, g2, g3⟩, g4⟩ := H.hc i hi
  exact ⟨⟨cw, (hk _ (ltB g1)).trans g1, g2.kept hs (fun g o n d _ hg => hk g hg), fun g o n d h => ⟨(g3 g o n d h).1, (g3 g o n d h).2.1, Nat.lt_of_lt_of_le (g3 g o n d h).2.2 hs⟩⟩, g4⟩
/-- A host whose connections wait for nothing, its own blocks kept. -/
theorem HostAt.quiet {w w' : World} {hb db nb sb : Nat} {mb : Option Nat} {blk : Int} {L : Ld} {F : Nat → Prop} {B : Nat} {cv : Value} {m : Nat} {cb : Nat → Nat} {c : Nat → Cn} (H : HostAt w hb db nb sb mb blk L F B cv m cb c) (hq : ∀ i, (c i).waits = []) (hs : w.heap.size ≤ w'.heap.size) (hk : ∀ k, HG hb db F cv m cb k → w'.heap[k]? = w.heap[k]?) : HostAt w' hb db nb sb mb blk L F B cv m cb c := by
  refine ⟨(hk hb (Or.inl rfl)).trans H.hh, H.hd, H.hs.kept hs (fun b hF => hk b (Or.inr (Or.inr (Or.inl hF)))), fun i hi => ?_, H.hi, own_keptE H.ho (fun g hg => hk g (Or.inr (Or.inr (Or.inr (Or.inl hg))))), H.hF, H.lo, H.fr⟩
  obtain ⟨⟨cw, g1, g2, g3⟩, g4⟩ := H.hc i hi
  refine ⟨⟨cw, (hk _ (Or.inr (Or.inr (Or.inr (Or.inr ⟨i, hi, rfl⟩))))).trans g1, ?_, fun g o n d h => ⟨(g3 g o n d h).1, (g3 g o n d h).2.1, Nat.lt_of_lt_of_le (g3 g o n d h).2.2 hs⟩⟩, g4⟩
  rw [hq i] at g2 ⊢
  rcases g2 with g2 | ⟨g2, _⟩
  · exact Or.inl g2
  · simp at g2
theorem HostAt.lt {w : World} {hb db nb sb : Nat} {mb : Option Nat} {blk : Int} {L : Ld} {F : Nat → Prop} {B : Nat} {cv : Value} {m : Nat} {cb : Nat → Nat} {c : Nat → Cn} (H : HostAt w hb db nb sb mb blk L F B cv m cb c) (b : Nat) (h : HG hb db F cv m cb b) : b < w.heap.size := by
  rcases h with rfl | rfl | h | h | ⟨i, hi, rfl⟩
  · exact ltB H.hh
  · exact H.hs.lt _ H.hd
  · exact H.hs.lt b h
  · exact (own_ltE H.ho h).2
  · exact ltB (H.hc i hi).mem.choose_spec.1

/-- No connection's waiting bytes lie in this block. -/
def WaitN (w : World) (sb m : Nat) (cb : Nat → Nat) (c : Nat → Cn) (g : Nat) : Prop := ∀ j, j < m → ∀ cw, w.heap[cb j]? = some (.cells #[.pointer (some ⟨sb, 0, none⟩), cw, .bool (c j).bad] 112) → cw.ownBlock ≠ some g
/-- What a feeding leaves of a host. -/
theorem HostAt.fed {w w' : World} {hb db nb sb : Nat} {mb : Option Nat} {blk : Int} {L : Ld} {F : Nat → Prop} {B : Nat} {cv rv : Value} {cb : Nat → Nat} {c : Nat → Cn} {now : Int} {bs : List Int} (H : HostAt w hb db nb sb mb blk L F B cv 3 cb c) (hB : B ≤ w.heap.size) (i : Nat) (hi : i < 3) (P : FeedPost db blk 0 sb (cb i) F L (c i) now bs w rv w') :
    ∃ F', HostAt w' hb db nb sb mb blk (feedM L (c i) now bs).1 F' B cv 3 cb (fun j => if j = i then (feedM L (c i) now bs).2.1 else c j) ∧ Keep (HG hb db F cv 3 cb) w w' ∧ (∀ b, HG hb db F' cv 3 cb b → HG hb db F cv 3 cb b ∨ w.heap.size ≤ b) ∧ w'.ownsRow w.heap.size 5 1 rv (encs (feedM L (c i) now bs).2.2).length ((encs (feedM L (c i) now bs).2.2).map (Value.int .u8)) ∧ (∀ g, g < w.heap.size → WaitN w sb 3 cb c g → WaitN w' sb 3 cb (fun j => if j = i then (feedM L (c i) now bs).2.1 else c j) g) := by
  obtain ⟨F', s1, s2, s3, s4, s5, s6⟩ := P
  obtain ⟨ci, q1, q2, q3⟩ := (H.hc i hi).mem
  obtain ⟨xi, di, ei⟩ := q2.shape
  have hs := s4.size
  have X : ∀ k, k < w.heap.size → ¬ F k → k ≠ cb i → w'.heap[k]? = w.heap[k]? := fun k hk h1 h2 => s4.block k hk (fun h => h.elim h1 h2)
  have nh : hb ≠ cb i := by
    intro e
    rw [← e, H.hh] at q1
    simp at q1
  have hF' : ∀ k, k < w.heap.size → ¬ F k → ¬ F' k := fun k hk h1 h => (s3 k h).elim h1 (fun h => by omega)
  refine ⟨F', ⟨(X hb (ltB H.hh) (H.hF hb (Or.inl rfl)) nh).trans H.hh, s1.dskF, s1, fun j hj => ?_, H.hi, ?_, fun g hg => ?_, fun b hb' => ?_, fun j hj => ?_⟩, s4.mono (fun k h _ => ?_), fun b h => ?_, s5, fun g hg hw j hj cw' hcw' => ?_⟩
  · by_cases e : j = i
    · rw [if_pos e, e]
      exact s2
    · rw [if_neg e]
      obtain ⟨⟨cw, g1, g2, g3⟩, g4⟩ := H.hc j hj
      have hne : cb j ≠ cb i := fun h => e (H.hi j i hj hi h)
      refine ⟨⟨cw, (X _ (ltB g1) g4 hne).trans g1, ?_, fun g o n d h => ⟨hF' g (g3 g o n d h).2.2 (g3 g o n d h).1, (g3 g o n d h).2.1, Nat.lt_of_lt_of_le (g3 g o n d h).2.2 hs⟩⟩, hF' _ (ltB g1) g4⟩
      rcases g2 with g2 | ⟨h1, sg, so, cap, hv, h2, h3⟩
      · exact Or.inl g2
      · refine Or.inr ⟨h1, sg, so, cap, hv, Nat.lt_of_lt_of_le h2 hs, fun z u hz => ?_⟩
        have hgi : sg ≠ cb i := by
          intro e'
          have hl : 0 < (c j).waits.length := h1
          have h0 := h3 0 (.int .u8 ((c j).waits[0])) (by simp [hl])
          rw [e', cellB q1, ei] at h0
          rw [Nat.add_zero] at h0
          match so, h0 with
          | 0, h0 => simp at h0
          | 1, h0 => simp at h0
          | 2, h0 => simp at h0
          | n + 3, h0 => simp at h0
        exact (World.cell?_of_block (w := w) (X sg h2 (g3 sg so _ _ hv).1 hgi)).trans (h3 z u hz)
  · exact own_keptE H.ho (fun g hg => X g (own_ltE H.ho hg).2 (H.hF g (Or.inr (Or.inr hg))) (own_neE H.ho hg q1 (by decide)))
  · refine hF' g ?_ (H.hF g hg)
    rcases hg with rfl | h | h
    · exact ltB H.hh
    · exact h.elim
    · exact (own_ltE H.ho h).2
  · rcases hb' with h | h | h | h | h
    · exact H.lo b (Or.inl h)
    · exact H.lo b (Or.inr (Or.inl h))
    · rcases s3 b h with h | h
      · exact H.lo b (Or.inr (Or.inr (Or.inl h)))
      · omega
    · exact H.lo b (Or.inr (Or.inr (Or.inr (Or.inl h))))
    · exact H.lo b (Or.inr (Or.inr (Or.inr (Or.inr h))))
  · rw [if_neg (by omega)]
    exact H.fr j hj
  · rcases h with h | h
    · exact Or.inr (Or.inr (Or.inl h))
    · exact Or.inr (Or.inr (Or.inr (Or.inr ⟨i, hi, h⟩)))
  · rcases h with h | h | h | h | h
    · exact Or.inl (Or.inl h)
    · exact Or.inl (Or.inr (Or.inl h))
    · rcases s3 b h with h | h
      · exact Or.inl (Or.inr (Or.inr (Or.inl h)))
      · exact Or.inr h
    · exact Or.inl (Or.inr (Or.inr (Or.inr (Or.inl h))))
    · exact Or.inl (Or.inr (Or.inr (Or.inr (Or.inr h))))
  · dsimp only at hcw'
    by_cases e : j = i
    · rw [if_pos e, e] at hcw'
      exact s6 g hg (hw i hi) cw' hcw'
    · rw [if_neg e] at hcw'
      have hm := (H.hc j hj)
      refine hw j hj cw' ((X _ (ltB hm.mem.choose_spec.1) hm.nF (fun h => e (H.hi j i hj hi h))).symm.trans hcw')
/-- Bytes that no connection keeps are written into. -/
theorem HostAt.keptE {w w' : World} {hb db nb sb : Nat} {mb : Option Nat} {blk : Int} {L : Ld} {F : Nat → Prop} {B : Nat} {cv : Value} {m : Nat} {cb : Nat → Nat} {c : Nat → Cn} (H : HostAt w hb db nb sb mb blk L F B cv m cb c) (wb : Nat) (hn : ¬ HG hb db F cv m cb wb) (hw : WaitN w sb m cb c wb) (hs : w.heap.size ≤ w'.heap.size) (hk : ∀ k, k < w.heap.size → k ≠ wb → w'.heap[k]? = w.heap[k]?) : HostAt w' hb db nb sb mb blk L F B cv m cb c := by
  have hne : ∀ k, HG hb db F cv m cb k → k ≠ wb := fun k h e => hn (e ▸ h)
  refine ⟨(hk hb (ltB H.hh) (hne hb (Or.inl rfl))).trans H.hh, H.hd, H.hs.kept hs (fun b hF => hk b (H.hs.lt b hF) (hne b (Or.inr (Or.inr (Or.inl hF))))), fun i hi => ?_, H.hi, own_keptE H.ho (fun g hg => hk g (own_ltE H.ho hg).2 (hne g (Or.inr (Or.inr (Or.inr (Or.inl hg)))))), H.hF, H.lo, H.fr⟩
  obtain ⟨⟨cw, g1, g2, g3⟩, g4⟩ := H.hc i hi
  exact ⟨⟨cw, (hk _ (ltB g1) (hne _ (Or.inr (Or.inr (Or.inr (Or.inr ⟨i, hi, rfl⟩)))))).trans g1, g2.kept hs (fun g o n d e hg => hk g hg (fun e' => hw i hi cw g1 (by rw [e, e']; rfl))), fun g o n d h => ⟨(g3 g o n d h).1, (g3 g o n d h).2.1, Nat.lt_of_lt_of_le (g3 g o n d h).2.2 hs⟩⟩, g4⟩
/-- A host whose disk is told anew that it never goes down. -/
theorem HostAt.refill {w w' : World} {hb db nb sb : Nat} {mb : Option Nat} {blk : Int} {L : Ld} {F : Nat → Prop} {B : Nat} {cv : Value} {m : Nat} {cb : Nat → Nat} {c : Nat → Cn} (H : HostAt w hb db nb sb mb blk L F B cv m cb c) {ma na : Nat} {l f : Int} (hd : w.heap[db]? = some (.cells #[.map (some ma), .map (some na), .slice none 0 0, .int .i64 l, .int .i64 f, .bool false] 88))
    (hd' : w'.heap[db]? = some (.cells #[.map (some ma), .map (some na), .slice none 0 0, .int .i64 (-1), .int .i64 (-1), .bool false] 88)) (hs : w.heap.size ≤ w'.heap.size) (hk : ∀ k, k < w.heap.size → k ≠ db → w'.heap[k]? = w.heap[k]?) : HostAt w' hb db nb sb mb blk L F B cv m cb c ∧ SrvK db blk 4000000 w' 0 sb L F := by
  have hS := H.hs.refill hd hd' hs (fun b hF hne => hk b (H.hs.lt b hF) hne)
  refine ⟨⟨(hk hb (ltB H.hh) (fun e => H.hF hb (Or.inl rfl) (e ▸ H.hd))).trans H.hh, H.hd, hS.less (by omega), fun i hi => ?_, H.hi, own_keptE H.ho (fun g hg => hk g (own_ltE H.ho hg).2 (fun e => H.hF g (Or.inr (Or.inr hg)) (e ▸ H.hd))), H.hF, H.lo, H.fr⟩, hS⟩
  obtain ⟨⟨cw, g1, g2, g3⟩, g4⟩ := H.hc i hi
  exact ⟨⟨cw, (hk _ (ltB g1) (fun e => g4 (e ▸ H.hd))).trans g1, g2.kept hs (fun g o n d e hg => hk g hg (fun e' => (g3 g o n d e).1 (e' ▸ H.hd))), fun g o n d h => ⟨(g3 g o n d h).1, (g3 g o n d h).2.1, Nat.lt_of_lt_of_le (g3 g o n d h).2.2 hs⟩⟩, g4⟩
end Go.Proofs.YtnlgndpcddngoaaGreatDoor

namespace Go.Proofs.YtnlgndpcddngoaaGreatDoor
open Go.RowKit
variable [dK] [iK]

theorem pick26' (k : Int) (i : Nat) (w : World) (h0 : -9223372036854775808 ≤ k) (h1 : k ≤ 9223372036854775807) (h : pickM k 3 = (i : Int)) :
    Calls Tryz.prog 30 #[.int .i64 k, .int .i64 3] w fun e w' => e = .returned (.int .i64 i) ∧ w' = w := by
  rw [← h]
  exact pick26 k 3 w (by omega) (by omega) h0 h1

theorem ptr_cell {w : World} {hb db nb sb : Nat} {mb : Option Nat} {blk : Int} {L : Ld} {F : Nat → Prop} {B kb kc : Nat} {cb : Nat → Nat} {c : Nat → Cn} (H : HostAt w hb db nb sb mb blk L F B (.slice (some ⟨kb, 0, none⟩) 3 kc) 3 cb c) (i : Nat) (hi : i < 3) : w.cell? ⟨kb, i, none⟩ = some (.pointer (some ⟨cb i, 0, none⟩)) := by
  rw [H.ho.cellAt i (by omega)]
  unfold ptrs
  rw [List.getElem?_map, List.getElem?_range (by omega)]
  rfl

theorem ConnAt.waits_lt {w : World} {sb cb : Nat} {c : Cn} {F : Nat → Prop} (h : ConnAt w sb cb c F) {cw : Value} (h1 : w.heap[cb]? = some (.cells #[.pointer (some ⟨sb, 0, none⟩), cw, .bool c.bad] 112)) {g : Nat} (hg : cw.ownBlock = some g) : g < w.heap.size := by
  obtain ⟨cw', g1, g2, g3⟩ := h.mem
  have e : cw' = cw := by
    have := g1.symm.trans h1
    simpa using this
  subst e
  rcases g2 with ⟨_, rfl | ⟨sg, so, cap, rfl⟩⟩ | ⟨_, sg, so, cap, rfl, h2, _⟩
  · simp [Value.ownBlock] at hg
  · simp [Value.ownBlock] at hg
    subst hg
    exact (g3 _ _ _ _ rfl).2.2
  · simp [Value.ownBlock] at hg
    subst hg
    exact h2

theorem callFeed (vs : Array Value) (w : World) : Sem.run Tryz.prog (callFunc 31 vs) w = .ok (.enter 31 vs) w := by simp [go_sem]
theorem callPick (vs : Array Value) (w : World) : Sem.run Tryz.prog (callFunc 30 vs) w = .ok (.enter 30 vs) w := by simp [go_sem]

theorem WaitN.kept {w w' : World} {sb m : Nat} {cb : Nat → Nat} {c : Nat → Cn} {g : Nat} (h : WaitN w sb m cb c g) (hk : ∀ j, j < m → w'.heap[cb j]? = w.heap[cb j]?) : WaitN w' sb m cb c g :=
  fun j hj cw hcw => h j hj cw ((hk j hj).symm.trans hcw)
theorem HostAt.more_wait {wr w2 w4 : World} {hb db nb sb : Nat} {mb : Option Nat} {blk : Int} {L : Ld} {F : Nat → Prop} {B : Nat} {cv v5 : Value} {m : Nat} {cb : Nat → Nat} {c : Nat → Cn} {N : Nat} {ob : Obj} (H : HostAt wr hb db nb sb mb blk L F B cv m cb c) (_hq : ∀ i, c i = ⟨[], false⟩) (hN : N = wr.heap.size) (_hBN : B ≤ N)
    (h2 : w2.heap[N]? = some (.cells #[.pointer (some ⟨sb, 0, none⟩), .slice none 0 0, .bool false] 112)) (hs2 : w2.heap.size = N + 1) (hb2 : Below N wr w2)
    (_ho4 : w4.ownsRow B 83 1 v5 (m + 1) (ptrs cb m ++ [.pointer (some ⟨N, 0, none⟩)])) (hg4 : (w2.alloc ob).grownBy w4 cv.ownBlock) (_hl4 : v5.ownBlock = cv.ownBlock ∨ v5.ownBlock = some (w2.alloc ob).heap.size) :
    ∀ g, WaitN wr sb m cb c g → WaitN (w4.setCell ⟨hb, 2, none⟩ v5) sb (m + 1) (fun i => if i = m then N else cb i) c g := by
  have lh : hb < N := hN ▸ ltB H.hh
  have ld : db < N := hN ▸ H.hs.lt db H.hd
  have nhd : db ≠ hb := fun e => H.hF hb (Or.inl rfl) (e ▸ H.hd)
  have nh : cv.ownBlock ≠ some hb := fun e => own_neE H.ho e H.hh (by decide) rfl
  have nd : cv.ownBlock ≠ some db := fun e => H.hF db (Or.inr (Or.inr e)) H.hd
  have nN : cv.ownBlock ≠ some N := fun e => by have := (own_ltE H.ho e).2; omega
  have hA : (w2.alloc ob).heap.size = N + 2 := by rw [World.size_alloc, hs2]
  have X4 : ∀ k, k < N → cv.ownBlock ≠ some k → w4.heap[k]? = wr.heap[k]? := fun k hk hne =>
    ((hg4.block k (by omega) (fun e => hne e.symm)).trans (heapOld w2 ob (by omega))).trans (hb2.block k hk)
  have X : ∀ k, k < N → k ≠ hb → cv.ownBlock ≠ some k → (w4.setCell ⟨hb, 2, none⟩ v5).heap[k]? = wr.heap[k]? := fun k hk h1 hne => (heapSetO h1 _ _).trans (X4 k hk hne)
  have hh4 := (X4 hb lh nh).trans H.hh
  have hsz4 : N + 2 ≤ w4.heap.size := hA ▸ hg4.size
  have hcn : ∀ i, i < m → cb i < N ∧ cb i ≠ hb ∧ cv.ownBlock ≠ some (cb i) := fun i hi => by
    obtain ⟨cw, g1, _⟩ := (H.hc i hi).mem
    refine ⟨hN ▸ ltB g1, fun e => ?_, fun e => own_neE H.ho e g1 (by decide) rfl⟩
    rw [e, H.hh] at g1
    simp at g1
  have hFN : ∀ b, F b → b < N := fun b h => hN ▸ H.hs.lt b h
  have hsz : wr.heap.size ≤ (w4.setCell ⟨hb, 2, none⟩ v5).heap.size := by rw [World.size_setCell]; omega
  intro g hw j hj cw hcw
  dsimp only at hcw
  by_cases him : j = m
  · rw [if_pos him, heapSetO (by omega), hg4.block N (by omega) (fun e => nN e.symm), heapOld w2 ob (by omega), h2] at hcw
    simp at hcw
    rw [← hcw.1]
    simp [Value.ownBlock]
  · rw [if_neg him] at hcw
    obtain ⟨c1, c2, c3⟩ := hcn j (by omega)
    exact hw j (by omega) cw ((X _ c1 c2 c3).symm.trans hcw)

set_option maxRecDepth 100000 in
set_option maxHeartbeats 1000000 in
theorem feed11w (kp pt : Int) (hb db nb sb : Nat) (mb : Option Nat) (blk : Int) (L : Ld) (F : Nat → Prop) (B : Nat) (cv : Value) (m : Nat) (cb : Nat → Nat) (c : Nat → Cn) (k now : Int) (s : ByteArray) (w : World) (H : HostAt w hb db nb sb mb blk L F B cv m cb c) (hm : m ≤ 3) (hB : B ≤ w.heap.size) (hq : m < 3 → ∀ i, c i = ⟨[], false⟩) (i : Nat) (hpk : pickM k 3 = (i : Int)) (k0 : -9223372036854775808 ≤ k) (k1 : k ≤ 9223372036854775807) (_hL : L.ok) (h0 : 0 ≤ now) (h1 : now ≤ 18446744073709551615) (hbw : Bytes (c i).waits) (hlen : (c i).waits.length + (numsOf s).length ≤ 100000) :
    Calls Tryz.prog 14 #[.pointer (some ⟨hb, 0, none⟩), .int .i64 k, .int .u64 now, .string s, .int .i64 (-1), .int .i64 (-1), .int .i64 kp, .int .i64 pt] w fun e w' => ∃ F' cv' cb', e = .returned (.tuple #[.string (strOfNums (encs (feedM L (c i) now (numsOf s)).2.2)), .bool false]) ∧ HostAt w' hb db nb sb mb blk (feedM L (c i) now (numsOf s)).1 F' B cv' 3 cb' (fun j => if j = i then (feedM L (c i) now (numsOf s)).2.1 else c j) ∧ Keep (HG hb db F cv m cb) w w' ∧ (∀ b, HG hb db F' cv' 3 cb' b → HG hb db F cv m cb b ∨ w.heap.size ≤ b) ∧ ∀ g, g < w.heap.size → WaitN w sb m cb c g → WaitN w' sb 3 cb' (fun j => if j = i then (feedM L (c i) now (numsOf s)).2.1 else c j) g := by
  have hsz100 : s.size ≤ 100000 := by have := numsOf_length s; omega
  have hi3 : i < 3 := by have := (pickM_ok k 3 (by omega)).2; omega
  have a0 := cellB H.hh
  obtain ⟨i0, hi, hz0, hz1, hz2⟩ := info_parts Tryz.info76
  go_enter Tryz.func14, Tryz.ntmps14
  go_wp2_with fail
  go_loopw [] (fun wr => ∃ cv' m' cb', m' ≤ 3 ∧ B ≤ wr.heap.size ∧ HostAt wr hb db nb sb mb blk L F B cv' m' cb' c ∧ (m' < 3 → ∀ i, c i = ⟨[], false⟩) ∧ Keep (HG hb db F cv m cb) w wr ∧ (∀ b, HG hb db F cv' m' cb' b → HG hb db F cv m cb b ∨ w.heap.size ≤ b) ∧ (∀ g, WaitN w sb m cb c g → WaitN wr sb m' cb' c g)) (fun wr => 3 - (match wr.cell? ⟨hb, 2, none⟩ with | some v => sliceLen v | none => 0))
  case atStart => exact ⟨cv, m, cb, hm, hB, H, hq, Keep.refl _ _, fun b h => Or.inl h, fun _ h => h⟩
  case round =>
    obtain ⟨cv1, m1, cb1, hm1, hB1, H1, hq1, hK1, hG1, hWW⟩ := hrel
    have HWW := hide hWW
    clear hWW
    obtain ⟨x1, c1, e1⟩ : ∃ a c, cv1 = .slice a m1 c := own_sliceE H1.ho
    subst e1
    have a1 := cellB H1.hh
    have a2 := frozenB H1.hh
    clear a0
    by_cases hlt : m1 < 3
    · have hlt' : (m1 : Int) < 3 := by omega
      go_upto_region 4 with fail
      have a11 := a1 1
      have a12 := a1 2
      have hhw := H1.hh
      have HH1 := hide H1
      have HK1 := hide hK1
      have HG1 := hide hG1
      have HQ1 := hide (hq1 hlt)
      have HQ := hide hq
      clear a1 H1 hK1 hG1 hq1 hq
      go_region_law
        (first | (refine step_connect (by rfl) _ (by rfl) sb (by rfl) ?_; intro w2 hcn hsz2 hb2; have HS2 := hide hsz2; clear hsz2; have hh2 := (hb2.block hb (ltB hhw)).trans hhw; have q1 := cellB hh2 2; have hh3 := upB hh2 (.cells #[.pointer (some ⟨wr.heap.size, 0, none⟩)] 83); have q2 := cellB hh3 2) | (refine step_append_any (by rfl) _ _ 80 83 i0 (.pointer none) 1 8 Tryz.underlying80 hi hz0 hz1 hz2 (by rfl) (by decide) (by rfl) B (.slice x1 m1 c1) m1 (ptrs cb1 m1) (by rfl) (own_keptE HH1.out.ho (fun z hz => (heapOld _ _ (Nat.lt_of_lt_of_le (own_ltE HH1.out.ho hz).2 hb2.size)).trans (hb2.block z (own_ltE HH1.out.ho hz).2))) ⟨w2.heap.size, 0, none⟩ 1 1 [.pointer (some ⟨wr.heap.size, 0, none⟩)] (by rfl) (by rfl) (cell_one_new _ _ _) (by simp [Value.oneCell']) (by omega) (by omega) (Nat.le_trans hB1 (Nat.le_trans hb2.size (Below.size ((Below.refl 0 w2).alloc (Nat.zero_le _) _)))) ?_; intro v5 w4 hown4 hgr4 hloc4; obtain ⟨ya, yc, hyw⟩ := own_sliceE hown4; subst hyw; have hh4 := (hgr4.block hb (ltB hh3) (fun e => own_neE HH1.out.ho e.symm hhw (by decide) rfl)).trans hh3; have d1 := cellB hh4; have d2 := frozenB hh4))
      all_goals have hmo := HostAt.more HH1.out HQ1.out (N := wr.heap.size) rfl hB1 hcn HS2.out ⟨hb2.os, hb2.tape, hb2.output, hb2.size, hb2.block⟩ hown4 hgr4 hloc4
      all_goals have hmw := HostAt.more_wait HH1.out HQ1.out (N := wr.heap.size) rfl hB1 hcn HS2.out ⟨hb2.os, hb2.tape, hb2.output, hb2.size, hb2.block⟩ hown4 hgr4 hloc4
      all_goals have hK := HK1.out.then hmo.2.1 (fun i hi h => (HG1.out i h).elim id (fun h => absurd hi (Nat.not_lt.2 h)))
      all_goals have hbs := HK1.out.size
      all_goals have hms := cellB hmo.1.hh 2
      all_goals clear d1 d2 q1 q2 a11 a12 a2
      all_goals go_wp2_with fail
      all_goals go_roundw
      all_goals first | (exact ⟨_, m1 + 1, _, by omega, Nat.le_trans hB1 hmo.2.1.size, hmo.1, fun _ => HQ1.out, hK, fun b h => (hmo.2.2 b h).elim (HG1.out b) (fun h => Or.inr (Nat.le_trans hbs h)), fun g h => hmw g (HWW.out g h)⟩) | skip
      all_goals rw [show (World.setCell _ _ _).cell? ⟨hb, 2, none⟩ = some (.slice ya (m1 + 1) yc) from hms, show wr.cell? ⟨hb, 2, none⟩ = some (.slice x1 m1 c1) from cellB hhw 2]
      all_goals simp only [sliceLen]
      all_goals omega
    · obtain rfl : m1 = 3 := by omega
      obtain ⟨ma, na, l1, f1, hdw⟩ := H1.hs.dsk
      have hhw := H1.hh
      have n1 : ¬ hb = db := fun e => H1.hF hb (Or.inl rfl) (e ▸ H1.hd)
      have n2 : ¬ db = hb := fun e => n1 e.symm
      obtain ⟨V, hV⟩ : ∃ V, V = ((wr.setCell ⟨db, 3, none⟩ (.int .i64 (-1))).setCell ⟨db, 4, none⟩ (.int .i64 (-1))).drew := ⟨_, rfl⟩
      have hdV : V.heap[db]? = some (.cells #[.map (some ma), .map (some na), .slice none 0 0, .int .i64 (-1), .int .i64 (-1), .bool false] 88) := by rw [hV, heapDrew]; simpa using heapSet (heapSet hdw 3 (.int .i64 (-1))) 4 (.int .i64 (-1))
      have hkV : ∀ k, k ≠ db → V.heap[k]? = wr.heap[k]? := fun k e => by
        rw [hV, heapDrew, heapSetO e, heapSetO e]
      have hsV : V.heap.size = wr.heap.size := by rw [hV]; simp
      have HVS := H1.refill hdw hdV (Nat.le_of_eq hsV.symm) (fun k _ => hkV k)
      have HV : HostAt V hb db nb sb mb blk L F B (.slice x1 3 c1) 3 cb1 c := HVS.1
      have HSK := hide HVS.2
      clear HVS
      have hKV : Keep (HG hb db F cv m cb) w V := ⟨by rw [hV]; exact hK1.os, by rw [hV]; exact hK1.tape, by rw [hV]; exact hK1.output, by rw [hsV]; exact hK1.size, fun k hk hG => (hkV k (fun e => hG (Or.inr (Or.inl e)))).trans (hK1.block k hk hG)⟩
      have HWV' : Hid (∀ g, WaitN w sb m cb c g → WaitN V sb 3 cb1 c g) := hide (fun g h => (HWW.out g h).kept (fun j hj => hkV _ (fun e => (H1.hc j hj).nF (e ▸ H1.hd))))
      have b := cellB hhw
      have b1 := cellB hdw
      have b2 := frozenB hdw
      have HQ := hide hq
      clear a1 a2 hq
      go_upto_region 5 with fail
      have b0 := b 0
      clear b
      go_cut [] (fun wx => wx = V)
      case first =>
        go_region_held3 (fun w' => w'.cell? ⟨hb, 0, none⟩ = some (.pointer (some ⟨db, 0, none⟩))) (go_keep) (fail)
        all_goals (go_wp2_with fail; go_meet)
        all_goals exact hV.symm
      case rest =>
        subst hcut
        have HWV := HWV'
        clear hV b0 b1 b2 hdV
        have hbs := fun (w : World) (s : ByteArray) => run_bytes_of_string (P := Tryz.prog) w 9 76 5 s Tryz.underlying9 Tryz.underlying76 Tryz.underlying5
        obtain ⟨kb, kc, hkv, hkb, hkl⟩ := HV.ho.form (by decide)
        injection hkv with e1 _ e2
        subst e1 e2
        have hBV : B ≤ wc.heap.size := by rw [hsV]; exact hB1
        have hGV : ∀ b, HG hb db F (.slice (some ⟨kb, 0, none⟩) 3 c1) 3 cb1 b → HG hb db F cv m cb b ∨ w.heap.size ≤ b := hG1
        have HSV := hide hsV
        clear hsV H1 hK1 hG1 hkV hB1 hdw hhw hm1
        go_upto_region 7 with fail
        obtain ⟨D, hD⟩ : ∃ D, D = grownCap wc s.size 0 5 := ⟨_, rfl⟩
        have hDs : s.size ≤ D := by rw [hD]; simpa using grownCap_ge wc s.size 0 5
        rw [← hD]
        obtain ⟨U, hU⟩ : ∃ U, U = (wc.alloc (.cells (bytesRow s D) 5 ((bytesRow s D).size, (bytesRow s D).size + 1))).drew := ⟨_, rfl⟩
        have hsl : Sl U (.slice (some ⟨wc.heap.size, 0, none⟩) s.size D) (numsOf s) := hU ▸ Sl.of_bytes wc s D hDs
        have hbk : U.heap[wc.heap.size]? = some (.cells (bytesRow s D) 5 ((bytesRow s D).size, (bytesRow s D).size + 1)) := by rw [hU]; exact heapNew _ _
        have hkU : ∀ k, k < wc.heap.size → U.heap[k]? = wc.heap[k]? := fun k hk => by rw [hU]; exact heapOld _ _ hk
        have hsU : U.heap.size = wc.heap.size + 1 := by rw [hU]; simp
        have HU : HostAt U hb db nb sb mb blk L F B (.slice (some ⟨kb, 0, none⟩) 3 c1) 3 cb1 c := HV.kept (by omega) hkU
        have hKU : Keep (HG hb db F cv m cb) w U := by rw [hU]; exact (hKV.alloc _).drew
        have hwl := hKV.size
        rw [← hU]
        obtain ⟨wb, hwb⟩ : ∃ wb, wb = wc.heap.size := ⟨_, rfl⟩
        have hkF : ¬ HG hb db F (.slice (some ⟨kb, 0, none⟩) 3 c1) 3 cb1 wb := fun h => by
          have := HV.lt wb h
          omega
        have HWN : Hid (WaitN U.drew sb 3 cb1 c wb) := hide (fun j hj cw hcw hown => by
          have h2 := (HV.hc j hj).waits_lt ((hkU _ (ltB (HV.hc j hj).mem.choose_spec.1)).symm.trans hcw) hown
          omega)
        have HWU : Hid (∀ g, WaitN w sb m cb c g → WaitN U.drew sb 3 cb1 c g) := hide (fun g h => (HWV.out g h).kept (fun j hj => hkU _ (ltB (HV.hc j hj).mem.choose_spec.1)))
        have HKU2 := hide hkU
        have HSZ2 := hide hsU
        clear hU hkU HV hKV hbs
        rw [← hwb] at hsl hbk hsU hwl hBV ⊢
        have hbl := HU.lt
        have HBK := hide hbk
        have HWL := hide hwl
        have HGV := hide hGV
        have HKU := hide hKU
        have HSU := hide hsU
        have HBL := hide hbl
        have HKF := hide hkF
        have f1 := cellB HU.hh 2
        have f2 : U.cell? ⟨kb, i, none⟩ = some (.pointer (some ⟨cb1 i, 0, none⟩)) := ptr_cell HU i hi3
        have hh2 := HU.hh
        have HHU : Hid (HostAt U.drew hb db nb sb mb blk L F B (.slice (some ⟨kb, 0, none⟩) 3 c1) 3 cb1 c) := hide (HU.kept (Nat.le_refl _) (fun _ _ => rfl))
        have HSU2 : Hid (SrvK db blk (4 * ((c i).waits.length + (numsOf s).length) + 0) U.drew 0 sb L F) := hide (((HSK.out.kept (by have := HSZ2.out; show wc.heap.size ≤ U.heap.size; omega) (fun b hF => HKU2.out b (HSK.out.lt b hF))).drew).less (by omega))
        have HBU : Hid (B ≤ U.drew.heap.size) := hide (by show B ≤ U.heap.size; omega)
        have HSL : Hid (Src U.drew (.slice (some ⟨wb, 0, none⟩) s.size D) (numsOf s)) := hide (hsl.src.kept (Nat.le_refl _) (fun _ _ _ _ _ _ => rfl))
        have HVF : Hid (∀ g o n d, Value.slice (some ⟨wb, 0, none⟩) s.size D = .slice (some ⟨g, o, none⟩) n d → ¬ F g) := hide (fun g o n d h hF => HKF.out (by injection h with h _ _; injection h with h; injection h with h _; exact Or.inr (Or.inr (Or.inl (h ▸ hF)))))
        clear hbk hwl hGV hKU hsU hbl hkF HU hsl hD hwb
        have hi0 : (0 : Int) ≤ (i : Int) := by omega
        have hi3' : (i : Int) < 3 := by omega
        have hwbU : wb < U.heap.size := by rw [HSU.out]; omega
        go_cut [19] (fun o wx => o = .string (strOfNums (encs (feedM L (c i) now (numsOf s)).2.2)) ∧ ∃ F3, HostAt wx hb db nb sb mb blk (feedM L (c i) now (numsOf s)).1 F3 B (.slice (some ⟨kb, 0, none⟩) 3 c1) 3 cb1 (fun j => if j = i then (feedM L (c i) now (numsOf s)).2.1 else c j) ∧ Keep (HG hb db F (.slice (some ⟨kb, 0, none⟩) 3 c1) 3 cb1) U.drew wx ∧ (∀ b, HG hb db F3 (.slice (some ⟨kb, 0, none⟩) 3 c1) 3 cb1 b → HG hb db F (.slice (some ⟨kb, 0, none⟩) 3 c1) 3 cb1 b ∨ U.drew.heap.size ≤ b) ∧ (∀ g, g < U.drew.heap.size → WaitN U.drew sb 3 cb1 c g → WaitN wx sb 3 cb1 (fun j => if j = i then (feedM L (c i) now (numsOf s)).2.1 else c j) g))
        case first =>
          go_region_law
            (first | (refine step_fn (by rfl) 30 callPick _ _ (by rfl) #[.int .i64 k, .int .i64 3] (by simp only [List.map_toArray, List.map_cons, List.map_nil]; rfl) (pick26' k i _ k0 k1 hpk) ?_; rintro e w1 ⟨rfl, rfl⟩; refine ⟨_, rfl, ?_⟩) | (refine step_fn (by rfl) 31 callFeed _ _ (by rfl) #[.pointer (some ⟨cb1 i, 0, none⟩), .int .u64 now, .slice (some ⟨wb, 0, none⟩) s.size D] (by simp only [List.map_toArray, List.map_cons, List.map_nil]; rfl) (feed31s db blk 0 sb (cb1 i) F L (c i) _ now (numsOf s) U.drew HSU2.out h0 h1 (HHU.out.hc i hi3) HSL.out (numsOf_bytes s) hbw hlen HVF.out (fun g kk => sweeps g db kk)) ?_; rintro e w3 ⟨rv, rfl, hP⟩; refine ⟨_, rfl, ?_⟩; obtain ⟨F3, H3, hK3, hG3, hown3, hW3⟩ := HostAt.fed HHU.out HBU.out i hi3 hP; have hcv := conv_own hown3 rfl))
          all_goals (go_wp2_with fail; go_meet)
          all_goals exact ⟨rfl, F3, H3, hK3, hG3, hW3⟩
        case rest =>
          obtain ⟨rfl, F3, H3, hK3, hG3, hWA3⟩ := hcut
          have hWN3 := hWA3 wb hwbU HWN.out
          have hWK3 : ∀ g, g < w.heap.size → WaitN w sb m cb c g → WaitN wc sb 3 cb1 (fun j => if j = i then (feedM L (c i) now (numsOf s)).2.1 else c j) g := fun g hg h => hWA3 g (Nat.lt_of_lt_of_le hg HKU.out.size) (HWU.out g h)
          clear hWA3
          obtain ⟨w3, hw3⟩ : ∃ w3, w3 = wc := ⟨_, rfl⟩
          rw [← hw3] at H3 hK3 hWN3 hWK3 ⊢
          have HWK3 := hide hWK3
          clear hWK3
          clear hw3
          have hsd : U.drew.heap.size = U.heap.size := rfl
          have hs3 := hK3.size
          have hKw : Keep (HG hb db F cv m cb) w w3 := HKU.out.drew.then hK3 (fun b hb' h => (HGV.out b h).elim id (fun h => absurd hb' (Nat.not_lt.2 h)))
          have hGw : ∀ b, HG hb db F3 (.slice (some ⟨kb, 0, none⟩) 3 c1) 3 cb1 b → HG hb db F cv m cb b ∨ w.heap.size ≤ b := fun b h => (hG3 b h).elim (HGV.out b) (fun h => Or.inr (Nat.le_trans (HKU.out.size) h))
          have hb3 : w3.heap[wb]? = some (.cells (bytesRow s D) 5 ((bytesRow s D).size, (bytesRow s D).size + 1)) := (hK3.block wb hwbU HKF.out).trans HBK.out
          have hN3 : ¬ HG hb db F3 (.slice (some ⟨kb, 0, none⟩) 3 c1) 3 cb1 wb := fun h => (hG3 wb h).elim HKF.out (fun h => by omega)
          have hWb : Wb w3 w3 wb s.size := ⟨rfl, rfl, rfl, rfl, fun _ _ => rfl, _, _, hb3, bytesRow_size s D, bytesRow_size s D⟩
          obtain ⟨out, hout⟩ : ∃ out, out = strOfNums (encs (feedM L (c i) now (numsOf s)).2.2) := ⟨_, rfl⟩
          rw [← hout]
          have HOUT := hide hout
          have HH3 := hide H3
          have HKW := hide hKw
          have HGW := hide hGw
          have HN3 := hide hN3
          have HW3 := hide hWN3
          have HWB := hide hWb
          have hwl := HWL.out
          clear hout H3 hKw hGw hN3 hWN3 hWb hK3 hG3 f1 f2 hh2 hb3 HSL HVF HBU HHU HKU HGV
          go_wp2_with fail
          go_loopw [77] (fun z wz => ∃ j : Nat, j ≤ s.size ∧ z = .int .i64 j ∧ Wb w3 wz wb s.size) (fun z _ => s.size - (intOf z).toNat)
          case atStart => exact ⟨0, Nat.zero_le _, rfl, HWB.out⟩
          case round =>
            obtain ⟨j, hj, rfl, LW⟩ := hrel
            by_cases hlt : j < s.size
            · obtain ⟨⟨u, hu⟩, hfz⟩ := LW.cell j hlt
              go_wp2
              go_roundw
              case rel => exact ⟨j + 1, by omega, by go_num, LW.step j _⟩
              case measure => simp [intOf]; omega
            · obtain rfl : j = s.size := by omega
              have HZ : HostAt wr hb db nb sb mb blk (feedM L (c i) now (numsOf s)).1 F3 B (.slice (some ⟨kb, 0, none⟩) 3 c1) 3 cb1 (fun j => if j = i then (feedM L (c i) now (numsOf s)).2.1 else c j) := HH3.out.keptE wb HN3.out HW3.out (Nat.le_of_eq LW.size.symm) (fun k _ h => LW.blk k h)
              have hKZ : Keep (HG hb db F cv m cb) w wr := ⟨LW.os.trans HKW.out.os, LW.tape.trans HKW.out.tape, LW.output.trans HKW.out.output, by rw [LW.size]; exact HKW.out.size, fun k hk hG => (LW.blk k (by omega)).trans (HKW.out.block k hk hG)⟩
              have HWZ : Hid (∀ g, g < w.heap.size → WaitN w sb m cb c g → WaitN wr sb 3 cb1 (fun j => if j = i then (feedM L (c i) now (numsOf s)).2.1 else c j) g) := hide (fun g hg h => (HWK3.out g hg h).kept (fun j hj => LW.blk _ (fun e => HN3.out (e ▸ Or.inr (Or.inr (Or.inr (Or.inr ⟨j, hj, rfl⟩)))))))
              have hhz := HZ.hh
              obtain ⟨ma, na, l2, f2, hdz⟩ := HZ.hs.dsk
              have a3 := cellB hhz 0
              have a4 := cellB hdz 5
              have HHZ := hide HZ
              have HKZ := hide hKZ
              clear HZ hKZ LW
              go_wp2_with fail
              refine (after28 hb db (some ma) (some na) _ _ _ _ l2 f2 kp pt _ hhz hdz).mono ?_
              rintro e w5 ⟨rfl, e1, e2⟩
              go_wp2
              go_ret2
              refine ⟨F3, _, cb1, by rw [← HOUT.out]; rfl, (HHZ.out.refill hdz e1 e2.size (fun q hq hqd => e2.block q hq hqd)).1, HKZ.out.then e2 (fun q _ h => Or.inr (Or.inl h)), HGW.out, fun g hg h => (HWZ.out g hg h).kept (fun j hj => e2.block _ (ltB (HHZ.out.hc j hj).mem.choose_spec.1) (fun e => (HHZ.out.hc j hj).nF (e ▸ HHZ.out.hd)))⟩

theorem feed11g (kp pt : Int) (hb db nb sb : Nat) (mb : Option Nat) (blk : Int) (L : Ld) (F : Nat → Prop) (B : Nat) (cv : Value) (m : Nat) (cb : Nat → Nat) (c : Nat → Cn) (k now : Int) (s : ByteArray) (w : World) (H : HostAt w hb db nb sb mb blk L F B cv m cb c) (hm : m ≤ 3) (hB : B ≤ w.heap.size) (hq : m < 3 → ∀ i, c i = ⟨[], false⟩) (i : Nat) (hpk : pickM k 3 = (i : Int)) (k0 : -9223372036854775808 ≤ k) (k1 : k ≤ 9223372036854775807) (hL : L.ok) (h0 : 0 ≤ now) (h1 : now ≤ 18446744073709551615) (hbw : Bytes (c i).waits) (hlen : (c i).waits.length + (numsOf s).length ≤ 100000) :
    Calls Tryz.prog 14 #[.pointer (some ⟨hb, 0, none⟩), .int .i64 k, .int .u64 now, .string s, .int .i64 (-1), .int .i64 (-1), .int .i64 kp, .int .i64 pt] w fun e w' => ∃ F' cv' cb', e = .returned (.tuple #[.string (strOfNums (encs (feedM L (c i) now (numsOf s)).2.2)), .bool false]) ∧ HostAt w' hb db nb sb mb blk (feedM L (c i) now (numsOf s)).1 F' B cv' 3 cb' (fun j => if j = i then (feedM L (c i) now (numsOf s)).2.1 else c j) ∧ Keep (HG hb db F cv m cb) w w' ∧ ∀ b, HG hb db F' cv' 3 cb' b → HG hb db F cv m cb b ∨ w.heap.size ≤ b := by
  refine (feed11w kp pt hb db nb sb mb blk L F B cv m cb c k now s w H hm hB hq i hpk k0 k1 hL h0 h1 hbw hlen).mono ?_
  rintro e w2 ⟨F2, v2, c2, h1, h2, h3, h4, _⟩
  exact ⟨F2, v2, c2, h1, h2, h3, h4⟩
theorem feed11 (hb db nb sb : Nat) (mb : Option Nat) (blk : Int) (L : Ld) (F : Nat → Prop) (B : Nat) (cv : Value) (m : Nat) (cb : Nat → Nat) (c : Nat → Cn) (k now : Int) (s : ByteArray) (w : World) (H : HostAt w hb db nb sb mb blk L F B cv m cb c) (hm : m ≤ 3) (hB : B ≤ w.heap.size) (hq : m < 3 → ∀ i, c i = ⟨[], false⟩) (i : Nat) (hpk : pickM k 3 = (i : Int)) (k0 : -9223372036854775808 ≤ k) (k1 : k ≤ 9223372036854775807) (hL : L.ok) (h0 : 0 ≤ now) (h1 : now ≤ 18446744073709551615) (hbw : Bytes (c i).waits) (hlen : (c i).waits.length + (numsOf s).length ≤ 100000) :
    Calls Tryz.prog 14 #[.pointer (some ⟨hb, 0, none⟩), .int .i64 k, .int .u64 now, .string s, .int .i64 (-1), .int .i64 (-1), .int .i64 0, .int .i64 0] w fun e w' => ∃ F' cv' cb', e = .returned (.tuple #[.string (strOfNums (encs (feedM L (c i) now (numsOf s)).2.2)), .bool false]) ∧ HostAt w' hb db nb sb mb blk (feedM L (c i) now (numsOf s)).1 F' B cv' 3 cb' (fun j => if j = i then (feedM L (c i) now (numsOf s)).2.1 else c j) ∧ Keep (HG hb db F cv m cb) w w' ∧ ∀ b, HG hb db F' cv' 3 cb' b → HG hb db F cv m cb b ∨ w.heap.size ≤ b :=
  feed11g 0 0 hb db nb sb mb blk L F B cv m cb c k now s w H hm hB hq i hpk k0 k1 hL h0 h1 hbw hlen
end Go.Proofs.YtnlgndpcddngoaaGreatDoor

namespace Go.Proofs.YtnlgndpcddngoaaGreatDoor
open Go.RowKit
variable [dK] [iK]

structure Rq.byt (q : Rq) : Prop where
  op : 0 ≤ q.op ∧ q.op ≤ 255
  kd : 0 ≤ q.kd ∧ q.kd ≤ 255
theorem enc_bytes (q : Rq) (h : q.ok) (hb : q.byt) : Bytes q.enc := by
  have hk := h.key
  have h0 := hk.h0; have h1 := hk.h1; have h2 := hk.h2; have h3 := hk.h3; have h4 := hk.h4; have h5 := hk.h5; have h6 := hk.h6; have h7 := hk.h7
  have hkd := hb.kd
  have hop := hb.op
  simp only [Rq.key] at h0 h1 h2 h3 h4 h5 h6 h7
  unfold Rq.enc encReq
  split
  · refine (Bytes.app ?_ (be8_bytes _)).app (be8_bytes _)
    intro x hx
    simp only [List.mem_cons, List.not_mem_nil, or_false] at hx
    omega
  · split
    · refine Bytes.app ?_ (be8_bytes _)
      intro x hx
      simp only [List.mem_cons, List.not_mem_nil, or_false] at hx
      omega
    · split
      · intro x hx
        simp only [List.mem_cons, List.not_mem_nil, or_false] at hx
        omega
      · split
        · intro x hx
          simp only [List.mem_cons, List.not_mem_nil, or_false] at hx
          omega
        · intro x hx
          simp at hx
theorem encQs_bytes (qs : List Rq) (h : ∀ q ∈ qs, q.ok ∧ q.byt) : Bytes (encQs qs) := by
  intro x hx
  obtain ⟨q, hq, hx⟩ := List.mem_flatMap.1 hx
  exact enc_bytes q (h q hq).1 (h q hq).2 x hx
abbrev rqcl (q : Rq) : List Value := [.int .u8 q.op, .int .u8 q.k0, .int .u8 q.k1, .int .u8 q.k2, .int .u8 q.k3, .int .u8 q.k4, .int .u8 q.k5, .int .u8 q.k6, .int .u8 q.k7, .int .u8 q.kd, .int .u64 q.x, .int .u64 q.y, .int .u64 q.n]
/-- keep's bytes over requests that lie one behind the other in a block. -/
theorem bytes9' (A cap : Nat) (qs : List Rq) (w : World) (t : TypeId) (fr : Nat × Nat) (hnc : qs.length ≤ cap) (hn1 : qs.length ≤ 1000) (hok : ∀ q ∈ qs, q.ok) (hA : w.heap[A]? = some (.cells (qs.flatMap rqcl).toArray t fr)) :
    Calls Tryz.prog 12 #[.slice (some ⟨A, 0, none⟩) qs.length cap] w fun e w' => e = .returned (.string (strOfNums (encQs qs))) ∧ Below w.heap.size w w' := by
  refine bytes9 A 0 qs.length cap qs w rfl hnc hn1 hok (ltB hA) (fun i h j => ?_)
  rcases Nat.lt_or_ge j 13 with hj | hj
  · left
    rw [cellB hA, Nat.zero_add]
    have hfl : ∀ (l : List Rq) (i : Nat) (h : i < l.length), (l.flatMap rqcl)[i * 13 + j]? = (rqcl l[i])[j]? := by
      intro l
      induction l with
      | nil => intro i h; simp at h
      | cons q r ih =>
        intro i h
        rw [List.flatMap_cons]
        cases i with
        | zero =>
          rw [Nat.zero_mul, Nat.zero_add, List.getElem?_append_left (by simpa using hj)]
          rfl
        | succ i =>
          rw [List.getElem?_append_right (by simp; omega)]
          have e : (i + 1) * 13 + j - (rqcl q).length = i * 13 + j := by simp; omega
          rw [e, ih i (by simpa using h)]
          rfl
    have := hfl qs i h
    simpa using this
  · right; exact hj

set_option maxRecDepth 100000 in
set_option maxHeartbeats 4000000 in
theorem opened8 (kd x y blk : Int) (w : World) (hso : soundM kd x y) (hx : 0 ≤ x ∧ x ≤ 18446744073709551615) (hy : 0 ≤ y ∧ y ≤ 18446744073709551615) (hblk : 0 ≤ blk ∧ blk ≤ 18446744073709551615) (hgl : w.cell? ⟨0, 0, none⟩ = some (.iface 236 (.agg #[.pointer (some ⟨5, 97, none⟩)]))) :
    Calls Tryz.prog 11 #[.agg #[.int .u8 kd, .int .u64 x, .int .u64 y], .int .u64 blk] w fun e w' => ∃ hb db nb sb mb F cv cb, e = .returned (.pointer (some ⟨hb, 0, none⟩)) ∧ HostAt w' hb db nb sb mb blk ⟨0, 0, [(kK, ⟨kd, x, y, 0, 0⟩)]⟩ F w.heap.size cv 3 cb (fun _ => ⟨[], false⟩) ∧ Below w.heap.size w w' := by
  obtain ⟨W0, hW0⟩ : ∃ W0, W0 = w.alloc (.cells #[.int .u8 kd, .int .u64 x, .int .u64 y] 30) := ⟨_, rfl⟩
  have hbx : W0.heap[w.heap.size]? = some (.cells #[.int .u8 kd, .int .u64 x, .int .u64 y] 30) := hW0 ▸ heapNew _ _
  have hB0 : Below w.heap.size w W0 := hW0 ▸ (Below.refl _ w).alloc (Nat.le_refl _) _
  have hs0 : W0.heap.size = w.heap.size + 1 := by rw [hW0]; simp
  have HOKS : Hid (∀ q ∈ [qDef kd x y, qQk, qQj], q.ok) := hide (fun q hq => by
    have z : (0 : Int) ≤ 0 ∧ (0 : Int) ≤ 18446744073709551615 := by omega
    simp only [List.mem_cons, List.not_mem_nil, or_false] at hq
    rcases hq with rfl | rfl | rfl
    · exact ⟨⟨by simp [qDef, Rq.key], by simp [qDef, Rq.key], by simp [qDef, Rq.key], by simp [qDef, Rq.key], by simp [qDef, Rq.key], by simp [qDef, Rq.key], by simp [qDef, Rq.key], by simp [qDef, Rq.key]⟩, hx, hy, z⟩
    · exact ⟨⟨by simp [qQk, Rq.key], by simp [qQk, Rq.key], by simp [qQk, Rq.key], by simp [qQk, Rq.key], by simp [qQk, Rq.key], by simp [qQk, Rq.key], by simp [qQk, Rq.key], by simp [qQk, Rq.key]⟩, z, z, z⟩
    · exact ⟨⟨by simp [qQj, Rq.key], by simp [qQj, Rq.key], by simp [qQj, Rq.key], by simp [qQj, Rq.key], by simp [qQj, Rq.key], by simp [qQj, Rq.key], by simp [qQj, Rq.key], by simp [qQj, Rq.key]⟩, z, z, z⟩)
  have HBYS : Hid (∀ q ∈ [qDef kd x y, qQk, qQj], q.byt) := hide (fun q hq => by
    simp only [List.mem_cons, List.not_mem_nil, or_false] at hq
    rcases hq with rfl | rfl | rfl
    · exact ⟨by simp [qDef], by rcases hso with h | h <;> simp [qDef, h.1]⟩
    · exact ⟨by simp [qQk], by simp [qQk]⟩
    · exact ⟨by simp [qQj], by simp [qQj]⟩)
  have hlt0 : 0 < w.heap.size := by
    rcases Nat.eq_zero_or_pos w.heap.size with h0 | h
    · simp [World.cell?, h0] at hgl
    · exact h
  have HGL := hide hgl
  have HS0 := hide hs0
  clear hgl hs0
  go_enter Tryz.func11, Tryz.ntmps11
  go_wp2_with fail
  rw [← hW0]
  clear hW0
  refine (newhost15 blk _).mono ?_
  rintro e w1 ⟨nb, rfl, h1, h2, h3, h4, h5, h6⟩
  obtain ⟨hb, ehb⟩ : ∃ hb, hb = W0.heap.size + 2 := ⟨_, rfl⟩
  obtain ⟨db, edb⟩ : ∃ db, db = W0.heap.size + 1 := ⟨_, rfl⟩
  obtain ⟨mb, emb⟩ : ∃ mb, mb = W0.heap.size := ⟨_, rfl⟩
  have hbx1 := (h6.block _ (ltB hbx)).trans hbx
  rw [← edb, ← emb] at h2
  rw [← ehb, ← edb] at h1
  rw [← emb] at h3
  have HB1 := hide (hB0.trans (h6.mono (Nat.le_of_lt (ltB hbx))))
  have HSZ : Hid (w.heap.size < mb ∧ mb < db ∧ db < hb ∧ hb < nb ∧ nb < w1.heap.size) := hide ⟨by have := HS0.out; omega, by omega, by omega, by omega, ltB h4⟩
  rw [← ehb]
  clear ehb edb emb h5 h6 hB0 hbx HS0
  go_wp2_with fail
  refine (hostopen16 hb db nb mb _ _ blk _ _ w1 hblk h1 h2 h3 h4 (by have := HSZ.out; omega)).mono ?_
  rintro e w2 ⟨sb, F0, rfl, i1, i2, i4, i6, i7, i5⟩
  have hz := HSZ.out
  have hbx2 := (i5.block w.heap.size (ltB hbx1) (by omega)).trans hbx1
  have HB2 : Hid (Below w.heap.size w w2) := hide (HB1.out.trans (i5.below (Nat.le_of_lt (ltB hbx1)) (fun k hk => by omega)))
  have H2 : HostAt w2 hb db nb sb (some mb) blk ⟨0, 0, []⟩ F0 w.heap.size (.slice none 0 0) 0 (fun _ => 0) (fun _ => ⟨[], false⟩) := by
    refine ⟨i2, i4.dskF, i4, fun i hi => absurd hi (Nat.not_lt_zero _), fun i j hi => absurd hi (Nat.not_lt_zero _), World.ownsRow_nil _ _ _ _, fun g hg hF => ?_, fun b hb' => ?_, fun _ _ => rfl⟩
    · rcases hg with h | h | h
      · exact i7 (h ▸ hF)
      · exact h
      · simp [Value.ownBlock] at h
    · rcases hb' with h | h | h | h | ⟨i, hi, h⟩
      · omega
      · omega
      · rcases i6 b h with h | h | h | h <;> omega
      · simp [Value.ownBlock] at h
      · omega
  have hsz2 := i5.size
  have HH2 := hide H2
  have a1 := cellB hbx2
  clear h1 h2 h3 h4 hbx1 HB1 i1 i2 i4 i5 i6 i7 H2 hz
  go_wp2_with fail
  obtain ⟨W, hW⟩ : ∃ W, W = w2.alloc (.cells (([qDef kd x y, qQk, qQj] : List Rq).flatMap rqcl).toArray 65) := ⟨_, rfl⟩
  have hWA : W.heap[w2.heap.size]? = some (.cells (([qDef kd x y, qQk, qQj] : List Rq).flatMap rqcl).toArray 65) := hW ▸ heapNew _ _
  have hWB : Below w2.heap.size w2 W := hW ▸ (Below.refl _ w2).alloc (Nat.le_refl _) _
  have h9 := bytes9' w2.heap.size 3 [qDef kd x y, qQk, qQj] W 65 (0, 0) (by simp) (by simp) HOKS.out hWA
  rw [hW] at h9
  refine h9.mono ?_
  rw [← hW]
  rintro e w3 ⟨rfl, hb3⟩
  have hk3 : ∀ k, k < w2.heap.size → w3.heap[k]? = w2.heap[k]? := fun k hk => (hb3.block k (Nat.lt_of_lt_of_le hk hWB.size)).trans (hWB.block k hk)
  have hs3 : w2.heap.size ≤ w3.heap.size := Nat.le_trans hWB.size hb3.size
  have H3 := HH2.out.kept hs3 hk3
  have hB3 : Below w.heap.size w w3 := HB2.out.trans ⟨hb3.os.trans hWB.os, hb3.tape.trans hWB.tape, hb3.output.trans hWB.output, hs3, fun k hk => hk3 k (Nat.lt_of_lt_of_le hk HB2.out.size)⟩
  obtain ⟨st, hst⟩ : ∃ st, st = strOfNums (encQs [qDef kd x y, qQk, qQj]) := ⟨_, rfl⟩
  have hnum : numsOf st = encQs [qDef kd x y, qQk, qQj] := by rw [hst]; exact numsOf_str _ (encQs_bytes _ (fun q hq => ⟨HOKS.out q hq, HBYS.out q hq⟩))
  have hfm : feedM ⟨0, 0, []⟩ ⟨[], false⟩ 0 (numsOf st) = (⟨0, 0, [(kK, ⟨kd, x, y, 0, 0⟩)]⟩, ⟨[], false⟩, [⟨1, 0, 0⟩, ⟨1, 0, 0⟩, ⟨4, 0, 0⟩]) := by rw [hnum]; exact opened_reckon kd x y hso hx hy
  have h11 := feed11 hb db nb sb (some mb) blk ⟨0, 0, []⟩ F0 w.heap.size (.slice none 0 0) 0 (fun _ => 0) (fun _ => ⟨[], false⟩) 0 0 st w3 H3 (by decide) hB3.size (fun _ _ => rfl) 0 (by decide) (by decide) (by decide) ⟨by simp, by simp, by simp, by simp, by simp, by simp⟩ (by decide) (by decide) (by intro b hb; simp at hb) (by rw [hnum]; have := encQs_len [qDef kd x y, qQk, qQj]; simp at this ⊢; omega)
  simp only [hfm] at h11
  have H11 := hide h11
  have HBW3 := hide hB3
  have HLO3 : Hid (∀ b, HG hb db F0 (.slice none 0 0) 0 (fun _ => 0) b → w.heap.size ≤ b) := hide H3.lo
  rw [← hst]
  clear hst hnum hfm h11 hB3 H3 hk3 hs3 h9 hW hWA hWB hb3
  go_wp2_with fail
  refine H11.out.mono ?_
  rintro e w4 ⟨F4, cv4, cb4, rfl, H4, hK4, hG4⟩
  have hB4 : Below w.heap.size w w4 := HBW3.out.trans (hK4.below HBW3.out.size HLO3.out)
  obtain ⟨st2, hst2⟩ : ∃ st2, st2 = strOfNums (encs [⟨1, 0, 0⟩, ⟨1, 0, 0⟩, ⟨4, 0, 0⟩]) := ⟨_, rfl⟩
  have htd : ∀ r ∈ ([⟨1, 0, 0⟩, ⟨1, 0, 0⟩, ⟨4, 0, 0⟩] : List Rp), r.told := fun r hr => by
    simp only [List.mem_cons, List.not_mem_nil, or_false] at hr
    rcases hr with rfl | rfl | rfl <;> exact ⟨by decide, by decide, by decide, by decide⟩
  have h23 := replies23 st2 [⟨1, 0, 0⟩, ⟨1, 0, 0⟩, ⟨4, 0, 0⟩] w4 (by rw [hst2]; exact numsOf_str _ (encs_bytes _ htd)) htd (by simp) ((hB4.cell (p := ⟨0, 0, none⟩) hlt0).trans HGL.out)
  have H23 := hide h23
  rw [← hst2]
  have HB4 := hide hB4
  have HH4 := hide H4
  have HG4 := hide hG4
  clear hst2 h23 hB4 H4 hK4 hG4 H11 HLO3 htd
  go_wp2_with fail
  refine H23.out.mono ?_
  rintro e w5 ⟨lv, rfl, hown5, hb5⟩
  obtain ⟨g, gc, rfl, _, hg5⟩ := hown5.form (by decide)
  have k0 := hown5.cellAt 0 (by simp)
  have k1 := hown5.cellAt 1 (by simp)
  have k2 := hown5.cellAt 2 (by simp)
  have k3 := hown5.cellAt 3 (by simp)
  have k4 := hown5.cellAt 4 (by simp)
  have k5 := hown5.cellAt 5 (by simp)
  have k6 := hown5.cellAt 6 (by simp)
  simp [rpcs, rpc] at k0 k1 k2 k3 k4 k5 k6
  clear hown5 H23
  go_wp2_with fail
  go_ret
  have hce : (fun j : Nat => if j = 0 then (⟨[], false⟩ : Cn) else ⟨[], false⟩) = fun _ => ⟨[], false⟩ := by
    funext j
    split <;> rfl
  have H4 := HH4.out
  rw [hce] at H4
  exact ⟨hb, db, nb, sb, some mb, F4, cv4, cb4, rfl, H4.kept hb5.size (fun k hk => hb5.block k hk), HB4.out.trans (hb5.mono HB4.out.size)⟩
end Go.Proofs.YtnlgndpcddngoaaGreatDoor
