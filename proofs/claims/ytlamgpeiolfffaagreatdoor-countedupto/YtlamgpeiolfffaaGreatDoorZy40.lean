import Derived.Test.YtlamgpeiolfffaaGreatDoorZy38
import Derived.Test.YtlamgpeiolfffaaGreatDoorZy39
import Derived.Test.YtlamgpeiolfffaaGreatDoorZy32
set_option linter.unusedSectionVars false
namespace Go.Proofs.YtlamgpeiolfffaaGreatDoor
open Go.RowKit
variable [dK] [iK]

theorem ansA {W w2 : World} {bb base : Nat} {lv lv' : Value} {B' : Bk} {r : Rp} (HP : BookAt w2 bb base lv' B') (HK : Keep (fun b => b = bb ∨ lv.ownBlock = some b) W.drew w2) (HL : ∀ g, lv'.ownBlock = some g → lv.ownBlock = some g ∨ W.drew.heap.size ≤ g) :
    ∃ R lv', Value.pointer (some ⟨w2.heap.size, 0, none⟩) = .pointer (some ⟨R, 0, none⟩) ∧ W.heap.size ≤ R ∧ (w2.alloc (.cells #[.int .u8 r.c, .int .u64 r.a, .int .u64 r.b] 40)).heap[R]? = some (.cells #[.int .u8 r.c, .int .u64 r.a, .int .u64 r.b] 40) ∧ BookAt (w2.alloc (.cells #[.int .u8 r.c, .int .u64 r.a, .int .u64 r.b] 40)) bb base lv' B' ∧ Keep (fun b => b = bb ∨ lv.ownBlock = some b) W (w2.alloc (.cells #[.int .u8 r.c, .int .u64 r.a, .int .u64 r.b] 40)) ∧ (∀ g, lv'.ownBlock = some g → lv.ownBlock = some g ∨ W.heap.size ≤ g) :=
  ⟨w2.heap.size, lv', rfl, HK.size, heapNew _ _, ⟨upB HP.hb _, own_keptE HP.ho (fun _g hg => heapOld _ _ (own_ltE HP.ho hg).2)⟩, (show Keep _ W w2 from ⟨HK.os, HK.tape, HK.output, HK.size, HK.block⟩).alloc _, HL⟩
theorem ansB {W w2 : World} {o : Obj} {bb base : Nat} {lv lv' : Value} {B' : Bk} {r : Rp} (HP : BookAt w2 bb base lv' B') (HK : Keep (fun b => b = bb ∨ lv.ownBlock = some b) (W.alloc o).drew w2) (HL : ∀ g, lv'.ownBlock = some g → lv.ownBlock = some g ∨ (W.alloc o).drew.heap.size ≤ g) (hN : ¬ (W.heap.size = bb ∨ lv.ownBlock = some W.heap.size))
    (HZ : w2.heap[W.heap.size]? = some (.cells #[.int .u8 0, .int .u64 0, .int .u64 0] 40)) :
    ∃ R lv', Value.pointer (some ⟨W.heap.size, 0, none⟩) = .pointer (some ⟨R, 0, none⟩) ∧ W.heap.size ≤ R ∧ (((w2.setCell ⟨W.heap.size, 0, none⟩ (.int .u8 r.c)).setCell ⟨W.heap.size, 1, none⟩ (.int .u64 r.a)).setCell ⟨W.heap.size, 2, none⟩ (.int .u64 r.b)).heap[R]? = some (.cells #[.int .u8 r.c, .int .u64 r.a, .int .u64 r.b] 40) ∧ BookAt (((w2.setCell ⟨W.heap.size, 0, none⟩ (.int .u8 r.c)).setCell ⟨W.heap.size, 1, none⟩ (.int .u64 r.a)).setCell ⟨W.heap.size, 2, none⟩ (.int .u64 r.b)) bb base lv' B' ∧ Keep (fun b => b = bb ∨ lv.ownBlock = some b) W (((w2.setCell ⟨W.heap.size, 0, none⟩ (.int .u8 r.c)).setCell ⟨W.heap.size, 1, none⟩ (.int .u64 r.a)).setCell ⟨W.heap.size, 2, none⟩ (.int .u64 r.b)) ∧ (∀ g, lv'.ownBlock = some g → lv.ownBlock = some g ∨ W.heap.size ≤ g) := by
  have hsz : (W.alloc o).drew.heap.size = W.heap.size + 1 := by show (W.alloc o).heap.size = _; simp
  have h1 : bb ≠ W.heap.size := fun e => hN (Or.inl e.symm)
  have h2 : ∀ g, lv'.ownBlock = some g → g ≠ W.heap.size := fun g hg e => (HL g hg).elim (fun h => hN (Or.inr (e ▸ h))) (fun h => by omega)
  have hk : Keep (fun b => b = bb ∨ lv.ownBlock = some b) W w2 := ⟨HK.os, HK.tape, HK.output, by have := HK.size; omega, fun k hk hS => (HK.block k (by omega) hS).trans (heapOld W o hk)⟩
  refine ⟨W.heap.size, lv', rfl, Nat.le_refl _, heapSet3 HZ _ _ _, ⟨?_, own_keptE HP.ho (fun g hg => ?_)⟩, ((hk.set (Or.inr (Nat.le_refl _)) _ _).set (Or.inr (Nat.le_refl _)) _ _).set (Or.inr (Nat.le_refl _)) _ _, fun g hg => (HL g hg).imp id (fun h => by omega)⟩
  · exact (heapSetO h1 _ _).trans ((heapSetO h1 _ _).trans ((heapSetO h1 _ _).trans HP.hb))
  · exact (heapSetO (h2 g hg) _ _).trans ((heapSetO (h2 g hg) _ _).trans (heapSetO (h2 g hg) _ _))

set_option maxRecDepth 100000 in
set_option maxHeartbeats 4000000 in
theorem answered53 (wb bb base : Nat) (lv c0 c2 c3 c4 f0 f1 f2 f3 f4 f5 f6 f7 f8 f9 f10 f11 f12 was win least : Value) (lt : Int) (B B' : Bk) (q : Rq) (r : Rp) (w : World) (hw : w.heap[wb]? = some (.cells #[c0, .pointer (some ⟨bb, 0, none⟩), c2, c3, c4, .bool false, f0, f1, f2, f3, f4, f5, f6, f7, f8, f9, f10, f11, f12, was, win, least, .int .u64 lt] 60)) (h : BookAt w bb base lv B) (hB : B.ok) (hq : q.ok) (ho : q.op ∈ [1, 2, 3, 4, 5, 6]) (hba : base ≤ w.heap.size) (hask : askM B q = (B', r)) (h7 : r.c ≠ 7) (_hlt0 : 0 ≤ lt) (_hlt1 : lt ≤ 18446744073709551615) (lt' : Int) (hlt' : lt' = if r.c = 2 then (lt + q.n) % 18446744073709551616 else lt) :
    Calls Tryz.prog 53 #[.pointer (some ⟨wb, 0, none⟩), .agg #[.int .u8 q.op, .int .u8 q.k0, .int .u8 q.k1, .int .u8 q.k2, .int .u8 q.k3, .int .u8 q.k4, .int .u8 q.k5, .int .u8 q.k6, .int .u8 q.k7, .int .u8 q.kd, .int .u64 q.x, .int .u64 q.y, .int .u64 q.n], .agg #[.int .u8 r.c, .int .u64 r.a, .int .u64 r.b]] w fun e w' => e = .returned (.bool true) ∧ ∃ lv' least', BookAt w' bb base lv' B' ∧ w'.heap[wb]? = some (.cells #[c0, .pointer (some ⟨bb, 0, none⟩), c2, c3, c4, .bool false, f0, f1, f2, f3, f4, f5, f6, f7, f8, f9, f10, f11, f12, was, win, least', .int .u64 lt'] 60) ∧ Keep (fun b => b = bb ∨ b = wb ∨ lv.ownBlock = some b) w w' ∧ (∀ g, lv'.ownBlock = some g → lv.ownBlock = some g ∨ w.heap.size ≤ g) := by
  have hC : ∀ V, BookAt V bb base lv B → base ≤ V.heap.size → Calls Tryz.prog 57 #[.pointer (some ⟨bb, 0, none⟩), .agg #[.int .u8 q.op, .int .u8 q.k0, .int .u8 q.k1, .int .u8 q.k2, .int .u8 q.k3, .int .u8 q.k4, .int .u8 q.k5, .int .u8 q.k6, .int .u8 q.k7, .int .u8 q.kd, .int .u64 q.x, .int .u64 q.y, .int .u64 q.n]] V fun e w' => ∃ lv', e = .returned (.agg #[.int .u8 r.c, .int .u64 r.a, .int .u64 r.b]) ∧ BookAt w' bb base lv' B' ∧ Keep (fun b => b = bb ∨ lv.ownBlock = some b) V w' ∧ (∀ g, lv'.ownBlock = some g → lv.ownBlock = some g ∨ V.heap.size ≤ g) := fun V hV hb => by
    have := ask57 bb base lv B q V hV hB hq ho hb
    unfold AskPost at this
    rw [hask] at this
    exact this
  have HC := hide hC
  have hqn := hq.n
  have HLT := hide hlt'
  have hwbb : wb ≠ bb := fun e => by have := hw.symm.trans (e ▸ h.hb); simp at this
  have hown : ∀ g, lv.ownBlock = some g → g ≠ wb := fun g hg => own_neE h.ho hg hw (by decide)
  have hlw := ltB hw
  have hlb := ltB h.hb
  clear hC hask hB ho hlt'
  go_enter Tryz.func53, Tryz.ntmps53
  go_upto_region 3 with fail
  obtain ⟨W, hW⟩ : ∃ W, W = (w.alloc (.cells #[.int .u8 q.op, .int .u8 q.k0, .int .u8 q.k1, .int .u8 q.k2, .int .u8 q.k3, .int .u8 q.k4, .int .u8 q.k5, .int .u8 q.k6, .int .u8 q.k7, .int .u8 q.kd, .int .u64 q.x, .int .u64 q.y, .int .u64 q.n] 58)).alloc (.cells #[.int .u8 r.c, .int .u64 r.a, .int .u64 r.b] 40) := ⟨_, rfl⟩
  rw [← hW]
  have hBe : Below w.heap.size w W := hW ▸ ((Below.refl _ w).alloc (Nat.le_refl _) _).alloc (by simp) _
  have hq0 : W.heap[w.heap.size]? = some (.cells #[.int .u8 q.op, .int .u8 q.k0, .int .u8 q.k1, .int .u8 q.k2, .int .u8 q.k3, .int .u8 q.k4, .int .u8 q.k5, .int .u8 q.k6, .int .u8 q.k7, .int .u8 q.kd, .int .u64 q.x, .int .u64 q.y, .int .u64 q.n] 58) := hW ▸ upB (heapNew _ _) _
  have hr0 : W.heap[w.heap.size + 1]? = some (.cells #[.int .u8 r.c, .int .u64 r.a, .int .u64 r.b] 40) := hW ▸ heapN (by simp)
  have hw0 : W.heap[wb]? = some (.cells #[c0, .pointer (some ⟨bb, 0, none⟩), c2, c3, c4, .bool false, f0, f1, f2, f3, f4, f5, f6, f7, f8, f9, f10, f11, f12, was, win, least, .int .u64 lt] 60) := hW ▸ upB (upB hw _) _
  have hbk0 : BookAt W bb base lv B := ⟨(hBe.block bb hlb).trans h.hb, own_keptE h.ho (fun g hg => hBe.block g (own_ltE h.ho hg).2)⟩
  have hsW := hBe.size
  have hlr := ltB hr0
  have hownq : ∀ g, lv.ownBlock = some g → g < w.heap.size := fun g hg => (own_ltE h.ho hg).2
  clear hW hw h
  have a1 := cellB hq0
  have a2 := fun o => upC hq0 o
  have a3 := cellB hw0
  have a4 := fun o => upC hw0 o
  have HB1 : Hid (BookAt W.drew bb base lv B) := hide ⟨hbk0.hb, hbk0.ho⟩
  have HB2 : Hid (∀ o, BookAt (W.alloc o).drew bb base lv B) := hide (fun o => ⟨upB hbk0.hb o, own_keptE hbk0.ho (fun g hg => heapOld W o (own_ltE hbk0.ho hg).2)⟩)
  have HBA : Hid (base ≤ W.heap.size) := hide (by omega)
  have HBA2 : Hid (∀ o, base ≤ (W.alloc o).drew.heap.size) := hide (fun o => by show base ≤ (W.alloc o).heap.size; simp; omega)
  have HSA : Hid (∀ o, W.heap.size < (W.alloc o).drew.heap.size) := hide (fun o => by show W.heap.size < (W.alloc o).heap.size; simp)
  have HNB : Hid (¬ (W.heap.size = bb ∨ lv.ownBlock = some W.heap.size)) := hide (fun e => e.elim (fun e => by omega) (fun e => by have := hownq _ e; omega))
  have HBE := hide hBe
  have HW0 := hide hw0
  have HQ0 := hide hq0
  have HR0 := hide hr0
  have HOQ := hide hownq
  have HOW := hide hown
  clear hBe hw0 hq0 hr0 hownq hown hbk0
  go_cut [7] (fun p wx => ∃ R lv', p = .pointer (some ⟨R, 0, none⟩) ∧ W.heap.size ≤ R ∧ wx.heap[R]? = some (.cells #[.int .u8 r.c, .int .u64 r.a, .int .u64 r.b] 40) ∧ BookAt wx bb base lv' B' ∧ Keep (fun b => b = bb ∨ lv.ownBlock = some b) W wx ∧ (∀ g, lv'.ownBlock = some g → lv.ownBlock = some g ∨ W.heap.size ≤ g))
  case first =>
    go_region_with (first
      | (go_at_call 57; refine (HC.out W.drew HB1.out HBA.out).mono ?_; rintro e w2 ⟨lv', rfl, hb2, hk2, hl2⟩; have HP := hide hb2; have HK := hide hk2; have HL := hide hl2; clear hb2 hk2 hl2)
      | (go_at_call 57; refine (HC.out _ (HB2.out _) (HBA2.out _)).mono ?_; rintro e w2 ⟨lv', rfl, hb2, hk2, hl2⟩; have hz := (hk2.block W.heap.size (HSA.out _) HNB.out).trans (heapNew W _); have d1 := cellB hz; have d2 := frozenB hz; have HZ := hide hz; clear hz; have HP := hide hb2; have HK := hide hk2; have HL := hide hl2; clear hb2 hk2 hl2))
    all_goals (go_wp2_with fail; go_meet)
    all_goals first
      | exact ansA HP.out HK.out HL.out
      | exact ansB HP.out HK.out HL.out HNB.out HZ.out
  case rest =>
    obtain ⟨R, lv', rfl, hR, hr1, hbk1, hk1, hl1⟩ := hcut
    obtain ⟨U, hU⟩ : ∃ U, U = wc := ⟨_, rfl⟩
    rw [← hU] at hr1 hbk1 hk1 ⊢
    clear hU
    have hw1 := (hk1.block wb (by omega) (fun e => e.elim hwbb (fun e => HOW.out _ e rfl))).trans HW0.out
    have hq1 := (hk1.block w.heap.size (by omega) (fun e => e.elim (fun e => by omega) (fun e => by have := HOQ.out _ e; omega))).trans HQ0.out
    have hr2 := (hk1.block (w.heap.size + 1) (by omega) (fun e => e.elim (fun e => by omega) (fun e => by have := HOQ.out _ e; omega))).trans HR0.out
    have hbb1 := hbk1.hb
    have a5 := cellB hw1
    have a6 := frozenB hw1
    have a7 := cellB hq1
    have a8 := cellB hr2
    have a9 := cellB hr1
    have a10 := cellB hbb1
    have HBK := hide hbk1
    have HK1 := hide hk1
    have HL1 := hide hl1
    have HW1 := hide hw1
    have HQ1 := hide hq1
    have HR1 := hide hr2
    clear hbk1 hk1 hl1 hw1 hq1 hr2 hr1 hbb1 a1 a2 a3 a4
    have hKw : Keep (fun b => b = bb ∨ b = wb ∨ lv.ownBlock = some b) w U := (Keep.of_below HBE.out).trans (HK1.out.mono (fun k h _ => h.elim Or.inl (fun h => Or.inr (Or.inr h))))
    have hLw : ∀ g, lv'.ownBlock = some g → lv.ownBlock = some g ∨ w.heap.size ≤ g := fun g hg => (HL1.out g hg).imp id (fun h => by omega)
    have hBs : ∀ j v, BookAt (U.setCell ⟨wb, j, none⟩ v) bb base lv' B' := fun j v => ⟨(heapSetO (fun e => hwbb e.symm) _ _).trans HBK.out.hb, own_keptE HBK.out.ho (fun g hg => heapSetO ((HL1.out g hg).elim (HOW.out g) (fun h => by omega)) _ _)⟩
    have HKW := hide hKw
    have HLW := hide hLw
    have HBS := hide hBs
    clear hKw hLw hBs
    by_cases h2 : r.c = 2
    · have elt : IntKind.u64.wrap (lt + q.n) = lt' := by rw [HLT.out, if_pos h2, IntKind.wrap_u64]
      have ELT := hide elt
      clear elt
      have n1 : ¬ r.c = 1 := by omega
      go_upto_region 7 with fail
      go_cut [] (fun wx => wx.heap[wb]? = some (.cells #[c0, .pointer (some ⟨bb, 0, none⟩), c2, c3, c4, .bool false, f0, f1, f2, f3, f4, f5, f6, f7, f8, f9, f10, f11, f12, was, win, least, .int .u64 lt'] 60) ∧ BookAt wx bb base lv' B' ∧ Keep (fun b => b = bb ∨ b = wb ∨ lv.ownBlock = some b) w wx ∧ wx.heap[w.heap.size]? = some (.cells #[.int .u8 q.op, .int .u8 q.k0, .int .u8 q.k1, .int .u8 q.k2, .int .u8 q.k3, .int .u8 q.k4, .int .u8 q.k5, .int .u8 q.k6, .int .u8 q.k7, .int .u8 q.kd, .int .u64 q.x, .int .u64 q.y, .int .u64 q.n] 58) ∧ wx.heap[w.heap.size + 1]? = some (.cells #[.int .u8 r.c, .int .u64 r.a, .int .u64 r.b] 40))
      case first =>
        go_region
        all_goals (go_wp2_with fail; go_meet)
        all_goals (rw [ELT.out]; exact ⟨(by have h22 := heapSet HW1.out 22 (Value.int .u64 lt'); simpa using h22 : (U.setCell ⟨wb, 22, none⟩ (.int .u64 lt')).heap[wb]? = some (.cells #[c0, .pointer (some ⟨bb, 0, none⟩), c2, c3, c4, .bool false, f0, f1, f2, f3, f4, f5, f6, f7, f8, f9, f10, f11, f12, was, win, least, .int .u64 lt'] 60)), ⟨(HBS.out 22 _).hb, (HBS.out 22 _).ho⟩, (HKW.out.set (Or.inl (Or.inr (Or.inl rfl))) _ _).drew, (heapSetO (by omega) _ _).trans HQ1.out, (heapSetO (by omega) _ _).trans HR1.out⟩)
      case rest =>
        obtain ⟨z1, z2, z3, z4, z5⟩ := hcut
        obtain ⟨X, hX⟩ : ∃ X, X = wc := ⟨_, rfl⟩
        rw [← hX] at z1 z2 z3 z4 z5 ⊢
        clear hX a5 a6 a7 a8 a9 a10
        have b1 := cellB z5
        have b2 := cellB z4
        have Z1 := hide z1
        have Z2 := hide z2
        have Z3 := hide z3
        clear z1 z2 z3 z4 z5
        go_wp2_with fail
        exact bodyPost_ret (v := .bool true) (by simp [results, Tryz.results53, go_sem]) rfl ⟨rfl, lv', least, Z2.out, Z1.out, Z3.out, HLW.out⟩
    · have elt : lt = lt' := by rw [HLT.out, if_neg h2]
      have HW2 : Hid (U.heap[wb]? = some (.cells #[c0, .pointer (some ⟨bb, 0, none⟩), c2, c3, c4, .bool false, f0, f1, f2, f3, f4, f5, f6, f7, f8, f9, f10, f11, f12, was, win, least, .int .u64 lt'] 60)) := hide (by rw [← elt]; exact HW1.out)
      clear elt
      by_cases h1 : r.c = 1 ∧ (q.op = 1 ∨ q.op = 4 ∨ q.op = 5)
      · obtain ⟨e1, h1⟩ := h1
        rcases h1 with e2 | e2 | e2
        all_goals (go_wp2_with fail)
        all_goals exact bodyPost_ret (v := .bool true) (by simp [results, Tryz.results53, go_sem]) rfl ⟨rfl, lv', _, HBS.out 21 _, by simpa using heapSet HW2.out 21 _, HKW.out.set (Or.inl (Or.inr (Or.inl rfl))) _ _, HLW.out⟩
      · by_cases e1 : r.c = 1
        · have n1 : (q.op == 1) = false := by rw [beq_eq_false_iff_ne]; exact fun e => h1 ⟨e1, Or.inl e⟩
          have n4 : (q.op == 4) = false := by rw [beq_eq_false_iff_ne]; exact fun e => h1 ⟨e1, Or.inr (Or.inl e)⟩
          have n5 : (q.op == 5) = false := by rw [beq_eq_false_iff_ne]; exact fun e => h1 ⟨e1, Or.inr (Or.inr e)⟩
          clear h1
          go_wp2_with fail
          exact bodyPost_ret (v := .bool true) (by simp [results, Tryz.results53, go_sem]) rfl ⟨rfl, lv', least, HBK.out, HW2.out, HKW.out, HLW.out⟩
        · clear h1
          go_wp2_with fail
          exact bodyPost_ret (v := .bool true) (by simp [results, Tryz.results53, go_sem]) rfl ⟨rfl, lv', least, HBK.out, HW2.out, HKW.out, HLW.out⟩
end Go.Proofs.YtlamgpeiolfffaaGreatDoor
