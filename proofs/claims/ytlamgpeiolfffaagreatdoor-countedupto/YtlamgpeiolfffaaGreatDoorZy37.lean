import Derived.Test.YtlamgpeiolfffaaGreatDoorZy36
import Derived.Maps.AppendAt
import Derived.Deep.RegionLaw
set_option linter.unusedSectionVars false
namespace Go.Proofs.YtlamgpeiolfffaaGreatDoor
open Go.RowKit
variable [dK] [iK]

theorem lncs_one (ls : List Ln) : ∀ u ∈ lncs ls, u.oneCell' = true := fun u hu => by
  obtain ⟨l, _, h⟩ := List.mem_flatMap.1 hu
  simp only [lnc, List.mem_cons, List.not_mem_nil, or_false] at h
  rcases h with rfl | rfl | rfl | rfl | rfl | rfl | rfl | rfl | rfl | rfl | rfl | rfl | rfl <;> rfl

theorem lncs_erase : ∀ (ls : List Ln) (i : Nat), lncs (ls.eraseIdx i) = (lncs ls).take (i * 13) ++ (lncs ls).drop ((i + 1) * 13)
  | [], i => by simp [lncs]
  | l :: r, 0 => by
    have h13 : (lnc l).length = 13 := rfl
    simp only [List.eraseIdx_cons_zero, Nat.zero_mul, List.take_zero, List.nil_append, Nat.zero_add, Nat.one_mul]
    unfold lncs
    rw [List.flatMap_cons, List.drop_append_of_le_length (by omega), List.drop_of_length_le (by omega), List.nil_append]
  | l :: r, i + 1 => by
    have h13 : (lnc l).length = 13 := rfl
    have ih := lncs_erase r i
    simp only [List.eraseIdx_cons_succ]
    unfold lncs at ih ⊢
    rw [List.flatMap_cons, List.flatMap_cons, ih, List.take_append, List.drop_append, h13]
    rw [show List.take ((i + 1) * 13) (lnc l) = lnc l from List.take_of_length_le (by omega), show List.drop ((i + 1 + 1) * 13) (lnc l) = [] from List.drop_of_length_le (by omega), List.nil_append, List.append_assoc]
    congr 3
    · omega
    · omega
theorem own_base {w : World} {b b' e sz : Nat} {v : Value} {n : Nat} {xs : List Value} (h : w.ownsRow b e sz v n xs) (hb : b' ≤ b) : w.ownsRow b' e sz v n xs := by
  obtain ⟨h1, h2⟩ := h
  refine ⟨h1, ?_⟩
  rcases h2 with h2 | ⟨g, cap, cur, hv, hg, r⟩
  · exact Or.inl h2
  · exact Or.inr ⟨g, cap, cur, hv, Nat.le_trans hb hg, r⟩
/-- One line less. -/
theorem del_end {w w1 w6 : World} {bb base i : Nat} {lv v6 : Value} {B : Bk} {R n6 : Nat} {o : Obj} (hA : BookAt w1 bb base lv B) (hK : ∀ k, k < w1.heap.size → w6.heap[k]? = w1.heap[k]?) (hs : w1.heap.size ≤ w6.heap.size) (ho : w6.os = w1.os ∧ w6.tape = w1.tape ∧ w6.output = w1.output)
    (ho6 : w6.ownsRow w1.heap.size 139 13 v6 n6 ((lncs B.ls).take (i * 13) ++ (lncs B.ls).drop ((i + 1) * 13))) (hn6 : n6 = (B.ls.eraseIdx i).length) (hbase : base ≤ w1.heap.size) (hBE : Below w.heap.size w w1) (hR : w1.heap[R]? = some o) (hRb : R ≠ bb) :
    BookAt (w6.setCell ⟨bb, 0, none⟩ v6) bb base v6 ⟨B.time, B.ls.eraseIdx i⟩ ∧ (w6.setCell ⟨bb, 0, none⟩ v6).heap[R]? = some o ∧ Keep (fun b => b = bb ∨ lv.ownBlock = some b) w (w6.setCell ⟨bb, 0, none⟩ v6) ∧ (∀ g, v6.ownBlock = some g → lv.ownBlock = some g ∨ w.heap.size ≤ g) := by
  have hb6 := (hK bb (ltB hA.hb)).trans hA.hb
  have hsw := hBE.size
  refine ⟨⟨by simpa using heapSet hb6 0 v6, ?_⟩, ?_, ⟨ho.1.trans hBE.os, ho.2.1.trans hBE.tape, ho.2.2.trans hBE.output, by rw [World.size_setCell]; omega, fun k hk hn => ?_⟩, fun g hg => Or.inr (Nat.le_trans hsw (own_ltE ho6 hg).1)⟩
  · rw [lncs_erase, ← hn6]
    exact own_keptE (own_base ho6 hbase) (fun g hg => heapSetO (own_neE ho6 hg hb6 (by decide)) _ _)
  · rw [heapSetO hRb]
    exact (hK R (ltB hR)).trans hR
  · rw [heapSetO (fun e => hn (Or.inl e))]
    exact (hK k (by omega)).trans (hBE.block k hk)

set_option maxRecDepth 100000 in
set_option maxHeartbeats 2000000 in
/-- Ask: Admit. -/
theorem ask57_2 (bb base : Nat) (lv : Value) (B : Bk) (q : Rq) (w : World) (h : BookAt w bb base lv B) (hB : B.ok) (hq : q.ok) (ho : q.op = 2) (i : Nat) (hi : idx q.key B.ls = some i) :
    Calls Tryz.prog 57 #[.pointer (some ⟨bb, 0, none⟩), rqv q] w (AskPost bb base lv B q w) := by
  obtain ⟨W, hW⟩ : ∃ W, W = (w.alloc (.cells #[.int .u8 q.op, .int .u8 q.k0, .int .u8 q.k1, .int .u8 q.k2, .int .u8 q.k3, .int .u8 q.k4, .int .u8 q.k5, .int .u8 q.k6, .int .u8 q.k7, .int .u8 q.kd, .int .u64 q.x, .int .u64 q.y, .int .u64 q.n] 58)).alloc (.cells #[.int .u8 0, .int .u64 0, .int .u64 0] 40) := ⟨_, rfl⟩
  have hq0 : W.heap[w.heap.size]? = some (.cells #[.int .u8 q.op, .int .u8 q.k0, .int .u8 q.k1, .int .u8 q.k2, .int .u8 q.k3, .int .u8 q.k4, .int .u8 q.k5, .int .u8 q.k6, .int .u8 q.k7, .int .u8 q.kd, .int .u64 q.x, .int .u64 q.y, .int .u64 q.n] 58) := hW ▸ upB (heapNew _ _) _
  have hr0 : W.heap[w.heap.size + 1]? = some (.cells #[.int .u8 0, .int .u64 0, .int .u64 0] 40) := hW ▸ heapN (by simp)
  have hBW : Below w.heap.size w W := hW ▸ ((Below.refl _ w).alloc (Nat.le_refl _) _).alloc (by simp) _
  have hAW := h.below hBW (Nat.le_refl _)
  have hbl := ltB h.hb
  have hgl : ∀ g, lv.ownBlock = some g → g < w.heap.size := fun g hg => (own_ltE h.ho hg).2
  have h84 := find84 bb base lv B q.key W hAW hB.len
  have hl12 := hB.len
  have hTm := hB.time
  obtain ⟨l, hl⟩ : ∃ l, B.ls[i]? = some l := ⟨_, List.getElem?_eq_getElem (idx_lt hi)⟩
  have hgd : B.ls.getD i ⟨q.key, 0, 0, 0, 0, 0⟩ = l := by simp [List.getD, hl]
  have em : askM B q = admitM B i l q.n := by unfold askM; rw [if_neg (by omega), if_neg (by omega), if_neg (by omega), hi]; dsimp only; rw [if_neg (by omega), if_neg (by omega), hgd]
  have hii : idxI q.key B.ls = (i : Int) := by unfold idxI; rw [hi]
  rw [hii] at h84
  have hi0 : (0 : Int) ≤ (i : Int) := by omega
  have hin : ¬ (i : Int) < 0 := by omega
  have hlo := hB.ln l (List.mem_of_getElem? hl)
  have HE := hide em
  have HL := hide hl
  have HLO := hide hlo
  have hqn := hq.n
  clear em hi hii hgd hl hlo
  have H84 := hide h84
  have HAW := hide hAW
  have HQ0 := hide hq0
  have HR0 := hide hr0
  have HBW := hide hBW
  have HGL := hide hgl
  have HB := hide hB
  have HH := hide h
  clear h84 hAW hq0 hr0 hBW hgl hB h
  have HO := hide ho
  clear ho
  go_enter Tryz.func57, Tryz.ntmps57
  go_wp2_with fail
  have h84 := H84.out
  rw [hW] at h84
  refine h84.mono ?_
  rw [← hW]
  rintro e w1 ⟨rfl, hb1⟩
  have hA1 := HAW.out.below hb1 (Nat.le_refl _)
  have hq1 := (hb1.block _ (ltB HQ0.out)).trans HQ0.out
  have hr1 := (hb1.block _ (ltB HR0.out)).trans HR0.out
  have x0 := cellB hq1
  have x1 := cellB hr1
  have x2 := frozenB hr1
  have y1 := cellB hA1.hb
  have HA1 := hide hA1
  have HR1 := hide hr1
  have HQ1 := hide hq1
  have HBE := hide (HBW.out.trans (hb1.mono HBW.out.size))
  have hbR : bb ≠ w.heap.size + 1 := by omega
  have hbR' : w.heap.size + 1 ≠ bb := by omega
  clear h84 hW hA1 hq1 hr1 hb1
  have ho := HO.out
  go_wp2_with fail
  refine (admit86 bb base lv B i l q.n _ HA1.out HL.out hl12 HLO.out hqn hTm (hide (fun bb lv T l n w a b c d e => spaced111 bb lv T l n w a b c d e))).mono ?_
  rintro e w2 ⟨rfl, hA2, hK2⟩
  obtain ⟨B', ⟨c, a, b⟩, hab⟩ : ∃ B' r, admitM B i l q.n = (B', r) := ⟨_, _, rfl⟩
  rw [hab] at hA2 ⊢
  have HE2 := HE.out
  rw [hab] at HE2
  have HE3 := hide HE2
  have hlr : w.heap.size + 1 < w1.heap.size := ltB HR1.out
  have hr2 := (hK2.block _ hlr (fun e => by have := HGL.out _ e; omega)).trans HR1.out
  have z1 := cellB hr2
  have z2 := frozenB hr2
  have HA2 := hide hA2
  have HKK : Hid (Keep (fun b => b = bb ∨ lv.ownBlock = some b) w w2) := hide ((Keep.of_below HBE.out).then hK2 (fun i _ h => Or.inr h))
  clear x0 x1 x2 y1 HE2 hab hr2 hA2 hK2
  go_wp2_with fail
  exact bodyPost_ret (v := .agg #[.int .u8 c, .int .u64 a, .int .u64 b]) (by simp [results, Tryz.results57, go_sem, z1]) rfl (AskPost.mk' HA2.out HE3.out (Nat.le_succ _) hbR (fun g hg => by have := HGL.out g hg; omega) HKK.out (fun g hg => Or.inl hg))
set_option maxRecDepth 100000 in
set_option maxHeartbeats 2000000 in
/-- Ask: Delete. -/
theorem ask57_4 (bb base : Nat) (lv : Value) (B : Bk) (q : Rq) (w : World) (h : BookAt w bb base lv B) (hB : B.ok) (_hq : q.ok) (ho : q.op = 4) (i : Nat) (hi : idx q.key B.ls = some i) :
    Calls Tryz.prog 57 #[.pointer (some ⟨bb, 0, none⟩), rqv q] w (AskPost bb base lv B q w) := by
  obtain ⟨W, hW⟩ : ∃ W, W = (w.alloc (.cells #[.int .u8 q.op, .int .u8 q.k0, .int .u8 q.k1, .int .u8 q.k2, .int .u8 q.k3, .int .u8 q.k4, .int .u8 q.k5, .int .u8 q.k6, .int .u8 q.k7, .int .u8 q.kd, .int .u64 q.x, .int .u64 q.y, .int .u64 q.n] 58)).alloc (.cells #[.int .u8 0, .int .u64 0, .int .u64 0] 40) := ⟨_, rfl⟩
  have hq0 : W.heap[w.heap.size]? = some (.cells #[.int .u8 q.op, .int .u8 q.k0, .int .u8 q.k1, .int .u8 q.k2, .int .u8 q.k3, .int .u8 q.k4, .int .u8 q.k5, .int .u8 q.k6, .int .u8 q.k7, .int .u8 q.kd, .int .u64 q.x, .int .u64 q.y, .int .u64 q.n] 58) := hW ▸ upB (heapNew _ _) _
  have hr0 : W.heap[w.heap.size + 1]? = some (.cells #[.int .u8 0, .int .u64 0, .int .u64 0] 40) := hW ▸ heapN (by simp)
  have hBW : Below w.heap.size w W := hW ▸ ((Below.refl _ w).alloc (Nat.le_refl _) _).alloc (by simp) _
  have hAW := h.below hBW (Nat.le_refl _)
  have hbl := ltB h.hb
  have hgl : ∀ g, lv.ownBlock = some g → g < w.heap.size := fun g hg => (own_ltE h.ho hg).2
  have h84 := find84 bb base lv B q.key W hAW hB.len
  have hl12 := hB.len
  have hTm := hB.time
  have hlt := idx_lt hi
  have em : askM B q = (⟨B.time, B.ls.eraseIdx i⟩, ⟨1, 0, 0⟩) := by unfold askM; rw [if_neg (by omega), if_neg (by omega), if_neg (by omega), hi]; dsimp only; rw [if_neg (by omega), if_pos ho]
  have hii : idxI q.key B.ls = (i : Int) := by unfold idxI; rw [hi]
  rw [hii] at h84
  have hi0 : (0 : Int) ≤ (i : Int) := by omega
  have hin : ¬ (i : Int) < 0 := by omega
  obtain ⟨g, cap, hv, hgb, hgl2⟩ := h.ho.form (by omega)
  obtain ⟨m, hm⟩ : ∃ m, m = B.ls.length := ⟨_, rfl⟩
  rw [← hm] at hv
  subst hv
  have hml : i < m := by omega
  have hm12 : m ≤ 12 := by omega
  have hmi : (i : Int) < (m : Int) := by omega
  have hmc : m ≤ cap := by
    rcases h.ho.2 with ⟨h1, _⟩ | ⟨g', cap', cur, hv, _, _, hnc, _⟩
    · simp at h1
    · injection hv with _ _ e3
      omega
  have hcm : cap ≤ maxLen := by
    rcases h.ho.2 with ⟨h1, _⟩ | ⟨g', cap', cur, hv, _, _, hnc, hcm, _⟩
    · simp at h1
    · injection hv with _ _ e3
      omega
  have HE := hide em
  have HM := hide hm
  clear em hi hii hlt hm
  have H84 := hide h84
  have HAW := hide hAW
  have HQ0 := hide hq0
  have HR0 := hide hr0
  have HBW := hide hBW
  have HGL := hide hgl
  have HB := hide hB
  have HH := hide h
  clear h84 hAW hq0 hr0 hBW hgl hB h
  have HO := hide ho
  clear ho
  go_enter Tryz.func57, Tryz.ntmps57
  go_wp2_with fail
  have h84 := H84.out
  rw [hW] at h84
  refine h84.mono ?_
  rw [← hW]
  rintro e w1 ⟨rfl, hb1⟩
  have hA1 := HAW.out.below hb1 (Nat.le_refl _)
  have hq1 := (hb1.block _ (ltB HQ0.out)).trans HQ0.out
  have hr1 := (hb1.block _ (ltB HR0.out)).trans HR0.out
  have x0 := cellB hq1
  have x1 := cellB hr1
  have x2 := frozenB hr1
  have y1 := cellB hA1.hb
  have HA1 := hide hA1
  have HR1 := hide hr1
  have HQ1 := hide hq1
  have HBE := hide (HBW.out.trans (hb1.mono HBW.out.size))
  have hbR : bb ≠ w.heap.size + 1 := by omega
  have hbR' : w.heap.size + 1 ≠ bb := by omega
  clear h84 hW hA1 hq1 hr1 hb1
  have ho := HO.out
  obtain ⟨i0, hi, hz0, hz1, hz2⟩ := info_parts Tryz.info139
  have hA1 := HA1.out
  have hrow : ∀ j, j < m * 13 → w1.cell? ⟨g, j, none⟩ = (lncs B.ls)[j]? := fun j hj => by
    have ho := hA1.ho
    rw [← HM.out] at ho
    exact ho.cellAt j hj
  have hlenc : (lncs B.ls).length = m * 13 := by rw [lncs_len, ← HM.out]
  have HNW : Hid (∀ j u, ((lncs B.ls).take (i * 13))[j]? = some u → w1.cell? ((⟨g, 0, none⟩ : Addr).add j) = some u) := hide (fun j u hj => by
    have hj' : j < i * 13 := by
      have := (List.getElem?_eq_some_iff.1 hj).1
      rw [List.length_take] at this
      omega
    rw [Addr.add_lit, Nat.zero_add, hrow j (by omega), ← hj, List.getElem?_take, if_pos hj'])
  have HNL : Hid (((lncs B.ls).take (i * 13)).length = i * 13) := hide (by rw [List.length_take, hlenc]; omega)
  have HN1 : Hid (∀ u ∈ (lncs B.ls).take (i * 13), u.oneCell' = true) := hide (fun u hu => lncs_one B.ls u (List.mem_of_mem_take hu))
  have HLB : Hid (∀ k, k = bb ∨ (Value.slice (some ⟨g, 0, none⟩) m cap).ownBlock = some k → k < w1.heap.size) := hide (fun k hk => by
    rcases hk with rfl | hk
    · exact ltB hA1.hb
    · exact (own_ltE hA1.ho hk).2)
  have HRW := hide hrow
  have HLC := hide hlenc
  clear hA1 hrow hlenc
  have HN2 : Hid (∀ u ∈ (lncs B.ls).drop ((i + 1) * 13), u.oneCell' = true) := hide (fun u hu => lncs_one B.ls u (List.mem_of_mem_drop hu))
  have HM2 : Hid (((lncs B.ls).drop ((i + 1) * 13)).length = (m - (i + 1)) * 13) := hide (by rw [List.length_drop, HLC.out]; omega)
  have HNW2 : Hid (∀ w4 : World, (∀ k, k < w1.heap.size → w4.heap[k]? = w1.heap[k]?) → ∀ j u, ((lncs B.ls).drop ((i + 1) * 13))[j]? = some u → w4.cell? ((⟨g, (i + 1) * 13, none⟩ : Addr).add j) = some u) := hide (fun w4 hk j u hj => by
    have hj' : j < (m - (i + 1)) * 13 := by
      have := (List.getElem?_eq_some_iff.1 hj).1
      rw [HM2.out] at this
      exact this
    have hj2 : (i + 1) * 13 + j < m * 13 := by omega
    rw [Addr.add_lit, World.cell?_of_block (w := w1) (hk g (HLB.out g (Or.inr rfl))), HRW.out _ hj2, ← hj, List.getElem?_drop])
  by_cases hce : cap = i + 1
  · have hmm : m = i + 1 := by omega
    have hd : (lncs B.ls).drop ((i + 1) * 13) = [] := List.drop_of_length_le (by rw [HLC.out, hmm]; exact Nat.le_refl _)
    have HD := hide hd
    subst hce
    subst hmm
    clear hd HN2 HM2 HNW2
    go_wp2_with (first | (at_builtin; refine wpList_append_own_at _ rfl _ _ 51 rfl w1.heap.size 139 i0 ZL 13 48 Tryz.underlying51 hi hz0 hz1 hz2 rfl (by decide) (.slice none 0 0) 0 [] rfl (World.ownsRow_nil _ _ _ _) ⟨g, 0, none⟩ i (i + 1) ((lncs B.ls).take (i * 13)) rfl HNL.out HNW.out HN1.out (by unfold maxLen; omega) (by omega) (Nat.le_refl _) ?_; intro v5 w4 hown4 hgr4 hnil4 hloc4; rw [Nat.zero_add, List.nil_append] at hown4; have hk4 : ∀ k, k < w1.heap.size → w4.heap[k]? = w1.heap[k]? := fun k hk => hgr4.block k hk (by simp [Value.ownBlock]); have hA4 := HA1.out.kept (fun k hk => hk4 k (HLB.out k hk)); have y4 := cellB hA4.hb; have HO4 := hide hown4; have HK4 := hide hk4; have HA4 := hide hA4; have HG4 := hide hgr4; obtain ⟨ya, yc, hyw⟩ := own_sliceE hown4; subst hyw; clear hown4 hgr4 hnil4 hk4 hA4 y1) | (at_builtin; refine wpList_append_own_at _ rfl _ _ 51 rfl w1.heap.size 139 i0 ZL 13 48 Tryz.underlying51 hi hz0 hz1 hz2 rfl (by decide) (.slice ya i yc) i ((lncs B.ls).take (i * 13)) rfl HO4.out ⟨g, 0, none⟩ 0 0 [] rfl rfl (fun j u hj => absurd hj (by simp)) (fun u hu => absurd hu (by simp)) (by unfold maxLen; omega) (by omega) HG4.out.size ?_; intro v6 w6 hown6 hgr6 hnil6 hloc6; obtain ⟨yb, yd, hyw⟩ := own_sliceE hown6; subst hyw; have hk6 : ∀ k, k < w1.heap.size → w6.heap[k]? = w1.heap[k]? := fun k hk => (hgr6.block k (Nat.lt_of_lt_of_le hk HG4.out.size) (fun e => absurd (own_ltE HO4.out e.symm).1 (Nat.not_le.2 hk))).trans (HK4.out k hk); have hb6 := (hk6 bb (ltB HA1.out.hb)).trans HA1.out.hb; have f1 := cellB hb6; have f2 := frozenB hb6; have hr6 := (hk6 _ (ltB HR1.out)).trans HR1.out; have f3 := cellB hr6; have f4 := frozenB hr6; have HK6 := hide hk6; have HO6 := hide hown6; have HG6 := hide hgr6; clear hk6 hown6 hgr6 hnil6 hb6 hr6 y4))
    have hend := del_end (w := w) (i := i) (R := w.heap.size + 1) HA1.out HK6.out (Nat.le_trans HG4.out.size HG6.out.size) ⟨HG6.out.os.trans HG4.out.os, HG6.out.tape.trans HG4.out.tape, HG6.out.output.trans HG4.out.output⟩ (by rw [HD.out]; exact HO6.out) (by rw [List.length_eraseIdx_of_lt (by rw [← HM.out]; exact hml), ← HM.out]; omega) (Nat.le_trans hgb (Nat.le_of_lt (HLB.out g (Or.inr rfl)))) HBE.out HR1.out hbR'
    exact bodyPost_ret (v := .agg #[.int .u8 1, .int .u64 0, .int .u64 0]) (by simp [results, Tryz.results57, go_sem, f3]) rfl (AskPost.mk' hend.1 HE.out (Nat.le_succ _) hbR (fun z hz => own_neE hend.1.ho hz hend.2.1 (by decide)) hend.2.2.1 hend.2.2.2)
  · have hce' : ¬ i + 1 = cap := fun e => hce e.symm
    go_wp2_with (first | (at_builtin; refine wpList_append_own_at _ rfl _ _ 51 rfl w1.heap.size 139 i0 ZL 13 48 Tryz.underlying51 hi hz0 hz1 hz2 rfl (by decide) (.slice none 0 0) 0 [] rfl (World.ownsRow_nil _ _ _ _) ⟨g, 0, none⟩ i cap ((lncs B.ls).take (i * 13)) rfl HNL.out HNW.out HN1.out (by unfold maxLen; omega) (by omega) (Nat.le_refl _) ?_; intro v5 w4 hown4 hgr4 hnil4 hloc4; rw [Nat.zero_add, List.nil_append] at hown4; have hk4 : ∀ k, k < w1.heap.size → w4.heap[k]? = w1.heap[k]? := fun k hk => hgr4.block k hk (by simp [Value.ownBlock]); have hA4 := HA1.out.kept (fun k hk => hk4 k (HLB.out k hk)); have y4 := cellB hA4.hb; have HO4 := hide hown4; have HK4 := hide hk4; have HA4 := hide hA4; have HG4 := hide hgr4; obtain ⟨ya, yc, hyw⟩ := own_sliceE hown4; subst hyw; clear hown4 hgr4 hnil4 hk4 hA4 y1) | (at_builtin; refine wpList_append_own_at _ rfl _ _ 51 rfl w1.heap.size 139 i0 ZL 13 48 Tryz.underlying51 hi hz0 hz1 hz2 rfl (by decide) (.slice ya i yc) i ((lncs B.ls).take (i * 13)) rfl HO4.out ⟨g, (i + 1) * 13, none⟩ (m - (i + 1)) (cap - (i + 1)) ((lncs B.ls).drop ((i + 1) * 13)) rfl HM2.out (HNW2.out w4 HK4.out) HN2.out (by unfold maxLen; omega) (by omega) HG4.out.size ?_; intro v6 w6 hown6 hgr6 hnil6 hloc6; obtain ⟨yb, yd, hyw⟩ := own_sliceE hown6; subst hyw; have hk6 : ∀ k, k < w1.heap.size → w6.heap[k]? = w1.heap[k]? := fun k hk => (hgr6.block k (Nat.lt_of_lt_of_le hk HG4.out.size) (fun e => absurd (own_ltE HO4.out e.symm).1 (Nat.not_le.2 hk))).trans (HK4.out k hk); have hb6 := (hk6 bb (ltB HA1.out.hb)).trans HA1.out.hb; have f1 := cellB hb6; have f2 := frozenB hb6; have hr6 := (hk6 _ (ltB HR1.out)).trans HR1.out; have f3 := cellB hr6; have f4 := frozenB hr6; have HK6 := hide hk6; have HO6 := hide hown6; have HG6 := hide hgr6; clear hk6 hown6 hgr6 hnil6 hb6 hr6 y4))
    have hend := del_end (w := w) (i := i) (R := w.heap.size + 1) HA1.out HK6.out (Nat.le_trans HG4.out.size HG6.out.size) ⟨HG6.out.os.trans HG4.out.os, HG6.out.tape.trans HG4.out.tape, HG6.out.output.trans HG4.out.output⟩ HO6.out (by rw [List.length_eraseIdx_of_lt (by rw [← HM.out]; exact hml), ← HM.out]; omega) (Nat.le_trans hgb (Nat.le_of_lt (HLB.out g (Or.inr rfl)))) HBE.out HR1.out hbR'
    exact bodyPost_ret (v := .agg #[.int .u8 1, .int .u64 0, .int .u64 0]) (by simp [results, Tryz.results57, go_sem, f3]) rfl (AskPost.mk' hend.1 HE.out (Nat.le_succ _) hbR (fun z hz => own_neE hend.1.ho hz hend.2.1 (by decide)) hend.2.2.1 hend.2.2.2)
end Go.Proofs.YtlamgpeiolfffaaGreatDoor
