import Derived.Test.YtnlgndpcddngoaaGreatDoorZb09
import Derived.Maps.AppendAt
import Derived.Deep.RegionLaw
import Derived.Test.YtnlgndpcddngoaaGreatDoorZb08
import Derived.Test.YtnlgndpcddngoaaGreatDoorZa21
import Derived.Lib.AppendStr
import Derived.Test.YtnlgndpcddngoaaGreatDoorZb00
import Derived.Test.YtnlgndpcddngoaaGreatDoorPuD
namespace Go.Proofs.YtnlgndpcddngoaaGreatDoor
open Go.RowKit

theorem lncs_one (ls : List Ln) : ∀ u ∈ lncs ls, u.oneCell' = true := fun u hu => by
  obtain ⟨l, _, h⟩ := List.mem_flatMap.1 hu
  simp only [lnc, List.mem_cons, List.not_mem_nil, or_false] at h
  rcases h with rfl | rfl | rfl | rfl | rfl | rfl | rfl | rfl | rfl | rfl | rfl | rfl | rfl <;> rfl

theorem lncs_erase : ∀ (ls : List Ln) (i : Nat), lncs (ls.eraseIdx i) = (lncs ls).take (i * 13) ++ (lncs ls).drop ((i + 1) * 13)
  | [], i => by simp [lncs]
  | l :: r, 0 => by
    have h13 : (lnc l).length = 13 := rfl
    simp only [List.eraseIdx_cons_zero, Nat.zero_mul, List.take_zero, List.nil_append, Nat.zero_add, Nat.one_mul]
    unfold lncs
    rw [List.flatMap_cons, List.drop_append_of_le_length (by omega), List.drop_of_length_le (by omega), List.nil_append]
  | l :: r, i + 1 => by
    have h13 : (lnc l).length = 13 := rfl
    have ih := lncs_erase r i
    simp only [List.eraseIdx_cons_succ]
    unfold lncs at ih ⊢
    rw [List.flatMap_cons, List.flatMap_cons, ih, List.take_append, List.drop_append, h13]
    rw [show List.take ((i + 1) * 13) (lnc l) = lnc l from List.take_of_length_le (by omega), show List.drop ((i + 1 + 1) * 13) (lnc l) = [] from List.drop_of_length_le (by omega), List.nil_append, List.append_assoc]
    congr 3
    · omega
    · omega
theorem own_base {w : World} {b b' e sz : Nat} {v : Value} {n : Nat} {xs : List Value} (h : w.ownsRow b e sz v n xs) (hb : b' ≤ b) : w.ownsRow b' e sz v n xs := by
  obtain ⟨h1, h2⟩ := h
  refine ⟨h1, ?_⟩
  rcases h2 with h2 | ⟨g, cap, cur, hv, hg, r⟩
  · exact Or.inl h2
  · exact Or.inr ⟨g, cap, cur, hv, Nat.le_trans hb hg, r⟩
/-- One line less. -/
theorem del_end {w w1 w6 : World} {bb base i : Nat} {lv v6 : Value} {B : Bk} {R n6 : Nat} {o : Obj} (hA : BookAt w1 bb base lv B) (hK : ∀ k, k < w1.heap.size → w6.heap[k]? = w1.heap[k]?) (hs : w1.heap.size ≤ w6.heap.size) (ho : w6.os = w1.os ∧ w6.tape = w1.tape ∧ w6.output = w1.output)
    (ho6 : w6.ownsRow w1.heap.size 151 13 v6 n6 ((lncs B.ls).take (i * 13) ++ (lncs B.ls).drop ((i + 1) * 13))) (hn6 : n6 = (B.ls.eraseIdx i).length) (hbase : base ≤ w1.heap.size) (hBE : Below w.heap.size w w1) (hR : w1.heap[R]? = some o) (hRb : R ≠ bb) :
    BookAt (w6.setCell ⟨bb, 0, none⟩ v6) bb base v6 ⟨B.time, B.ls.eraseIdx i⟩ ∧ (w6.setCell ⟨bb, 0, none⟩ v6).heap[R]? = some o ∧ Keep (fun b => b = bb ∨ lv.ownBlock = some b) w (w6.setCell ⟨bb, 0, none⟩ v6) ∧ (∀ g, v6.ownBlock = some g → lv.ownBlock = some g ∨ w.heap.size ≤ g) := by
  have hb6 := (hK bb (ltB hA.hb)).trans hA.hb
  have hsw := hBE.size
  refine ⟨⟨by simpa using heapSet hb6 0 v6, ?_⟩, ?_, ⟨ho.1.trans hBE.os, ho.2.1.trans hBE.tape, ho.2.2.trans hBE.output, by rw [World.size_setCell]; omega, fun k hk hn => ?_⟩, fun g hg => Or.inr (Nat.le_trans hsw (own_ltE ho6 hg).1)⟩
  · rw [lncs_erase, ← hn6]
    exact own_keptE (own_base ho6 hbase) (fun g hg => heapSetO (own_neE ho6 hg hb6 (by decide)) _ _)
  · rw [heapSetO hRb]
    exact (hK R (ltB hR)).trans hR
  · rw [heapSetO (fun e => hn (Or.inl e))]
    exact (hK k (by omega)).trans (hBE.block k hk)

set_option maxRecDepth 100000 in
set_option maxHeartbeats 2000000 in
/-- Ask: Admit. -/
theorem ask57_2 (bb base : Nat) (lv : Value) (B : Bk) (q : Rq) (w : World) (h : BookAt w bb base lv B) (hB : B.ok) (hq : q.ok) (ho : q.op = 2) (i : Nat) (hi : idx q.key B.ls = some i) :
    Calls Tryz.prog 61 #[.pointer (some ⟨bb, 0, none⟩), rqv q] w (AskPost bb base lv B q w) := by
  obtain ⟨W, hW⟩ : ∃ W, W = (w.alloc (.cells #[.int .u8 q.op, .int .u8 q.k0, .int .u8 q.k1, .int .u8 q.k2, .int .u8 q.k3, .int .u8 q.k4, .int .u8 q.k5, .int .u8 q.k6, .int .u8 q.k7, .int .u8 q.kd, .int .u64 q.x, .int .u64 q.y, .int .u64 q.n] 65)).alloc (.cells #[.int .u8 0, .int .u64 0, .int .u64 0] 40) := ⟨_, rfl⟩
  have hq0 : W.heap[w.heap.size]? = some (.cells #[.int .u8 q.op, .int .u8 q.k0, .int .u8 q.k1, .int .u8 q.k2, .int .u8 q.k3, .int .u8 q.k4, .int .u8 q.k5, .int .u8 q.k6, .int .u8 q.k7, .int .u8 q.kd, .int .u64 q.x, .int .u64 q.y, .int .u64 q.n] 65) := hW ▸ upB (heapNew _ _) _
  have hr0 : W.heap[w.heap.size + 1]? = some (.cells #[.int .u8 0, .int .u64 0, .int .u64 0] 40) := hW ▸ heapN (by simp)
  have hBW : Below w.heap.size w W := hW ▸ ((Below.refl _ w).alloc (Nat.le_refl _) _).alloc (by simp) _
  have hAW := h.below hBW (Nat.le_refl _)
  have hbl := ltB h.hb
  have hgl : ∀ g, lv.ownBlock = some g → g < w.heap.size := fun g hg => (own_ltE h.ho hg).2
  have h84 := find84 bb base lv B q.key W hAW hB.len
  have hl12 := hB.len
  have hTm := hB.time
  obtain ⟨l, hl⟩ : ∃ l, B.ls[i]? = some l := ⟨_, List.getElem?_eq_getElem (idx_lt hi)⟩
  have hgd : B.ls.getD i ⟨q.key, 0, 0, 0, 0, 0⟩ = l := by simp [List.getD, hl]
  have em : askM B q = admitM B i l q.n := by unfold askM; rw [if_neg (by omega), if_neg (by omega), if_neg (by omega), hi]; dsimp only; rw [if_neg (by omega), if_neg (by omega), hgd]
  have hii : idxI q.key B.ls = (i : Int) := by unfold idxI; rw [hi]
  rw [hii] at h84
  have hi0 : (0 : Int) ≤ (i : Int) := by omega
  have hin : ¬ (i : Int) < 0 := by omega
  have hlo := hB.ln l (List.mem_of_getElem? hl)
  have HE := hide em
  have HL := hide hl
  have HLO := hide hlo
  have hqn := hq.n
  clear em hi hii hgd hl hlo
  have H84 := hide h84
  have HAW := hide hAW
  have HQ0 := hide hq0
  have HR0 := hide hr0
  have HBW := hide hBW
  have HGL := hide hgl
  have HB := hide hB
  have HH := hide h
  clear h84 hAW hq0 hr0 hBW hgl hB h
  have HO := hide ho
  clear ho
  go_enter Tryz.func61, Tryz.ntmps61
  go_wp2_with fail
  have h84 := H84.out
  rw [hW] at h84
  refine h84.mono ?_
  rw [← hW]
  rintro e w1 ⟨rfl, hb1⟩
  have hA1 := HAW.out.below hb1 (Nat.le_refl _)
  have hq1 := (hb1.block _ (ltB HQ0.out)).trans HQ0.out
  have hr1 := (hb1.block _ (ltB HR0.out)).trans HR0.out
  have x0 := cellB hq1
  have x1 := cellB hr1
  have x2 := frozenB hr1
  have y1 := cellB hA1.hb
  have HA1 := hide hA1
  have HR1 := hide hr1
  have HQ1 := hide hq1
  have HBE := hide (HBW.out.trans (hb1.mono HBW.out.size))
  have hbR : bb ≠ w.heap.size + 1 := by omega
  have hbR' : w.heap.size + 1 ≠ bb := by omega
  clear h84 hW hA1 hq1 hr1 hb1
  have ho := HO.out
  go_wp2_with fail
  refine (admit86 bb base lv B i l q.n _ HA1.out HL.out hl12 HLO.out hqn hTm (hide (fun bb lv T l n w a b c d e => spaced111 bb lv T l n w a b c d e))).mono ?_
  rintro e w2 ⟨rfl, hA2, hK2⟩
  obtain ⟨B', ⟨c, a, b⟩, hab⟩ : ∃ B' r, admitM B i l q.n = (B', r) := ⟨_, _, rfl⟩
  rw [hab] at hA2 ⊢
  have HE2 := HE.out
  rw [hab] at HE2
  have HE3 := hide HE2
  have hlr : w.heap.size + 1 < w1.heap.size := ltB HR1.out
  have hr2 := (hK2.block _ hlr (fun e => by have := HGL.out _ e; omega)).trans HR1.out
  have z1 := cellB hr2
  have z2 := frozenB hr2
  have HA2 := hide hA2
  have HKK : Hid (Keep (fun b => b = bb ∨ lv.ownBlock = some b) w w2) := hide ((Keep.of_below HBE.out).then hK2 (fun i _ h => Or.inr h))
  clear x0 x1 x2 y1 HE2 hab hr2 hA2 hK2
  go_wp2_with fail
  exact bodyPost_ret (v := .agg #[.int .u8 c, .int .u64 a, .int .u64 b]) (by simp [results, Tryz.results61, go_sem, z1]) rfl (AskPost.mk' HA2.out HE3.out (Nat.le_succ _) hbR (fun g hg => by have := HGL.out g hg; omega) HKK.out (fun g hg => Or.inl hg))
set_option maxRecDepth 100000 in
set_option maxHeartbeats 2000000 in
/-- Ask: Delete. -/
theorem ask57_4 (bb base : Nat) (lv : Value) (B : Bk) (q : Rq) (w : World) (h : BookAt w bb base lv B) (hB : B.ok) (_hq : q.ok) (ho : q.op = 4) (i : Nat) (hi : idx q.key B.ls = some i) :
    Calls Tryz.prog 61 #[.pointer (some ⟨bb, 0, none⟩), rqv q] w (AskPost bb base lv B q w) := by
  obtain ⟨W, hW⟩ : ∃ W, W = (w.alloc (.cells #[.int .u8 q.op, .int .u8 q.k0, .int .u8 q.k1, .int .u8 q.k2, .int .u8 q.k3, .int .u8 q.k4, .int .u8 q.k5, .int .u8 q.k6, .int .u8 q.k7, .int .u8 q.kd, .int .u64 q.x, .int .u64 q.y, .int .u64 q.n] 65)).alloc (.cells #[.int .u8 0, .int .u64 0, .int .u64 0] 40) := ⟨_, rfl⟩
  have hq0 : W.heap[w.heap.size]? = some (.cells #[.int .u8 q.op, .int .u8 q.k0, .int .u8 q.k1, .int .u8 q.k2, .int .u8 q.k3, .int .u8 q.k4, .int .u8 q.k5, .int .u8 q.k6, .int .u8 q.k7, .int .u8 q.kd, .int .u64 q.x, .int .u64 q.y, .int .u64 q.n] 65) := hW ▸ upB (heapNew _ _) _
  have hr0 : W.heap[w.heap.size + 1]? = some (.cells #[.int .u8 0, .int .u64 0, .int .u64 0] 40) := hW ▸ heapN (by simp)
  have hBW : Below w.heap.size w W := hW ▸ ((Below.refl _ w).alloc (Nat.le_refl _) _).alloc (by simp) _
  have hAW := h.below hBW (Nat.le_refl _)
  have hbl := ltB h.hb
  have hgl : ∀ g, lv.ownBlock = some g → g < w.heap.size := fun g hg => (own_ltE h.ho hg).2
  have h84 := find84 bb base lv B q.key W hAW hB.len
  have hl12 := hB.len
  have hTm := hB.time
  have hlt := idx_lt hi
  have em : askM B q = (⟨B.time, B.ls.eraseIdx i⟩, ⟨1, 0, 0⟩) := by unfold askM; rw [if_neg (by omega), if_neg (by omega), if_neg (by omega), hi]; dsimp only; rw [if_neg (by omega), if_pos ho]
  have hii : idxI q.key B.ls = (i : Int) := by unfold idxI; rw [hi]
  rw [hii] at h84
  have hi0 : (0 : Int) ≤ (i : Int) := by omega
  have hin : ¬ (i : Int) < 0 := by omega
  obtain ⟨g, cap, hv, hgb, hgl2⟩ := h.ho.form (by omega)
  obtain ⟨m, hm⟩ : ∃ m, m = B.ls.length := ⟨_, rfl⟩
  rw [← hm] at hv
  subst hv
  have hml : i < m := by omega
  have hm12 : m ≤ 12 := by omega
  have hmi : (i : Int) < (m : Int) := by omega
  have hmc : m ≤ cap := by
    rcases h.ho.2 with ⟨h1, _⟩ | ⟨g', cap', cur, hv, _, _, hnc, _⟩
    · simp at h1
    · injection hv with _ _ e3
      omega
  have hcm : cap ≤ maxLen := by
    rcases h.ho.2 with ⟨h1, _⟩ | ⟨g', cap', cur, hv, _, _, hnc, hcm, _⟩
    · simp at h1
    · injection hv with _ _ e3
      omega
  have HE := hide em
  have HM := hide hm
  clear em hi hii hlt hm
  have H84 := hide h84
  have HAW := hide hAW
  have HQ0 := hide hq0
  have HR0 := hide hr0
  have HBW := hide hBW
  have HGL := hide hgl
  have HB := hide hB
  have HH := hide h
  clear h84 hAW hq0 hr0 hBW hgl hB h
  have HO := hide ho
  clear ho
  go_enter Tryz.func61, Tryz.ntmps61
  go_wp2_with fail
  have h84 := H84.out
  rw [hW] at h84
  refine h84.mono ?_
  rw [← hW]
  rintro e w1 ⟨rfl, hb1⟩
  have hA1 := HAW.out.below hb1 (Nat.le_refl _)
  have hq1 := (hb1.block _ (ltB HQ0.out)).trans HQ0.out
  have hr1 := (hb1.block _ (ltB HR0.out)).trans HR0.out
  have x0 := cellB hq1
  have x1 := cellB hr1
  have x2 := frozenB hr1
  have y1 := cellB hA1.hb
  have HA1 := hide hA1
  have HR1 := hide hr1
  have HQ1 := hide hq1
  have HBE := hide (HBW.out.trans (hb1.mono HBW.out.size))
  have hbR : bb ≠ w.heap.size + 1 := by omega
  have hbR' : w.heap.size + 1 ≠ bb := by omega
  clear h84 hW hA1 hq1 hr1 hb1
  have ho := HO.out
  obtain ⟨i0, hi, hz0, hz1, hz2⟩ := info_parts Tryz.info139
  have hA1 := HA1.out
  have hrow : ∀ j, j < m * 13 → w1.cell? ⟨g, j, none⟩ = (lncs B.ls)[j]? := fun j hj => by
    have ho := hA1.ho
    rw [← HM.out] at ho
    exact ho.cellAt j hj
  have hlenc : (lncs B.ls).length = m * 13 := by rw [lncs_len, ← HM.out]
  have HNW : Hid (∀ j u, ((lncs B.ls).take (i * 13))[j]? = some u → w1.cell? ((⟨g, 0, none⟩ : Addr).add j) = some u) := hide (fun j u hj => by
    have hj' : j < i * 13 := by
      have := (List.getElem?_eq_some_iff.1 hj).1
      rw [List.length_take] at this
      omega
    rw [Addr.add_lit, Nat.zero_add, hrow j (by omega), ← hj, List.getElem?_take, if_pos hj'])
  have HNL : Hid (((lncs B.ls).take (i * 13)).length = i * 13) := hide (by rw [List.length_take, hlenc]; omega)
  have HN1 : Hid (∀ u ∈ (lncs B.ls).take (i * 13), u.oneCell' = true) := hide (fun u hu => lncs_one B.ls u (List.mem_of_mem_take hu))
  have HLB : Hid (∀ k, k = bb ∨ (Value.slice (some ⟨g, 0, none⟩) m cap).ownBlock = some k → k < w1.heap.size) := hide (fun k hk => by
    rcases hk with rfl | hk
    · exact ltB hA1.hb
    · exact (own_ltE hA1.ho hk).2)
  have HRW := hide hrow
  have HLC := hide hlenc
  clear hA1 hrow hlenc
  have HN2 : Hid (∀ u ∈ (lncs B.ls).drop ((i + 1) * 13), u.oneCell' = true) := hide (fun u hu => lncs_one B.ls u (List.mem_of_mem_drop hu))
  have HM2 : Hid (((lncs B.ls).drop ((i + 1) * 13)).length = (m - (i + 1)) * 13) := hide (by rw [List.length_drop, HLC.out]; omega)
  have HNW2 : Hid (∀ w4 : World, (∀ k, k < w1.heap.size → w4.heap[k]? = w1.heap[k]?) → ∀ j u, ((lncs B.ls).drop ((i + 1) * 13))[j]? = some u → w4.cell? ((⟨g, (i + 1) * 13, none⟩ : Addr).add j) = some u) := hide (fun w4 hk j u hj => by
    have hj' : j < (m - (i + 1)) * 13 := by
      have := (List.getElem?_eq_some_iff.1 hj).1
      rw [HM2.out] at this
      exact this
    have hj2 : (i + 1) * 13 + j < m * 13 := by omega
    rw [Addr.add_lit, World.cell?_of_block (w := w1) (hk g (HLB.out g (Or.inr rfl))), HRW.out _ hj2, ← hj, List.getElem?_drop])
  by_cases hce : cap = i + 1
  · have hmm : m = i + 1 := by omega
    have hd : (lncs B.ls).drop ((i + 1) * 13) = [] := List.drop_of_length_le (by rw [HLC.out, hmm]; exact Nat.le_refl _)
    have HD := hide hd
    subst hce
    subst hmm
    clear hd HN2 HM2 HNW2
    go_wp2_with (first | (at_builtin; refine wpList_append_own_at _ rfl _ _ 58 rfl w1.heap.size 151 i0 ZL 13 48 Tryz.underlying58 hi hz0 hz1 hz2 rfl (by decide) (.slice none 0 0) 0 [] rfl (World.ownsRow_nil _ _ _ _) ⟨g, 0, none⟩ i (i + 1) ((lncs B.ls).take (i * 13)) rfl HNL.out HNW.out HN1.out (by unfold maxLen; omega) (by omega) (Nat.le_refl _) ?_; intro v5 w4 hown4 hgr4 hnil4 hloc4; rw [Nat.zero_add, List.nil_append] at hown4; have hk4 : ∀ k, k < w1.heap.size → w4.heap[k]? = w1.heap[k]? := fun k hk => hgr4.block k hk (by simp [Value.ownBlock]); have hA4 := HA1.out.kept (fun k hk => hk4 k (HLB.out k hk)); have y4 := cellB hA4.hb; have HO4 := hide hown4; have HK4 := hide hk4; have HA4 := hide hA4; have HG4 := hide hgr4; obtain ⟨ya, yc, hyw⟩ := own_sliceE hown4; subst hyw; clear hown4 hgr4 hnil4 hk4 hA4 y1) | (at_builtin; refine wpList_append_own_at _ rfl _ _ 58 rfl w1.heap.size 151 i0 ZL 13 48 Tryz.underlying58 hi hz0 hz1 hz2 rfl (by decide) (.slice ya i yc) i ((lncs B.ls).take (i * 13)) rfl HO4.out ⟨g, 0, none⟩ 0 0 [] rfl rfl (fun j u hj => absurd hj (by simp)) (fun u hu => absurd hu (by simp)) (by unfold maxLen; omega) (by omega) HG4.out.size ?_; intro v6 w6 hown6 hgr6 hnil6 hloc6; obtain ⟨yb, yd, hyw⟩ := own_sliceE hown6; subst hyw; have hk6 : ∀ k, k < w1.heap.size → w6.heap[k]? = w1.heap[k]? := fun k hk => (hgr6.block k (Nat.lt_of_lt_of_le hk HG4.out.size) (fun e => absurd (own_ltE HO4.out e.symm).1 (Nat.not_le.2 hk))).trans (HK4.out k hk); have hb6 := (hk6 bb (ltB HA1.out.hb)).trans HA1.out.hb; have f1 := cellB hb6; have f2 := frozenB hb6; have hr6 := (hk6 _ (ltB HR1.out)).trans HR1.out; have f3 := cellB hr6; have f4 := frozenB hr6; have HK6 := hide hk6; have HO6 := hide hown6; have HG6 := hide hgr6; clear hk6 hown6 hgr6 hnil6 hb6 hr6 y4))
    have hend := del_end (w := w) (i := i) (R := w.heap.size + 1) HA1.out HK6.out (Nat.le_trans HG4.out.size HG6.out.size) ⟨HG6.out.os.trans HG4.out.os, HG6.out.tape.trans HG4.out.tape, HG6.out.output.trans HG4.out.output⟩ (by rw [HD.out]; exact HO6.out) (by rw [List.length_eraseIdx_of_lt (by rw [← HM.out]; exact hml), ← HM.out]; omega) (Nat.le_trans hgb (Nat.le_of_lt (HLB.out g (Or.inr rfl)))) HBE.out HR1.out hbR'
    exact bodyPost_ret (v := .agg #[.int .u8 1, .int .u64 0, .int .u64 0]) (by simp [results, Tryz.results61, go_sem, f3]) rfl (AskPost.mk' hend.1 HE.out (Nat.le_succ _) hbR (fun z hz => own_neE hend.1.ho hz hend.2.1 (by decide)) hend.2.2.1 hend.2.2.2)
  · have hce' : ¬ i + 1 = cap := fun e => hce e.symm
    go_wp2_with (first | (at_builtin; refine wpList_append_own_at _ rfl _ _ 58 rfl w1.heap.size 151 i0 ZL 13 48 Tryz.underlying58 hi hz0 hz1 hz2 rfl (by decide) (.slice none 0 0) 0 [] rfl (World.ownsRow_nil _ _ _ _) ⟨g, 0, none⟩ i cap ((lncs B.ls).take (i * 13)) rfl HNL.out HNW.out HN1.out (by unfold maxLen; omega) (by omega) (Nat.le_refl _) ?_; intro v5 w4 hown4 hgr4 hnil4 hloc4; rw [Nat.zero_add, List.nil_append] at hown4; have hk4 : ∀ k, k < w1.heap.size → w4.heap[k]? = w1.heap[k]? := fun k hk => hgr4.block k hk (by simp [Value.ownBlock]); have hA4 := HA1.out.kept (fun k hk => hk4 k (HLB.out k hk)); have y4 := cellB hA4.hb; have HO4 := hide hown4; have HK4 := hide hk4; have HA4 := hide hA4; have HG4 := hide hgr4; obtain ⟨ya, yc, hyw⟩ := own_sliceE hown4; subst hyw; clear hown4 hgr4 hnil4 hk4 hA4 y1) | (at_builtin; refine wpList_append_own_at _ rfl _ _ 58 rfl w1.heap.size 151 i0 ZL 13 48 Tryz.underlying58 hi hz0 hz1 hz2 rfl (by decide) (.slice ya i yc) i ((lncs B.ls).take (i * 13)) rfl HO4.out ⟨g, (i + 1) * 13, none⟩ (m - (i + 1)) (cap - (i + 1)) ((lncs B.ls).drop ((i + 1) * 13)) rfl HM2.out (HNW2.out w4 HK4.out) HN2.out (by unfold maxLen; omega) (by omega) HG4.out.size ?_; intro v6 w6 hown6 hgr6 hnil6 hloc6; obtain ⟨yb, yd, hyw⟩ := own_sliceE hown6; subst hyw; have hk6 : ∀ k, k < w1.heap.size → w6.heap[k]? = w1.heap[k]? := fun k hk => (hgr6.block k (Nat.lt_of_lt_of_le hk HG4.out.size) (fun e => absurd (own_ltE HO4.out e.symm).1 (Nat.not_le.2 hk))).trans (HK4.out k hk); have hb6 := (hk6 bb (ltB HA1.out.hb)).trans HA1.out.hb; have f1 := cellB hb6; have f2 := frozenB hb6; have hr6 := (hk6 _ (ltB HR1.out)).trans HR1.out; have f3 := cellB hr6; have f4 := frozenB hr6; have HK6 := hide hk6; have HO6 := hide hown6; have HG6 := hide hgr6; clear hk6 hown6 hgr6 hnil6 hb6 hr6 y4))
    have hend := del_end (w := w) (i := i) (R := w.heap.size + 1) HA1.out HK6.out (Nat.le_trans HG4.out.size HG6.out.size) ⟨HG6.out.os.trans HG4.out.os, HG6.out.tape.trans HG4.out.tape, HG6.out.output.trans HG4.out.output⟩ HO6.out (by rw [List.length_eraseIdx_of_lt (by rw [← HM.out]; exact hml), ← HM.out]; omega) (Nat.le_trans hgb (Nat.le_of_lt (HLB.out g (Or.inr rfl)))) HBE.out HR1.out hbR'
    exact bodyPost_ret (v := .agg #[.int .u8 1, .int .u64 0, .int .u64 0]) (by simp [results, Tryz.results61, go_sem, f3]) rfl (AskPost.mk' hend.1 HE.out (Nat.le_succ _) hbR (fun z hz => own_neE hend.1.ho hz hend.2.1 (by decide)) hend.2.2.1 hend.2.2.2)
end Go.Proofs.YtnlgndpcddngoaaGreatDoor

namespace Go.Proofs.YtnlgndpcddngoaaGreatDoor
open Go.RowKit

/-- The whole frames of bytes: the requests, what is left, what is wrong with it. -/
def rqM : Nat → List Int → List Rq × List Int × Int
  | 0, bs => ([], bs, rdErr bs)
  | n + 1, bs => if rdErr bs = 0 then (rdQ bs :: (rqM n (bs.drop (rdN bs).toNat)).1, (rqM n (bs.drop (rdN bs).toNat)).2) else ([], bs, rdErr bs)
theorem rqM_fuel : ∀ (n : Nat) (bs : List Int), bs.length ≤ n → rqM n bs = rqM bs.length bs := by
  intro n
  induction n using Nat.strongRecOn with
  | ind n ih =>
    intro bs h
    cases n with
    | zero => rw [show bs.length = 0 by omega]
    | succ n =>
      cases hb : bs.length with
      | zero =>
        have e : bs = [] := List.length_eq_zero_iff.1 hb
        subst e
        simp [rqM, rdErr]
      | succ m =>
        unfold rqM
        by_cases h0 : rdErr bs = 0
        · rw [if_pos h0, if_pos h0]
          obtain ⟨r1, r2, _, _⟩ := rdN_ok bs h0
          have hl : (bs.drop (rdN bs).toNat).length ≤ m := by rw [List.length_drop]; omega
          rw [ih n (by omega) _ (by omega), ih m (by omega) _ hl]
        · rw [if_neg h0, if_neg h0]
def rqL (bs : List Int) : List Rq × List Int × Int := rqM bs.length bs
theorem rqL_stop (bs : List Int) (h : rdErr bs ≠ 0) : rqL bs = ([], bs, rdErr bs) := by
  unfold rqL
  cases hb : bs.length with
  | zero => rfl
  | succ n => unfold rqM; rw [if_neg h]
theorem rqL_step (bs : List Int) (h : rdErr bs = 0) : rqL bs = (rdQ bs :: (rqL (bs.drop (rdN bs).toNat)).1, (rqL (bs.drop (rdN bs).toNat)).2) := by
  obtain ⟨r1, r2, _, _⟩ := rdN_ok bs h
  have e : rqL bs = rqM bs.length bs := rfl
  rw [e]
  cases hb : bs.length with
  | zero => omega
  | succ n =>
    have hl : (bs.drop (rdN bs).toNat).length ≤ n := by rw [List.length_drop]; omega
    conv => lhs; unfold rqM
    rw [if_pos h, rqM_fuel n _ hl]
    rfl
/-- Requests done one behind the other. -/
def doL : Ld → List Rq → Ld × List Rp
  | L, [] => (L, [])
  | L, q :: t => ((doL (doM L q).1 t).1, (doM L q).2 :: (doL (doM L q).1 t).2)
theorem runL_rqL : ∀ (n : Nat) (bs : List Int) (L : Ld), bs.length ≤ n → runL L bs = ((doL L (rqL bs).1).1, (doL L (rqL bs).1).2, (rqL bs).2) := by
  intro n
  induction n with
  | zero =>
    intro bs L h
    have e : bs = [] := List.length_eq_zero_iff.1 (by omega)
    subst e
    rw [runL_stop L [] (by simp [rdErr]), rqL_stop [] (by simp [rdErr])]
    rfl
  | succ n ih =>
    intro bs L h
    by_cases h0 : rdErr bs = 0
    · obtain ⟨r1, r2, _, _⟩ := rdN_ok bs h0
      rw [runL_step L bs h0, rqL_step bs h0, ih _ _ (by rw [List.length_drop]; omega)]
      rfl
    · rw [runL_stop L bs h0, rqL_stop bs h0]
      rfl

abbrev rqw (q : Rq) : List Value := [.int .u8 q.op, .int .u8 q.k0, .int .u8 q.k1, .int .u8 q.k2, .int .u8 q.k3, .int .u8 q.k4, .int .u8 q.k5, .int .u8 q.k6, .int .u8 q.k7, .int .u8 q.kd, .int .u64 q.x, .int .u64 q.y, .int .u64 q.n]
def rqws (l : List Rq) : List Value := l.flatMap rqw
theorem rqws_snoc (l : List Rq) (q : Rq) : rqws (l ++ [q]) = rqws l ++ rqw q := by simp [rqws]

theorem strNums (s : ByteArray) : Go.Lib.strCells s = (numsOf s).map (Value.int .u8) := by
  simp [Go.Lib.strCells, numsOf]
abbrev ZR : Value := .agg #[.int .u8 0, .int .u8 0, .int .u8 0, .int .u8 0, .int .u8 0, .int .u8 0, .int .u8 0, .int .u8 0, .int .u8 0, .int .u8 0, .int .u64 0, .int .u64 0, .int .u64 0]
theorem Tryz.info58 : (Tryz.prog.info? 65).map (fun i => (i.zero, i.size, i.bytes)) = some (some ZR, 13, 48) := by kernel_rfl
/-- What holds while requests are read, one by one. -/
structure SfI (w wl : World) (tb : Nat) (bs0 bs : List Int) (qs : List Rq) (v6 v7 : Value) (rv : Value) (wr : World) : Prop where
  run : rqL bs0 = (qs ++ (rqL bs).1, (rqL bs).2)
  sl : Sl wr v6 bs
  le : 2 * qs.length + bs.length ≤ bs0.length
  by_ : Bytes bs
  own : wr.ownsRow wl.heap.size 65 13 v7 qs.length (rqws qs)
  F : ∀ g o n c, v6 = .slice (some ⟨g, o, none⟩) n c → w.heap.size ≤ g ∧ g < wl.heap.size
  st : wr.heap[tb]? = some (.cells #[rv, .bool false] 103)
  keep : Keep (fun _ => False) wl wr

set_option maxRecDepth 100000 in
set_option maxHeartbeats 8000000 in
theorem sfeed51 (tb : Nat) (rv : Value) (rest : List Int) (s : ByteArray) (w : World) (hb : w.heap[tb]? = some (.cells #[rv, .bool false] 103)) (hs : Sl w rv rest) (hby : Bytes rest) (hlen : rest.length + s.size ≤ 100000)
    (bs0 : List Int) (hbs : bs0 = rest ++ numsOf s) (l : List Rq) (hl : l = (rqL bs0).1) (bd : Bool) (hbd : bd = decide ((rqL bs0).2.2 = 2)) (lf : List Int) (hlf : lf = if (rqL bs0).2.2 = 2 then [] else (rqL bs0).2.1) :
    Calls Tryz.prog 55 #[.pointer (some ⟨tb, 0, none⟩), .string s] w fun e w' => ∃ ov rv', e = .returned (.tuple #[ov, .bool bd]) ∧ w'.ownsRow w.heap.size 65 13 ov l.length (rqws l) ∧ Keep (fun b => b = tb) w w' ∧
      w'.heap[tb]? = some (.cells #[rv', .bool bd] 103) ∧ Sl w' rv' lf ∧ (∀ g o n c, rv' = .slice (some ⟨g, o, none⟩) n c → w.heap.size ≤ g) := by
  have HL := hide hl
  have HBD := hide hbd
  have HLF := hide hlf
  clear hl hbd hlf
  obtain ⟨i0, hi, hz0, hz1, hz2⟩ := info_parts Tryz.info5
  obtain ⟨i1, hj, hy0, hy1, hy2⟩ := info_parts Tryz.info58
  have c1 := cellB hb
  have f1 := frozenB hb
  have lb := ltB hb
  have HS := hide hs
  have HBS := hide hbs
  have HB := hide hb
  have HLEN := hide hlen
  clear hs hbs hb hlen
  go_enter Tryz.func55, Tryz.ntmps55
  go_wp2_with (first
    | (at_builtin; refine wpList_append_srcA rfl _ _ rfl w.heap.size (.slice none 0 0) 0 [] rfl (World.ownsRow_nil _ _ _ _) rv rest rfl HS.out.src (by have := HLEN.out; omega) (Nat.le_refl _) ?_; intro v1 w1 hown1 hgr1 hloc1)
    | (at_builtin; refine Go.Lib.wpList_append_own_string (w := w1) rfl _ _ 76 9 rfl w.heap.size 5 i0 Tryz.underlying76 Tryz.underlying9 hi hz0 hz1 hz2 v1 (0 + rest.length) _ rfl hown1 s rfl (by unfold maxLen; have := HLEN.out; omega) (by have := HLEN.out; omega) hgr1.size ?_; intro v2 w2 hown2 hgr2 _))
  obtain ⟨wl, hwl⟩ : ∃ wl, wl = w2 := ⟨_, rfl⟩
  have hs1 := hgr1.size
  have hs2 := hgr2.size
  have hn1 : ∀ z, z < w.heap.size → v1.ownBlock ≠ some z := fun z hz e => by
    rcases hloc1 with h | h
    · rw [h] at e; simp [Value.ownBlock] at e
    · rw [h] at e; injection e with e; omega
  have hk2 : ∀ z, z < w.heap.size → w2.heap[z]? = w.heap[z]? := fun z hz => (hgr2.block z (by omega) (fun e => hn1 z hz e.symm)).trans (hgr1.block z hz (by simp [Value.ownBlock]))
  have hK2 : Keep (fun b => b = tb) w w2 := ⟨hgr2.os.trans hgr1.os, hgr2.tape.trans hgr1.tape, hgr2.output.trans hgr1.output, by omega, fun z hz _ => hk2 z hz⟩
  have hb2 : w2.heap[tb]? = some (.cells #[rv, .bool false] 103) := (hk2 tb lb).trans HB.out
  have hsl2 : Sl w2 v2 bs0 := by
    refine Sl.of_own (n := 0 + rest.length + s.size) (base := w.heap.size) ?_
    rw [HBS.out, List.map_append, ← strNums s]
    exact hown2
  have hF2 : ∀ g o n c, v2 = .slice (some ⟨g, o, none⟩) n c → w.heap.size ≤ g ∧ g < w2.heap.size := fun g o n c h => by
    have := hown2.lt g (by rw [h]; rfl)
    omega
  have hby0 : Bytes bs0 := by rw [HBS.out]; exact hby.app (numsOf_bytes s)
  have hl0 : bs0.length ≤ 100000 := by rw [HBS.out, List.length_append, numsOf_length]; exact HLEN.out
  subst hwl
  have HK2 := hide hK2
  have HF2 := hide hF2
  have HK := hide hk2
  clear hown1 hgr1 hloc1 hown2 hgr2 hn1 hk2 hK2 hF2 c1 f1 HS HB HBS HLEN hby
  go_loopw [6, 7] (fun s6 s7 wr => ∃ bs qs, SfI w wl tb bs0 bs qs s6 s7 rv wr) (fun s6 _ _ => sliceLen s6)
  case atStart => exact ⟨bs0, [], ⟨by simp, hsl2, by simp, hby0, World.ownsRow_nil _ _ _ _, HF2.out, hb2, Keep.refl _ _⟩⟩
  case round =>
    obtain ⟨bs, qs, I⟩ := hrel
    have hle := I.le
    have hst := I.st
    have lst := ltB hst
    obtain ⟨a6, c6, h6⟩ := I.sl.shape
    subst h6
    have hI := hide I
    clear I
    go_wp2_with fail
    refine (read16 _ bs wr hI.out.sl (by omega) (fun j => hI.out.by_.getD j) _ rfl _ _ rfl rfl).mono ?_
    rintro e w3 ⟨rfl, hb3⟩
    have hst3 := (hb3.block tb lst).trans hst
    have d1 := fun o j => upC hst3 o j
    have d2 := fun o j => upF hst3 o j
    have hkw := hI.out.keep.size
    have hs3 := hb3.size
    have HB3 := hide hb3
    clear hst hb3
    have hk1 : Keep (fun b => b = tb) w w3 := (HK2.out.trans (hI.out.keep.mono (fun _ h _ => h.elim))).trans (Keep.of_below HB3.out)
    have hwl2 : w.heap.size ≤ wl.heap.size := by omega
    have hX : ∀ z o, z < wr.heap.size → (w3.alloc o).heap[z]? = wr.heap[z]? := fun z o hz => (heapOld w3 o (by omega)).trans (HB3.out.block z hz)
    have HX := hide hX
    have HK1 := hide hk1
    clear hk1 hX
    rcases rdErr_cases bs with h | h | h
    · obtain ⟨r1, r2, r3, r4⟩ := rdN_ok bs h
      obtain ⟨g, o, c, hv, hc, hg, hcell, hp⟩ : ∃ g o c, Value.slice a6 bs.length c6 = .slice (some ⟨g, o, none⟩) bs.length c ∧ bs.length ≤ c ∧ g < wr.heap.size ∧ (∀ j, j < bs.length → wr.cell? ⟨g, o + j, none⟩ = some (.int .u8 (bs.getD j 0))) ∧ 0 < bs.length := by
        rcases hI.out.sl with ⟨hnil, _⟩ | ⟨hp, g, o, c, hv, hc, hg, hcell⟩
        · rw [hnil] at h; simp [rdErr] at h
        · exact ⟨g, o, c, hv, hc, hg, hcell, hp⟩
      injection hv with hv1 _ hv3
      subst hv1 hv3
      obtain ⟨q, hq⟩ : ∃ q, q = rdQ bs := ⟨_, rfl⟩
      obtain ⟨m, hm⟩ : ∃ m, m = (rdN bs).toNat := ⟨_, rfl⟩
      obtain ⟨n, hn⟩ : ∃ n, n = bs.length := ⟨_, rfl⟩
      rw [h, r3]
      rw [← hm] at r1 r2 r4 ⊢
      rw [← hn] at r2 hc hp ⊢
      rw [← hq]
      have hF := hI.out.F g o n c6 (by rw [hn])
      have HO2 : Hid (∀ o1 o2, ((w3.alloc o1).alloc o2).ownsRow wl.heap.size 65 13 u7 qs.length (rqws qs)) := hide (fun o1 o2 => own_keptE hI.out.own (fun z hz => by
        have := own_ltE hI.out.own hz
        exact (heapOld _ _ (by simp; omega)).trans (HX.out z o1 (by omega))))
      have hmn : (m : Int) ≤ (n : Int) := by omega
      have hm0 : (0 : Int) ≤ (m : Int) := by omega
      have HM := hide hm
      have HN := hide hn
      have HQ := hide hq
      have HEV := hide h
      have HCE := hide hcell
      have hql : qs.length ≤ 100000 := by omega
      have hqn : 2 * qs.length + n ≤ bs0.length := by omega
      clear hm hn hq h r3 hcell hle
      go_wp2_with (at_builtin; refine wpList_append_own_at _ rfl _ _ 28 rfl wl.heap.size 65 i1 ZR 13 48 Tryz.underlying28 hj hy0 hy1 hy2 rfl (by decide) u7 qs.length (rqws qs) rfl (HO2.out _ _) ⟨w3.heap.size + 1, 0, none⟩ 1 1 (rqw q) rfl rfl (fun j u hju => by rw [Addr.add_lit, Nat.zero_add, ← hju]; exact (cellB (heapN (by simp)) j).trans (by simp)) (by simp [Value.oneCell']) (by unfold maxLen; omega) (by omega) (by simp; omega) ?_; intro v5 w4 hown4 hgr4 hnil4 hloc4; obtain ⟨ya, yc, hyw⟩ := own_sliceE hown4; subst hyw; have HO4 := hide hown4; have HG4 := hide hgr4; clear hown4 hgr4 hnil4 hloc4)
      have hn7 : ∀ z, z < wl.heap.size → u7.ownBlock ≠ some z := fun z hz e => by have := own_ltE hI.out.own e; omega
      have hk4 := ((hI.out.keep.trans (Keep.of_below HB3.out)).alloc (.cells (rqc q) 65)).alloc (.cells (rqc q) 65)
      have hX4 : ∀ z, z < wr.heap.size → u7.ownBlock ≠ some z → w4.heap[z]? = wr.heap[z]? := fun z hz hne => (HG4.out.block z (by simp; omega) (fun e => hne e.symm)).trans ((heapOld _ _ (by simp; omega)).trans (HX.out z _ hz))
      have hsz := HG4.out.size
      have hbd : (bs.drop m).length = n - m := by rw [List.length_drop, ← HN.out]
      refine ⟨⟨bs.drop m, qs ++ [q], ⟨?_, ?_, ?_, hI.out.by_.drop m, ?_, ?_, ?_, ?_⟩⟩, ?_⟩
      · have hstep := rqL_step bs HEV.out
        rw [← HQ.out, ← HM.out] at hstep
        rw [hI.out.run, hstep, List.append_assoc]; rfl
      · by_cases hrem : n - m = 0
        · left
          refine ⟨List.length_eq_zero_iff.1 (hbd.trans hrem), Or.inr ?_⟩
          rw [hrem]
          split
          · exact ⟨_, _, _, rfl⟩
          · exact ⟨_, _, _, rfl⟩
        · right
          rw [if_neg (by omega), hbd]
          refine ⟨by omega, g, o + m, c6 - m, rfl, by omega, by simp at hsz; omega, fun j hj => ?_⟩
          rw [World.cell?_of_block (w := wr) (hX4 g hg (hn7 g hF.2)), Nat.add_assoc, HCE.out (m + j) (by rw [← HN.out]; omega)]
          simp [List.getD, List.getElem?_drop]
      · rw [List.length_append, hbd, List.length_singleton]
        omega
      · rw [rqws_snoc, List.length_append, List.length_singleton]; exact HO4.out
      · intro g' o' n' c' hh
        have hgg : g' = g := by
          split at hh <;> (injection hh with h1 _ _; injection h1 with h1; injection h1 with h1 _; exact h1.symm)
        rw [hgg]; exact hF
      · exact (hX4 tb lst (hn7 tb (by omega))).trans hI.out.st
      · exact ⟨HG4.out.os.trans hk4.os, HG4.out.tape.trans hk4.tape, HG4.out.output.trans hk4.output, Nat.le_trans hk4.size hsz, fun z hz hS => (HG4.out.block z (Nat.lt_of_lt_of_le hz hk4.size) (fun e => hn7 z hz e.symm)).trans (hk4.block z hz hS)⟩
      · show n - m < bs.length
        rw [← HN.out]; omega
    · have e1 : rqL bs0 = (qs, bs, 1) := by
        have hrun := hI.out.run
        rw [rqL_stop bs (by omega), h] at hrun
        simpa using hrun
      have el : l = qs := HL.out.trans (by rw [e1])
      have eb : bd = false := HBD.out.trans (by rw [e1]; rfl)
      have ef : lf = bs := HLF.out.trans (by rw [e1]; rfl)
      subst eb
      have EL := hide el
      have EF := hide ef
      clear e1 el ef HL HBD HLF
      rw [h]
      go_wp2_with fail
      refine bodyPost_ret (v := .tuple #[u7, .bool false]) (by simp [results, Tryz.results55, go_sem]) rfl ?_
      rw [EL.out, EF.out]
      refine ⟨u7, .slice a6 bs.length c6, rfl, ?_, (HK1.out.alloc _).set (Or.inl rfl) _ _, by simpa using heapSet (upB hst3 _) 0 _, ?_, fun g o n c hh => (hI.out.F g o n c hh).1⟩
      · refine own_base (own_keptE hI.out.own (fun z hz => ?_)) hwl2
        have := own_ltE hI.out.own hz
        exact (heapSetO (by omega) _ _).trans (HX.out z _ (by omega))
      · refine hI.out.sl.kept (by simp; omega) (fun g o n c hh hg => ?_)
        have := hI.out.F g o n c hh
        exact (heapSetO (by omega) _ _).trans (HX.out g _ hg)
    · have e1 : rqL bs0 = (qs, bs, 2) := by
        have hrun := hI.out.run
        rw [rqL_stop bs (by omega), h] at hrun
        simpa using hrun
      have el : l = qs := HL.out.trans (by rw [e1])
      have eb : bd = true := HBD.out.trans (by rw [e1]; rfl)
      have ef : lf = [] := HLF.out.trans (by rw [e1]; rfl)
      subst eb
      have EL := hide el
      have EF := hide ef
      clear e1 el ef HL HBD HLF
      rw [h]
      go_wp2_with fail
      refine bodyPost_ret (v := .tuple #[u7, .bool true]) (by simp [results, Tryz.results55, go_sem]) rfl ?_
      rw [EL.out, EF.out]
      refine ⟨u7, .slice none 0 0, rfl, ?_, ((HK1.out.alloc _).set (Or.inl rfl) _ _).set (Or.inl rfl) _ _, by simpa using heapSet (heapSet (upB hst3 _) 1 _) 0 _, Or.inl ⟨rfl, Or.inl rfl⟩, fun g o n c hh => by simp at hh⟩
      · refine own_base (own_keptE hI.out.own (fun z hz => ?_)) hwl2
        have := own_ltE hI.out.own hz
        exact (heapSetO (by omega) _ _).trans ((heapSetO (by omega) _ _).trans (HX.out z _ (by omega)))

set_option maxRecDepth 100000 in
/-- A stream that has ended takes no more. -/
theorem sfeed51_end (tb : Nat) (rv : Value) (s : ByteArray) (w : World) (hb : w.heap[tb]? = some (.cells #[rv, .bool true] 103)) :
    Calls Tryz.prog 55 #[.pointer (some ⟨tb, 0, none⟩), .string s] w fun e w' => e = .returned (.tuple #[.slice none 0 0, .bool false]) ∧ w' = w := by
  have c1 := cellB hb
  go_enter Tryz.func55, Tryz.ntmps55
  go_wp2_with fail
  exact bodyPost_ret (v := .tuple #[.slice none 0 0, .bool false]) (by simp [results, Tryz.results55, go_sem]) rfl ⟨rfl, rfl⟩
end Go.Proofs.YtnlgndpcddngoaaGreatDoor

namespace Go.Proofs.YtnlgndpcddngoaaGreatDoor
open Go.RowKit

/-- The document's answer to a request. -/
theorem ask57 (bb base : Nat) (lv : Value) (B : Bk) (q : Rq) (w : World) (h : BookAt w bb base lv B) (hB : B.ok) (hq : q.ok) (ho : q.op ∈ [1, 2, 3, 4, 5, 6]) (hba : base ≤ w.heap.size) :
    Calls Tryz.prog 61 #[.pointer (some ⟨bb, 0, none⟩), rqv q] w (AskPost bb base lv B q w) := by
  simp only [List.mem_cons, List.not_mem_nil, or_false] at ho
  rcases ho with ho | ho | ho | ho | ho | ho
  · by_cases hs : soundM q.kd q.x q.y
    · cases hi : idx q.key B.ls with
      | none =>
        by_cases hf : B.ls.length = 12
        · exact ask57_full bb base lv B q w h hB hq ho hs hi hf
        · exact ask57_def bb base lv B q w h hB hq ho hs hi hf hba
      | some i => exact ask57_exists bb base lv B q w h hB hq ho hs i hi
    · exact ask57_bad bb base lv B q w h hB hq ho hs
  · cases hi : idx q.key B.ls with
    | none => exact ask57_no bb base lv B q w h hB hq (Or.inl ho) hi
    | some i => exact ask57_2 bb base lv B q w h hB hq ho i hi
  · cases hi : idx q.key B.ls with
    | none => exact ask57_no bb base lv B q w h hB hq (Or.inr (Or.inl ho)) hi
    | some i => exact ask57_3 bb base lv B q w h hB hq ho i hi
  · cases hi : idx q.key B.ls with
    | none => exact ask57_no bb base lv B q w h hB hq (Or.inr (Or.inr ho)) hi
    | some i => exact ask57_4 bb base lv B q w h hB hq ho i hi
  · exact ask57_5 bb base lv B q w h hB hq ho
  · exact ask57_6 bb base lv B q w h hB hq ho

theorem admitM_ok (B : Bk) (i : Nat) (l : Ln) (n : Int) (hB : B.ok) (hl : l.ok) (hn : 0 ≤ n ∧ n ≤ 18446744073709551615) : (admitM B i l n).1.ok := by
  have hT := hB.time
  have hx := hl.x
  have hy := hl.y
  have hat := hl.at_
  unfold admitM
  split
  · rename_i hok
    dsimp only
    split
    · refine ⟨hT, by rw [List.length_set]; exact hB.len, fun l' hl' => ?_⟩
      rcases List.mem_or_eq_of_mem_set hl' with h | rfl
      · exact hB.ln l' h
      · have hw : 0 ≤ lnWin B.time l ∧ lnWin B.time l ≤ 18446744073709551615 := by
          unfold lnWin
          split
          · omega
          · rename_i hk
            have := hl.yp hk
            have h1 : 0 ≤ B.time / l.y := Int.ediv_nonneg (by omega) (by omega)
            have h2 : B.time / l.y ≤ B.time := Int.ediv_le_self _ (by omega)
            omega
        have ha : 0 ≤ (lnAdm B.time l n).1 ∧ (lnAdm B.time l n).1 ≤ 18446744073709551615 := by
          unfold lnAdm at hok ⊢
          split
          · rename_i hk
            rw [if_pos hk] at hok
            have hkx : 1 ≤ l.x := by rcases hl.kd with h | h <;> omega
            have hnx : 0 ≤ n * l.x := Int.mul_nonneg hn.1 (by omega)
            unfold spacedM
            generalize hS : (if l.at_ < B.time then B.time else l.at_) = S
            have hS0 : 0 ≤ S := by rw [← hS]; split <;> omega
            split
            · exact hat
            · split
              · exact ⟨Int.le_refl _, (by decide : (0 : Int) ≤ 18446744073709551615)⟩
              · rename_i h1
                split
                · dsimp only
                  omega
                · exact ⟨Int.le_refl _, (by decide : (0 : Int) ≤ 18446744073709551615)⟩
          · rename_i hk
            unfold windowedM
            have hs : 0 ≤ (standsM B.time l).1 := by
              unfold standsM
              rw [if_neg hk]
              split <;> dsimp only <;> omega
            split
            · dsimp only; omega
            · split <;> exact ⟨Int.le_refl _, (by decide : (0 : Int) ≤ 18446744073709551615)⟩
        exact ⟨hl.kd, hx, hy, ha, hw⟩
    · exact hB
  · exact hB
theorem askM_ok (B : Bk) (q : Rq) (hB : B.ok) (hq : q.ok) : (askM B q).1.ok := by
  unfold askM
  split
  · split
    · exact hB
    · rename_i hs
      split
      · exact hB
      · split
        · exact hB
        · rename_i hf
          refine ⟨hB.time, ?_, fun l hl => ?_⟩
          · have := hB.len
            show (B.ls ++ [_]).length ≤ 12
            rw [List.length_append, List.length_singleton]
            omega
          · rcases List.mem_append.1 hl with h | h
            · exact hB.ln l h
            · simp at h
              subst h
              exact ⟨Decidable.not_not.1 hs, hq.x, hq.y, by simp, by simp⟩
  · split
    · exact hB
    · split
      · exact hB
      · cases hi : idx q.key B.ls with
        | none => exact hB
        | some i =>
          dsimp only
          split
          · exact hB
          · split
            · refine ⟨hB.time, ?_, fun l hl => hB.ln l (List.mem_of_mem_eraseIdx hl)⟩
              exact Nat.le_trans (List.length_eraseIdx_le _ _) hB.len
            · have hlt := idx_lt hi
              have hgd : B.ls.getD i ⟨q.key, 0, 0, 0, 0, 0⟩ = B.ls[i] := by simp [List.getD, List.getElem?_eq_getElem hlt]
              rw [hgd]
              exact admitM_ok B i _ q.n hB (hB.ln _ (List.getElem_mem hlt)) hq.n
end Go.Proofs.YtnlgndpcddngoaaGreatDoor

namespace Go.Proofs.YtnlgndpcddngoaaGreatDoor

theorem rdQ_op (bs : List Int) (h : rdErr bs = 0) : (rdQ bs).op ∈ [1, 2, 3, 4, 5, 6] := by
  have key : bs.getD 1 0 = 1 ∨ bs.getD 1 0 = 2 ∨ bs.getD 1 0 = 3 ∨ bs.getD 1 0 = 4 ∨ bs.getD 1 0 = 5 ∨ bs.getD 1 0 = 6 := by
    match bs, h with
    | [], h => simp [rdErr] at h
    | [b0], h =>
      simp only [rdErr] at h
      split at h <;> omega
    | b0 :: b1 :: t, h =>
      simp only [rdErr] at h
      split at h
      · omega
      · rename_i h1
        split at h
        · rename_i h2
          show b1 = 1 ∨ b1 = 2 ∨ b1 = 3 ∨ b1 = 4 ∨ b1 = 5 ∨ b1 = 6
          unfold reqLen at h2
          split at h2
          · omega
          · split at h2
            · omega
            · split at h2
              · omega
              · split at h2
                · omega
                · omega
        · omega
  simp only [List.mem_cons, List.not_mem_nil, or_false]
  rcases key with k | k | k | k | k | k
  · rw [rdQ_1 bs h k]; simp
  · rw [rdQ_2 bs h k]; simp
  · rw [rdQ_3 bs h (Or.inl k)]; simp only []; omega
  · rw [rdQ_3 bs h (Or.inr k)]; simp only []; omega
  · rw [rdQ_5 bs h (Or.inl k)]; simp only []; omega
  · rw [rdQ_5 bs h (Or.inr k)]; simp only []; omega
theorem rqL_good : ∀ (n : Nat) (bs : List Int), bs.length ≤ n → Bytes bs → ∀ q ∈ (rqL bs).1, q.ok ∧ q.op ∈ [1, 2, 3, 4, 5, 6] := by
  intro n
  induction n with
  | zero =>
    intro bs h _
    have e : bs = [] := List.length_eq_zero_iff.1 (by omega)
    subst e
    rw [rqL_stop [] (by simp [rdErr])]
    simp
  | succ n ih =>
    intro bs h hb
    by_cases h0 : rdErr bs = 0
    · obtain ⟨r1, r2, _, _⟩ := rdN_ok bs h0
      rw [rqL_step bs h0]
      intro q hq
      rcases List.mem_cons.1 hq with rfl | hq
      · exact ⟨rdQ_ok bs hb, rdQ_op bs h0⟩
      · exact ih _ (by rw [List.length_drop]; omega) (hb.drop _) q hq
    · rw [rqL_stop bs h0]
      simp

theorem admM_code (z : Qt) (T n : Int) : (admM z T n).2.c = 2 ∨ (admM z T n).2.c = 3 := by
  show (admQ z T n).2.c = 2 ∨ (admQ z T n).2.c = 3
  unfold admQ admS admW
  repeat' split
  all_goals simp
theorem doM_7 (L : Ld) (q : Rq) : (doM L q).2.c ≠ 7 := by
  unfold doM
  by_cases h2 : q.op = 2
  · rw [if_neg (by omega), if_pos h2]
    cases fnd q.key L.ks with
    | none => simp
    | some z =>
      have := admM_code z L.time q.n
      simp only []
      omega
  · rw [if_neg h2]
    repeat' split
    all_goals simp
theorem doM_adm (L : Ld) (q : Rq) : (doM L q).1.adm = if (doM L q).2.c = 2 then (L.adm + q.n) % 18446744073709551616 else L.adm := by
  unfold doM
  repeat' split
  all_goals first
    | rfl
    | simp_all

/-- The ledger and the document's book stand alike. -/
structure Sim (L : Ld) (B : Bk) : Prop where
  time : L.time = B.time
  lines : Lines B.time L.ks B.ls
  lok : L.ok
  bok : B.ok
theorem Sim.step {L : Ld} {B : Bk} (h : Sim L B) (q : Rq) (hq : q.ok) (ho : q.op ∈ [1, 2, 3, 4, 5, 6]) : (doM L q).2 = (askM B q).2 ∧ Sim (doM L q).1 (askM B q).1 := by
  obtain ⟨h1, h2, h3⟩ := ask_sim L B q h.lok hq h.time h.lines ho
  have ht : (doM L q).1.time = L.time := by
    unfold doM
    repeat' split
    all_goals rfl
  refine ⟨h1, ?_, ?_, (doM_ok L q h.lok hq).1, askM_ok B q h.bok hq⟩
  · rw [ht, h.time, h2]
  · rw [h2]; exact h3
theorem Sim.pass {L : Ld} {B : Bk} (h : Sim L B) (now : Int) (h0 : 0 ≤ now) (h1 : now ≤ 18446744073709551615) : Sim (passM L now) (tellM B now) := by
  have hL := passM_okd L now h.lok h0 h1
  have ht : (passM L now).time = (tellM B now).time := by unfold passM tellM; rw [h.time]
  refine ⟨ht, ?_, hL, ?_⟩
  · refine Lines.mono (T := B.time) ?_ h.lok.qt h.lines
    unfold tellM
    simp only []
    split <;> omega
  · refine ⟨?_, h.bok.len, h.bok.ln⟩
    rw [← ht]
    exact hL.time
/-- Requests asked of the book one behind the other. -/
def askL : Bk → List Rq → Bk × List Rp
  | B, [] => (B, [])
  | B, q :: t => ((askL (askM B q).1 t).1, (askM B q).2 :: (askL (askM B q).1 t).2)
theorem Sim.list : ∀ (qs : List Rq) {L : Ld} {B : Bk}, Sim L B → (∀ q ∈ qs, q.ok ∧ q.op ∈ [1, 2, 3, 4, 5, 6]) → (doL L qs).2 = (askL B qs).2 ∧ Sim (doL L qs).1 (askL B qs).1
  | [], _, _, h, _ => ⟨rfl, h⟩
  | q :: t, L, B, h, hq => by
    obtain ⟨h1, h2⟩ := h.step q (hq q List.mem_cons_self).1 (hq q List.mem_cons_self).2
    obtain ⟨h3, h4⟩ := Sim.list t h2 (fun q' hq' => hq q' (List.mem_cons_of_mem _ hq'))
    exact ⟨by show (doM L q).2 :: _ = (askM B q).2 :: _; rw [h1, h3], h4⟩
/-- A feeding, by its requests. -/
theorem feedM_rq (L : Ld) (c : Cn) (now : Int) (bs : List Int) (hb : c.bad = false) :
    feedM L c now bs = if (rqL (c.waits ++ bs)).2.2 = 2 then ((doL (passM L now) (rqL (c.waits ++ bs)).1).1, ⟨[], true⟩, (doL (passM L now) (rqL (c.waits ++ bs)).1).2 ++ [⟨6, 0, 0⟩])
      else ((doL (passM L now) (rqL (c.waits ++ bs)).1).1, ⟨(rqL (c.waits ++ bs)).2.1, false⟩, (doL (passM L now) (rqL (c.waits ++ bs)).1).2) := by
  have h := runL_rqL _ (c.waits ++ bs) (passM L now) (Nat.le_refl _)
  unfold runL at h
  unfold feedM
  rw [if_neg (by simp [hb]), h]
theorem feedM_end (L : Ld) (c : Cn) (now : Int) (bs : List Int) (hb : c.bad = true) : feedM L c now bs = (passM L now, c, []) := by
  unfold feedM
  rw [if_pos hb]
end Go.Proofs.YtnlgndpcddngoaaGreatDoor

namespace Go.Proofs.YtnlgndpcddngoaaGreatDoor
open Go.RowKit

set_option maxRecDepth 100000 in
theorem pick20 (c n : Int) (w : World) (hn : 0 < n) (hn1 : n ≤ 1000000000) (h0 : -9223372036854775808 ≤ c) (h1 : c ≤ 9223372036854775807) :
    Calls Tryz.prog 24 #[.int .i64 c, .int .i64 n] w fun e w' => e = .returned (.int .i64 (pickM c n)) ∧ w' = w := by
  have hnz : ¬ n = 0 := by omega
  by_cases h : c < 0
  · have e : pickM c n = -((c + 1).tmod n) := by unfold pickM; rw [if_pos h, ← Int.neg_tmod, Int.tmod_eq_emod_of_nonneg (by omega)]
    have k1 : IntKind.i64.wrap (c + 1) = c + 1 := by rw [IntKind.wrap_i64]; omega
    have k2 : IntKind.i64.wrap (-(c + 1)) = -(c + 1) := by rw [IntKind.wrap_i64]; omega
    rw [e]
    clear e
    go_enter Tryz.func24, Tryz.ntmps24
    go_wp2
    go_ret
    exact ⟨rfl, rfl⟩
  · have e : pickM c n = c % n := by unfold pickM; rw [if_neg h]
    rw [e]
    clear e
    go_enter Tryz.func24, Tryz.ntmps24
    go_wp2
    go_ret
    exact ⟨rfl, rfl⟩


theorem reqref49 (q : Rq) (hq : q.ok) (w : World) :
    Calls Tryz.prog 53 #[.agg #[.int .u8 q.op, .int .u8 q.k0, .int .u8 q.k1, .int .u8 q.k2, .int .u8 q.k3, .int .u8 q.k4, .int .u8 q.k5, .int .u8 q.k6, .int .u8 q.k7, .int .u8 q.kd, .int .u64 q.x, .int .u64 q.y, .int .u64 q.n]] w
      fun e w' => ∃ a c, e = .returned (.slice a q.enc.length c) ∧ w'.ownsRow w.heap.size 5 1 (.slice a q.enc.length c) q.enc.length (q.enc.map (Value.int .u8)) ∧ Below w.heap.size w w' := by
  refine (refreq_any q.op q.k0 q.k1 q.k2 q.k3 q.k4 q.k5 q.k6 q.k7 q.kd q.x q.y q.n w hq.x.1 hq.x.2 hq.y.1 hq.y.2 hq.n.1 hq.n.2).mono ?_
  rintro e w' ⟨v, rfl, ho, hb⟩
  obtain ⟨a, c, rfl⟩ := own_slice ho
  exact ⟨a, c, rfl, ho, hb⟩

set_option maxRecDepth 100000 in
set_option maxHeartbeats 2000000 in
/-- quotaledgerlaw.written: requests, one behind the other, and bytes. -/
theorem written32 (ao : Option Addr) (n cap : Nat) (qs : List Rq) (raw : ByteArray) (w : World) (hn : qs.length = n) (hnc : n ≤ cap) (hn1 : n ≤ 1000) (hr : raw.size ≤ 20000) (hok : ∀ q ∈ qs, q.ok)
    (hc : 0 < n → ∃ A o, ao = some ⟨A, o, none⟩ ∧ A < w.heap.size ∧ ∀ i (h : i < qs.length) j, j < 13 → w.cell? ⟨A, o + i * 13 + j, none⟩ = (#[.int .u8 qs[i].op, .int .u8 qs[i].k0, .int .u8 qs[i].k1, .int .u8 qs[i].k2, .int .u8 qs[i].k3, .int .u8 qs[i].k4, .int .u8 qs[i].k5, .int .u8 qs[i].k6, .int .u8 qs[i].k7, .int .u8 qs[i].kd, .int .u64 qs[i].x, .int .u64 qs[i].y, .int .u64 qs[i].n] : Array Value)[j]?) :
    Calls Tryz.prog 36 #[.slice ao n cap, .string raw] w fun e w' => e = .returned (.string (strOfNums (encQs qs) ++ raw)) ∧ Below w.heap.size w w' := by
  have HC := hide hc
  have HN := hide hn
  have HOK := hide hok
  clear hc hn hok
  go_enter Tryz.func36, Tryz.ntmps36
  go_wp2
  go_loopw [5, 6] (fun s5 s6 wr => ∃ i : Nat, i ≤ n ∧ s6 = .int .i64 i ∧ wr.ownsRow w.heap.size 5 1 s5 (encQs (qs.take i)).length ((encQs (qs.take i)).map (Value.int .u8)) ∧ Below w.heap.size w wr) (fun _ s6 _ => n - (intOf s6).toNat)
  case atStart => exact ⟨0, by omega, rfl, World.ownsRow_nil _ _ _ _, Below.refl _ _⟩
  case round =>
    obtain ⟨i, hi, rfl, hown, hb⟩ := hrel
    have hle : (encQs (qs.take i)).length ≤ 27000 := by have := encQs_len (qs.take i); rw [List.length_take] at this; omega
    have HOWN := hide hown
    have hwr := hb.size
    clear hown
    by_cases hlt : i < n
    · have hil : i < qs.length := by rw [HN.out]; exact hlt
      obtain ⟨A, o, rfl, hA, hcc⟩ := HC.out (by omega)
      obtain ⟨q, hq⟩ : ∃ q, q = qs[i] := ⟨_, rfl⟩
      have hqo : q.ok := hq ▸ HOK.out _ (List.getElem_mem hil)
      have hcell : ∀ j, j < 13 → wr.cell? ⟨A, o + i * 13 + j, none⟩ = (#[.int .u8 q.op, .int .u8 q.k0, .int .u8 q.k1, .int .u8 q.k2, .int .u8 q.k3, .int .u8 q.k4, .int .u8 q.k5, .int .u8 q.k6, .int .u8 q.k7, .int .u8 q.kd, .int .u64 q.x, .int .u64 q.y, .int .u64 q.n] : Array Value)[j]? := fun j hj => by
        rw [hb.cell (p := ⟨A, o + i * 13 + j, none⟩) hA, hq]
        exact hcc i hil j hj
      have k0 := hcell 0 (by omega)
      have k1 := hcell 1 (by omega)
      have k2 := hcell 2 (by omega)
      have k3 := hcell 3 (by omega)
      have k4 := hcell 4 (by omega)
      have k5 := hcell 5 (by omega)
      have k6 := hcell 6 (by omega)
      have k7 := hcell 7 (by omega)
      have k8 := hcell 8 (by omega)
      have k9 := hcell 9 (by omega)
      have k10 := hcell 10 (by omega)
      have k11 := hcell 11 (by omega)
      have k12 := hcell 12 (by omega)
      rw [Nat.add_zero] at k0
      have HQ := hide hq
      have hel := enc_len q
      clear hcell hcc hq
      go_wp2_with fail
      refine (reqref49 q hqo _).mono ?_
      rintro e w2 ⟨a2, c2, rfl, hown2, hb2⟩
      have HO2 := hide hown2
      have HOW : Hid (w2.ownsRow w.heap.size 5 1 u5 (encQs (qs.take i)).length ((encQs (qs.take i)).map (Value.int .u8))) := hide (own_kept HOWN.out (fun g hg => hb2.block g (own_ltE HOWN.out hg).2))
      have hs2 := hb2.size
      have hB2 : Below w.heap.size w w2 := hb.trans (hb2.mono hwr)
      have HB2 := hide hB2
      clear k0 k1 k2 k3 k4 k5 k6 k7 k8 k9 k10 k11 k12 hown2 hB2
      go_wp2_with (at_builtin; refine wpList_append_srcA rfl _ _ rfl w.heap.size u5 _ (encQs (qs.take i)) rfl HOW.out (.slice a2 q.enc.length c2) q.enc rfl (Sl.of_own HO2.out).src (by omega) (by omega) ?_; intro v3 w3 hown3 hgr3 hloc3)
      go_roundw
      case rel =>
        have htk : qs.take (i + 1) = qs.take i ++ [qs[i]] := by rw [List.take_add_one, List.getElem?_eq_getElem hil]; rfl
        have hen : encQs (qs.take (i + 1)) = encQs (qs.take i) ++ q.enc := by rw [htk, ← HQ.out]; unfold encQs; rw [List.flatMap_append]; simp only [List.flatMap_cons, List.flatMap_nil, List.append_nil]
        refine ⟨i + 1, by omega, by go_num, ?_, ?_⟩
        · rw [hen, List.length_append]; exact hown3
        · exact ⟨hgr3.os.trans HB2.out.os, hgr3.tape.trans HB2.out.tape, hgr3.output.trans HB2.out.output, Nat.le_trans HB2.out.size hgr3.size, fun k hk => (hgr3.block k (by omega) (fun e => by have := own_ltE HOW.out e.symm; omega)).trans (HB2.out.block k hk)⟩
      case measure => simp [intOf]; omega
    · obtain rfl : i = n := by omega
      have etk : qs.take i = qs := List.take_of_length_le (by rw [HN.out]; exact Nat.le_refl _)
      rw [etk] at HOWN hle
      have hcv := conv_own HOWN.out rfl
      obtain ⟨st, hst⟩ : ∃ st, st = strOfNums (encQs qs) := ⟨_, rfl⟩
      have hsz : st.size ≤ 27000 := by rw [hst, strOfNums_size]; exact hle
      rw [← hst] at hcv
      have HST := hide hst
      clear hst
      go_wp2
      go_ret
      refine ⟨?_, hb⟩
      rw [HST.out]
      rfl
end Go.Proofs.YtnlgndpcddngoaaGreatDoor

namespace Go.Proofs.YtnlgndpcddngoaaGreatDoor
open Go.RowKit

theorem Tryz.info92 : (Tryz.prog.info? 101).map (fun i => (i.zero, i.size, i.bytes)) = some (some (.pointer none), 1, 8) := by kernel_rfl
theorem ptrs_snoc (tb : Nat → Nat) (i : Nat) (x : Nat) : ptrs (fun j => if j = i then x else tb j) (i + 1) = ptrs tb i ++ [.pointer (some ⟨x, 0, none⟩)] := by
  unfold ptrs
  rw [List.range_succ, List.map_append]
  congr 1
  · apply List.map_congr_left
    intro j hj
    have := List.mem_range.1 hj
    show Value.pointer (some ⟨if j = i then x else tb j, 0, none⟩) = _
    rw [if_neg (by omega)]
  · simp

/-- Streams that were made, so many. -/
structure OpI (w : World) (wb : Nat) (C : Value → Array Value) (i : Nat) (v : Value) (tb : Nat → Nat) (wr : World) : Prop where
  blk : wr.heap[wb]? = some (.cells (C v) 67)
  own : wr.ownsRow w.heap.size 101 1 v i (ptrs tb i)
  st : ∀ j, j < i → wr.heap[tb j]? = some (.cells #[.slice none 0 0, .bool false] 103) ∧ w.heap.size ≤ tb j
  inj : ∀ j k, j < i → k < i → tb j = tb k → j = k
  keep : Keep (fun b => b = wb) w wr

set_option maxRecDepth 100000 in
set_option maxHeartbeats 4000000 in
theorem open18 (wb : Nat) (c0 c1 c2 c3 c4 c5 f0 f1 f2 f3 f4 f5 f6 f7 f8 f9 f10 f11 f12 was win least lt : Value) (w : World) (hw : w.heap[wb]? = some (.cells #[c0, c1, c2, c3, c4, c5, f0, f1, f2, f3, f4, f5, f6, f7, f8, f9, f10, f11, f12, was, win, least, lt] 67)) :
    Calls Tryz.prog 22 #[.pointer (some ⟨wb, 0, none⟩)] w fun e w' => e = .returned (.tuple #[]) ∧ ∃ v tb, OpI w wb (fun v => #[c0, c1, v, c3, .bool false, c5, f0, f1, f2, f3, f4, f5, f6, f7, f8, f9, f10, f11, f12, was, win, least, .int .u64 0]) 3 v tb w' := by
  obtain ⟨i1, hj, hy0, hy1, hy2⟩ := info_parts Tryz.info92
  have a1 := cellB hw
  have a2 := frozenB hw
  have lw := ltB hw
  have HW := hide hw
  clear hw
  go_enter Tryz.func22, Tryz.ntmps22
  go_wp2_with fail
  go_loopw [2] (fun s2 wr => ∃ i : Nat, ∃ v tb, i ≤ 3 ∧ s2 = .int .i64 i ∧ OpI w wb (fun v => #[c0, c1, v, c3, c4, c5, f0, f1, f2, f3, f4, f5, f6, f7, f8, f9, f10, f11, f12, was, win, least, lt]) i v tb wr) (fun s2 _ => 3 - (intOf s2).toNat)
  case atStart =>
    refine ⟨0, .slice none 0 0, fun _ => 0, by omega, rfl, ⟨by simpa using heapSet HW.out 2 _, World.ownsRow_nil _ _ _ _, fun j hj => by omega, fun j k hj => by omega, Keep.set (S := fun b => b = wb) (b := wb) (Keep.refl _ w) (Or.inl rfl) _ _⟩⟩
  case round =>
    obtain ⟨i, v, tb, hi, rfl, I⟩ := hrel
    obtain ⟨va, vc, rfl⟩ := own_sliceE I.own
    have hblk : wr.heap[wb]? = some (.cells #[c0, c1, .slice va i vc, c3, c4, c5, f0, f1, f2, f3, f4, f5, f6, f7, f8, f9, f10, f11, f12, was, win, least, lt] 67) := I.blk
    have a3 := cellB hblk
    have a4 := frozenB hblk
    have hks := I.keep.size
    have hI := hide I
    have HBL := hide hblk
    clear I a1 a2 hblk
    by_cases hlt : i < 3
    · have hin : (i : Int) < 3 := by omega
      have a5 := fun o j => upC HBL.out o j
      have a6 := fun o o2 j => upC (upB HBL.out o) o2 j
      have HO2 : Hid (∀ o1 o2, ((wr.alloc o1).alloc o2).ownsRow w.heap.size 101 1 (.slice va i vc) i (ptrs tb i)) := hide (fun o1 o2 => own_keptE hI.out.own (fun z hz => by
        have := own_ltE hI.out.own hz
        exact (heapOld _ _ (by simp; omega)).trans (heapOld _ _ (by omega))))
      have hnw : (Value.slice va i vc).ownBlock ≠ some wb := fun e => by have := own_ltE hI.out.own e; omega
      go_wp2_with (at_builtin; refine wpList_append_own_at _ rfl _ _ 61 rfl w.heap.size 101 i1 (.pointer none) 1 8 Tryz.underlying61 hj hy0 hy1 hy2 rfl (by decide) (.slice va i vc) i (ptrs tb i) rfl (HO2.out _ _) ⟨wr.heap.size + 1, 0, none⟩ 1 1 [.pointer (some ⟨wr.heap.size, 0, none⟩)] rfl rfl (fun j u hju => by rw [Addr.add_lit, Nat.zero_add, ← hju]; exact (cellB (heapN (by simp)) j).trans (by simp)) (by simp [Value.oneCell']) (by unfold maxLen; omega) (by omega) (by simp; omega) ?_; intro v5 w4 hown4 hgr4 hnil4 hloc4; obtain ⟨ya, yc, hyw⟩ := own_sliceE hown4; subst hyw; have hb4 := (hgr4.block wb (by simp; omega) (fun e => hnw e.symm)).trans (upB (upB HBL.out _) _); have b1 := cellB hb4; have b2 := frozenB hb4; have HO4 := hide hown4; have HG4 := hide hgr4; have HB4 := hide hb4; have HL4 := hide hloc4; clear hown4 hgr4 hnil4 hloc4 hb4)
      go_roundw
      case rel =>
        have hg4 := HG4.out.size
        have hg5 : wr.heap.size + 2 ≤ w4.heap.size := by simp at hg4; omega
        have hn7 : ∀ z, z < w.heap.size → (Value.slice va i vc).ownBlock ≠ some z := fun z hz e => by have := own_ltE hI.out.own e; omega
        have hk4 := ((hI.out.keep).alloc (.cells #[.slice none 0 0, .bool false] 103)).alloc (.cells #[.pointer (some ⟨wr.heap.size, 0, none⟩)] 101)
        have hkk : Keep (fun b => b = wb) w w4 := ⟨HG4.out.os.trans hk4.os, HG4.out.tape.trans hk4.tape, HG4.out.output.trans hk4.output, Nat.le_trans hk4.size hg4, fun z hz hS => (HG4.out.block z (Nat.lt_of_lt_of_le hz hk4.size) (fun e => hn7 z hz e.symm)).trans (hk4.block z hz hS)⟩
        have hown94 : ∀ z a t, wr.heap[z]? = some (.cells a t) → t ≠ 101 → (Value.slice va i vc).ownBlock ≠ some z := fun z a t hz ht e => own_neE hI.out.own e hz ht rfl
        have hnew : w4.heap[wr.heap.size]? = some (.cells #[.slice none 0 0, .bool false] 103) := (HG4.out.block wr.heap.size (by simp; omega) (fun e => by have := own_ltE hI.out.own e.symm; omega)).trans (upB (heapNew _ _) _)
        refine ⟨i + 1, .slice ya (i + 1) yc, fun j => if j = i then wr.heap.size else tb j, by omega, by go_num, ⟨by simpa using heapSet HB4.out 2 _, ?_, ?_, ?_, Keep.set (S := fun b => b = wb) (b := wb) hkk (Or.inl rfl) _ _⟩⟩
        · rw [ptrs_snoc]
          refine own_keptE HO4.out (fun z hz => ?_)
          have := own_ltE HO4.out hz
          exact heapSetO (by omega) _ _
        · intro j hj'
          by_cases e : j = i
          · rw [if_pos e]
            exact ⟨(heapSetO (by omega) _ _).trans hnew, hks⟩
          · rw [if_neg e]
            have h2 := hI.out.st j (by omega)
            have h3 := ltB h2.1
            exact ⟨(heapSetO (by omega) _ _).trans ((HG4.out.block (tb j) (by simp; omega) (fun e => hown94 _ _ _ h2.1 (by decide) e.symm)).trans ((heapOld _ _ (by simp; omega)).trans ((heapOld _ _ h3).trans h2.1))), h2.2⟩
        · intro j k hj' hk' he
          by_cases ej : j = i <;> by_cases ek : k = i
          · omega
          · rw [if_pos ej, if_neg ek] at he
            have := ltB (hI.out.st k (by omega)).1
            omega
          · rw [if_neg ej, if_pos ek] at he
            have := ltB (hI.out.st j (by omega)).1
            omega
          · rw [if_neg ej, if_neg ek] at he
            exact hI.out.inj j k (by omega) (by omega) he
      case measure => simp [intOf]; omega
    · obtain rfl : i = 3 := by omega
      go_wp2_with fail
      go_end0
      refine ⟨rfl, .slice va 3 vc, tb, ⟨by simpa using heapSet (heapSet HBL.out 4 _) 22 _, ?_, ?_, hI.out.inj, Keep.set (S := fun b => b = wb) (b := wb) (Keep.set (S := fun b => b = wb) (b := wb) hI.out.keep (Or.inl rfl) _ _) (Or.inl rfl) _ _⟩⟩
      · refine own_keptE hI.out.own (fun z hz => ?_)
        have := own_ltE hI.out.own hz
        exact (heapSetO (by omega) _ _).trans (heapSetO (by omega) _ _)
      · intro j hj
        have := hI.out.st j hj
        exact ⟨(heapSetO (by omega) _ _).trans ((heapSetO (by omega) _ _).trans this.1), this.2⟩
end Go.Proofs.YtnlgndpcddngoaaGreatDoor

namespace Go.Proofs.YtnlgndpcddngoaaGreatDoor
open Go.RowKit

/-- How much the first steps hold, in all. -/
def totM (rl rs : Nat → Nat) : Nat → Nat
  | 0 => 0
  | i + 1 => totM rl rs i + 26 * rl i + rs i

def SmallP (n : Nat) (rl rs : Nat → Nat) (e : Ending) : Prop := ∃ b, e = .returned (.bool b) ∧ (b = true → n + totM rl rs n ≤ 16384)

set_option maxRecDepth 100000 in
set_option maxHeartbeats 2000000 in
/-- quotaledgerlaw.small: what is claimed of is small. -/
theorem small14 (ao : Option Addr) (n cap : Nat) (rl rs : Nat → Nat) (w : World) (hnc : n ≤ cap) (hn1 : n ≤ 2000000) (hrl : ∀ i, i < n → rl i ≤ 2000000) (hrs : ∀ i, i < n → rs i ≤ 2000000)
    (hc : 0 < n → ∃ A o, ao = some ⟨A, o, none⟩ ∧ A < w.heap.size ∧ ∀ i, i < n → (∃ la lc, w.cell? ⟨A, o + i * 10 + 3, none⟩ = some (.slice la (rl i) lc)) ∧ ∃ raw : ByteArray, w.cell? ⟨A, o + i * 10 + 4, none⟩ = some (.string raw) ∧ raw.size = rs i) :
    Calls Tryz.prog 18 #[.slice ao n cap] w fun e w' => SmallP n rl rs e ∧ Below w.heap.size w w' := by
  have HC := hide hc
  have HRL := hide hrl
  have HRS := hide hrs
  clear hc hrl hrs
  go_enter Tryz.func18, Tryz.ntmps18
  go_wp2
  go_loopw [3, 4] (fun s3 s4 wr => ∃ i : Nat, i ≤ n ∧ s4 = .int .i64 i ∧ s3 = .int .i64 ((n + totM rl rs i : Nat) : Int) ∧ n + totM rl rs i ≤ 60000000 ∧ Below w.heap.size w wr) (fun _ s4 _ => n - (intOf s4).toNat)
  case atStart => exact ⟨0, by omega, rfl, by simp [totM], by simp [totM]; omega, Below.refl _ _⟩
  case round =>
    obtain ⟨i, hi, rfl, rfl, ht, hb⟩ := hrel
    obtain ⟨t, het⟩ : ∃ t, t = n + totM rl rs i := ⟨_, rfl⟩
    rw [← het] at ht ⊢
    have HT := hide het
    clear het
    by_cases hlt : i < n
    · by_cases hsm : t ≤ 16384
      · obtain ⟨A, o, rfl, hA, hcc⟩ := HC.out (by omega)
        obtain ⟨⟨la, lc, k3⟩, raw, k4, hraw⟩ := hcc i hlt
        have e3 : wr.cell? ⟨A, o + i * 10 + 3, none⟩ = some (.slice la (rl i) lc) := (hb.cell (p := ⟨A, o + i * 10 + 3, none⟩) hA).trans k3
        have e4 : wr.cell? ⟨A, o + i * 10 + 4, none⟩ = some (.string raw) := (hb.cell (p := ⟨A, o + i * 10 + 4, none⟩) hA).trans k4
        obtain ⟨x, hx⟩ : ∃ x, x = rl i := ⟨_, rfl⟩
        rw [← hx] at e3
        have hx1 : x ≤ 2000000 := hx ▸ HRL.out i hlt
        have hr1 : raw.size ≤ 2000000 := hraw ▸ HRS.out i hlt
        have HX := hide hx
        have HRAW := hide hraw
        have hin : (i : Int) < (n : Int) := by omega
        have hi0 : (0 : Int) ≤ (i : Int) := by omega
        have hsi : (t : Int) ≤ 16384 := by omega
        have w1 : IntKind.i64.wrap (26 * (x : Int)) = 26 * (x : Int) := by rw [IntKind.wrap_i64]; omega
        have w2 : IntKind.i64.wrap ((t : Int) + 26 * (x : Int)) = (t : Int) + 26 * (x : Int) := by rw [IntKind.wrap_i64]; omega
        have w3 : IntKind.i64.wrap ((t : Int) + 26 * (x : Int) + (raw.size : Int)) = (t : Int) + 26 * (x : Int) + (raw.size : Int) := by rw [IntKind.wrap_i64]; omega
        clear k3 k4 hcc hx hraw
        go_upto_region 5 with fail
        go_region
        all_goals go_wp2
        all_goals go_roundw
        · have e5 : n + totM rl rs (i + 1) = t + 26 * x + raw.size := by
            have := HT.out
            have := HX.out
            have := HRAW.out
            unfold totM
            omega
          refine ⟨i + 1, by omega, by go_num, ?_, by omega, hb.drew⟩
          rw [e5]
          simp
        · simp [intOf]; omega
      · have hsi : ¬ (t : Int) ≤ 16384 := by omega
        have hin : (i : Int) < (n : Int) := by omega
        go_wp2
        go_ret
        exact ⟨⟨false, rfl, fun h => by simp at h⟩, hb⟩
    · obtain rfl : i = n := by omega
      go_wp2
      go_ret
      refine ⟨⟨_, rfl, fun h => ?_⟩, hb⟩
      have := HT.out
      simp at h
      omega
end Go.Proofs.YtnlgndpcddngoaaGreatDoor
