import Derived.Test.YtlamgpeiolfffaaGreatDoorZy29
import Derived.Test.YtlamgpeiolfffaaGreatDoorZy33
import Derived.Deep.RegionLaw
set_option linter.unusedSectionVars false
namespace Go.Proofs.YtlamgpeiolfffaaGreatDoor
open Go.RowKit
variable [dK] [iK]

abbrev ZL : Value := .agg #[.int .u8 0, .int .u8 0, .int .u8 0, .int .u8 0, .int .u8 0, .int .u8 0, .int .u8 0, .int .u8 0, .int .u8 0, .int .u64 0, .int .u64 0, .int .u64 0, .int .u64 0]
theorem Tryz.info139 : (Tryz.prog.info? 139).map (fun i => (i.zero, i.size, i.bytes)) = some (some ZL, 13, 48) := by kernel_rfl

theorem lncs_snoc (ls : List Ln) (l : Ln) : lncs (ls ++ [l]) = lncs ls ++ lnc l := by simp [lncs]
/-- One line more. -/
theorem def_end {w V X w4 : World} {bb base m lc : Nat} {la : Option Addr} {v5 : Value} {B : Bk} {l : Ln} {R : Nat} {o : Obj} (hA : BookAt V bb base (.slice la m lc) B) (hm : m = B.ls.length) (hX : ∀ k, k < V.heap.size → X.heap[k]? = V.heap[k]?) (hXs : X.heap.size = V.heap.size + 1) (hXo : X.os = V.os ∧ X.tape = V.tape ∧ X.output = V.output)
    (ho4 : w4.ownsRow base 139 13 v5 (m + 1) (lncs B.ls ++ lnc l)) (hg4 : X.grownBy w4 (Value.slice la m lc).ownBlock) (hl4 : v5.ownBlock = (Value.slice la m lc).ownBlock ∨ v5.ownBlock = some X.heap.size) (hBV : Below w.heap.size w V) (hR : V.heap[R]? = some o) (hRb : R ≠ bb) (hRo : (Value.slice la m lc).ownBlock ≠ some R) :
    BookAt (w4.setCell ⟨bb, 0, none⟩ v5) bb base v5 ⟨B.time, B.ls ++ [l]⟩ ∧ (w4.setCell ⟨bb, 0, none⟩ v5).heap[R]? = some o ∧ Keep (fun b => b = bb ∨ (Value.slice la m lc).ownBlock = some b) w (w4.setCell ⟨bb, 0, none⟩ v5) ∧ (∀ g, v5.ownBlock = some g → (Value.slice la m lc).ownBlock = some g ∨ w.heap.size ≤ g) := by
  have hbl := ltB hA.hb
  have nb : (Value.slice la m lc).ownBlock ≠ some bb := fun e => own_neE hA.ho e hA.hb (by decide) rfl
  have K : ∀ k, k < V.heap.size → (Value.slice la m lc).ownBlock ≠ some k → w4.heap[k]? = V.heap[k]? := fun k hk hn => (hg4.block k (by omega) (fun e => hn e.symm)).trans (hX k hk)
  have hb4 := (K bb hbl nb).trans hA.hb
  have hs4 := hg4.size
  have hsV := hBV.size
  refine ⟨⟨by simpa using heapSet hb4 0 v5, ?_⟩, ?_, ⟨(hg4.os.trans hXo.1).trans hBV.os, (hg4.tape.trans hXo.2.1).trans hBV.tape, (hg4.output.trans hXo.2.2).trans hBV.output, by rw [World.size_setCell]; omega, fun k hk hn => ?_⟩, fun g hg => ?_⟩
  · rw [lncs_snoc, List.length_append, List.length_singleton, ← hm]
    exact own_keptE ho4 (fun g hg => heapSetO (own_neE ho4 hg hb4 (by decide)) _ _)
  · rw [heapSetO hRb]
    exact (K R (ltB hR) hRo).trans hR
  · rw [heapSetO (fun e => hn (Or.inl e))]
    exact (K k (by omega) (fun e => hn (Or.inr e))).trans (hBV.block k hk)
  · rcases hl4 with h | h
    · exact Or.inl (h ▸ hg)
    · rw [h] at hg
      injection hg with hg
      exact Or.inr (by omega)

set_option maxRecDepth 100000 in
set_option maxHeartbeats 2000000 in
/-- Ask: Define, there is no such policy. -/
theorem ask57_bad (bb base : Nat) (lv : Value) (B : Bk) (q : Rq) (w : World) (h : BookAt w bb base lv B) (hB : B.ok) (hq : q.ok) (ho : q.op = 1) (hs : ¬ soundM q.kd q.x q.y) :
    Calls Tryz.prog 57 #[.pointer (some ⟨bb, 0, none⟩), rqv q] w (AskPost bb base lv B q w) := by
  obtain ⟨W, hW⟩ : ∃ W, W = (w.alloc (.cells #[.int .u8 q.op, .int .u8 q.k0, .int .u8 q.k1, .int .u8 q.k2, .int .u8 q.k3, .int .u8 q.k4, .int .u8 q.k5, .int .u8 q.k6, .int .u8 q.k7, .int .u8 q.kd, .int .u64 q.x, .int .u64 q.y, .int .u64 q.n] 58)).alloc (.cells #[.int .u8 0, .int .u64 0, .int .u64 0] 40) := ⟨_, rfl⟩
  have hq0 : W.heap[w.heap.size]? = some (.cells #[.int .u8 q.op, .int .u8 q.k0, .int .u8 q.k1, .int .u8 q.k2, .int .u8 q.k3, .int .u8 q.k4, .int .u8 q.k5, .int .u8 q.k6, .int .u8 q.k7, .int .u8 q.kd, .int .u64 q.x, .int .u64 q.y, .int .u64 q.n] 58) := hW ▸ upB (heapNew _ _) _
  have hr0 : W.heap[w.heap.size + 1]? = some (.cells #[.int .u8 0, .int .u64 0, .int .u64 0] 40) := hW ▸ heapN (by simp)
  have hBW : Below w.heap.size w W := hW ▸ ((Below.refl _ w).alloc (Nat.le_refl _) _).alloc (by simp) _
  have hAW := h.below hBW (Nat.le_refl _)
  have hbl := ltB h.hb
  have hgl : ∀ g, lv.ownBlock = some g → g < w.heap.size := fun g hg => (own_ltE h.ho hg).2
  have h84 := find84 bb base lv B q.key W hAW hB.len
  have hl12 := hB.len
  have hTm := hB.time
  have em : askM B q = (B, ⟨8, 0, 0⟩) := by unfold askM; rw [if_pos ho, if_pos hs]
  have HE := hide em
  have hc : (¬ q.kd = 1 ∧ ¬ q.kd = 2) ∨ (q.kd = 1 ∧ q.x = 0) ∨ (q.kd = 2 ∧ q.y = 0) := by
    have hx := hq.x
    have hy := hq.y
    unfold soundM at hs
    omega
  have HC := hide hc
  clear em hs hc
  have H84 := hide h84
  have HAW := hide hAW
  have HQ0 := hide hq0
  have HR0 := hide hr0
  have HBW := hide hBW
  have HGL := hide hgl
  have HB := hide hB
  have HH := hide h
  clear h84 hAW hq0 hr0 hBW hgl hB h
  have HO := hide ho
  clear ho
  go_enter Tryz.func57, Tryz.ntmps57
  go_wp2_with fail
  have h84 := H84.out
  rw [hW] at h84
  refine h84.mono ?_
  rw [← hW]
  rintro e w1 ⟨rfl, hb1⟩
  have hA1 := HAW.out.below hb1 (Nat.le_refl _)
  have hq1 := (hb1.block _ (ltB HQ0.out)).trans HQ0.out
  have hr1 := (hb1.block _ (ltB HR0.out)).trans HR0.out
  have x0 := cellB hq1
  have x1 := cellB hr1
  have x2 := frozenB hr1
  have y1 := cellB hA1.hb
  have HA1 := hide hA1
  have HR1 := hide hr1
  have HQ1 := hide hq1
  have HBE := hide (HBW.out.trans (hb1.mono HBW.out.size))
  have hbR : bb ≠ w.heap.size + 1 := by omega
  have hbR' : w.heap.size + 1 ≠ bb := by omega
  clear h84 hW hA1 hq1 hr1 hb1
  have ho := HO.out
  obtain ⟨ii, hii⟩ : ∃ ii, ii = idxI q.key B.ls := ⟨_, rfl⟩
  rw [← hii]
  clear hii
  have hr2 := upB HR1.out (.cells #[.int .u8 q.kd, .int .u64 q.x, .int .u64 q.y] 30)
  have z1 := cellB hr2
  have z2 := frozenB hr2
  have HA2 : Hid (BookAt (w1.alloc (.cells #[.int .u8 q.kd, .int .u64 q.x, .int .u64 q.y] 30)) bb base _ B) := hide (HA1.out.below ((Below.refl _ w1).alloc (Nat.le_refl _) _) (Nat.le_refl _))
  have y2 := upC HA1.out.hb (.cells #[.int .u8 q.kd, .int .u64 q.x, .int .u64 q.y] 30)
  have HBE2 : Hid (Below w.heap.size w (w1.alloc (.cells #[.int .u8 q.kd, .int .u64 q.x, .int .u64 q.y] 30))) := hide (HBE.out.alloc HBE.out.size _)
  clear hr2
  rcases HC.out with ⟨c1, c2⟩ | ⟨c1, c2⟩ | ⟨c1, c2⟩
  · have c1b : (q.kd == 1) = false := by simpa using c1
    have c2b : (q.kd == 2) = false := by simpa using c2
    go_wp2_with fail
    exact bodyPost_ret (v := .agg #[.int .u8 8, .int .u64 0, .int .u64 0]) (by simp [results, Tryz.results57, go_sem, z1]) rfl (AskPost.mk' HA2.out HE.out (Nat.le_succ _) hbR (fun g hg => by have := HGL.out g hg; omega) (Keep.of_below HBE2.out) (fun g hg => Or.inl hg))
  · rw [c1, c2] at z1 z2 y2 HA2 HBE2
    rw [c1, c2] at x0
    go_wp2_with fail
    exact bodyPost_ret (v := .agg #[.int .u8 8, .int .u64 0, .int .u64 0]) (by simp [results, Tryz.results57, go_sem, z1]) rfl (AskPost.mk' HA2.out HE.out (Nat.le_succ _) hbR (fun g hg => by have := HGL.out g hg; omega) (Keep.of_below HBE2.out) (fun g hg => Or.inl hg))
  · rw [c1, c2] at z1 z2 y2 HA2 HBE2
    rw [c1, c2] at x0
    go_wp2_with fail
    exact bodyPost_ret (v := .agg #[.int .u8 8, .int .u64 0, .int .u64 0]) (by simp [results, Tryz.results57, go_sem, z1]) rfl (AskPost.mk' HA2.out HE.out (Nat.le_succ _) hbR (fun g hg => by have := HGL.out g hg; omega) (Keep.of_below HBE2.out) (fun g hg => Or.inl hg))
set_option maxRecDepth 100000 in
set_option maxHeartbeats 2000000 in
/-- Ask: Define, the key is there. -/
theorem ask57_exists (bb base : Nat) (lv : Value) (B : Bk) (q : Rq) (w : World) (h : BookAt w bb base lv B) (hB : B.ok) (_hq : q.ok) (ho : q.op = 1) (hs : soundM q.kd q.x q.y) (i : Nat) (hi : idx q.key B.ls = some i) :
    Calls Tryz.prog 57 #[.pointer (some ⟨bb, 0, none⟩), rqv q] w (AskPost bb base lv B q w) := by
  obtain ⟨W, hW⟩ : ∃ W, W = (w.alloc (.cells #[.int .u8 q.op, .int .u8 q.k0, .int .u8 q.k1, .int .u8 q.k2, .int .u8 q.k3, .int .u8 q.k4, .int .u8 q.k5, .int .u8 q.k6, .int .u8 q.k7, .int .u8 q.kd, .int .u64 q.x, .int .u64 q.y, .int .u64 q.n] 58)).alloc (.cells #[.int .u8 0, .int .u64 0, .int .u64 0] 40) := ⟨_, rfl⟩
  have hq0 : W.heap[w.heap.size]? = some (.cells #[.int .u8 q.op, .int .u8 q.k0, .int .u8 q.k1, .int .u8 q.k2, .int .u8 q.k3, .int .u8 q.k4, .int .u8 q.k5, .int .u8 q.k6, .int .u8 q.k7, .int .u8 q.kd, .int .u64 q.x, .int .u64 q.y, .int .u64 q.n] 58) := hW ▸ upB (heapNew _ _) _
  have hr0 : W.heap[w.heap.size + 1]? = some (.cells #[.int .u8 0, .int .u64 0, .int .u64 0] 40) := hW ▸ heapN (by simp)
  have hBW : Below w.heap.size w W := hW ▸ ((Below.refl _ w).alloc (Nat.le_refl _) _).alloc (by simp) _
  have hAW := h.below hBW (Nat.le_refl _)
  have hbl := ltB h.hb
  have hgl : ∀ g, lv.ownBlock = some g → g < w.heap.size := fun g hg => (own_ltE h.ho hg).2
  have h84 := find84 bb base lv B q.key W hAW hB.len
  have hl12 := hB.len
  have hTm := hB.time
  have hsp : (q.kd = 1 ∧ ¬ q.x = 0) ∨ (q.kd = 2 ∧ ¬ q.y = 0) := by
    unfold soundM at hs
    omega
  have HSP := hide hsp
  have em : askM B q = (B, ⟨9, 0, 0⟩) := by unfold askM; rw [if_pos ho, if_neg (fun h => h hs), hi]; rfl
  have HE := hide em
  have hii : idxI q.key B.ls = (i : Int) := by unfold idxI; rw [hi]
  rw [hii] at h84
  have hi0 : (0 : Int) ≤ (i : Int) := by omega
  clear em hs hsp hi hii
  have H84 := hide h84
  have HAW := hide hAW
  have HQ0 := hide hq0
  have HR0 := hide hr0
  have HBW := hide hBW
  have HGL := hide hgl
  have HB := hide hB
  have HH := hide h
  clear h84 hAW hq0 hr0 hBW hgl hB h
  have HO := hide ho
  clear ho
  go_enter Tryz.func57, Tryz.ntmps57
  go_wp2_with fail
  have h84 := H84.out
  rw [hW] at h84
  refine h84.mono ?_
  rw [← hW]
  rintro e w1 ⟨rfl, hb1⟩
  have hA1 := HAW.out.below hb1 (Nat.le_refl _)
  have hq1 := (hb1.block _ (ltB HQ0.out)).trans HQ0.out
  have hr1 := (hb1.block _ (ltB HR0.out)).trans HR0.out
  have x0 := cellB hq1
  have x1 := cellB hr1
  have x2 := frozenB hr1
  have y1 := cellB hA1.hb
  have HA1 := hide hA1
  have HR1 := hide hr1
  have HQ1 := hide hq1
  have HBE := hide (HBW.out.trans (hb1.mono HBW.out.size))
  have hbR : bb ≠ w.heap.size + 1 := by omega
  have hbR' : w.heap.size + 1 ≠ bb := by omega
  clear h84 hW hA1 hq1 hr1 hb1
  have ho := HO.out
  have hr2 := upB HR1.out (.cells #[.int .u8 q.kd, .int .u64 q.x, .int .u64 q.y] 30)
  have z1 := cellB hr2
  have z2 := frozenB hr2
  have HA2 : Hid (BookAt (w1.alloc (.cells #[.int .u8 q.kd, .int .u64 q.x, .int .u64 q.y] 30)) bb base _ B) := hide (HA1.out.below ((Below.refl _ w1).alloc (Nat.le_refl _) _) (Nat.le_refl _))
  have y2 := upC HA1.out.hb (.cells #[.int .u8 q.kd, .int .u64 q.x, .int .u64 q.y] 30)
  have HBE2 : Hid (Below w.heap.size w (w1.alloc (.cells #[.int .u8 q.kd, .int .u64 q.x, .int .u64 q.y] 30))) := hide (HBE.out.alloc HBE.out.size _)
  clear hr2
  rcases HSP.out with ⟨c1, c2⟩ | ⟨c1, c2⟩
  · have c2b : (q.x == 0) = false := by simpa using c2
    rw [c1] at z1 z2 y2 HA2 HBE2 x0
    go_wp2_with fail
    exact bodyPost_ret (v := .agg #[.int .u8 9, .int .u64 0, .int .u64 0]) (by simp [results, Tryz.results57, go_sem, z1]) rfl (AskPost.mk' HA2.out HE.out (Nat.le_succ _) hbR (fun g hg => by have := HGL.out g hg; omega) (Keep.of_below HBE2.out) (fun g hg => Or.inl hg))
  · have c2b : (q.y == 0) = false := by simpa using c2
    rw [c1] at z1 z2 y2 HA2 HBE2 x0
    go_wp2_with fail
    exact bodyPost_ret (v := .agg #[.int .u8 9, .int .u64 0, .int .u64 0]) (by simp [results, Tryz.results57, go_sem, z1]) rfl (AskPost.mk' HA2.out HE.out (Nat.le_succ _) hbR (fun g hg => by have := HGL.out g hg; omega) (Keep.of_below HBE2.out) (fun g hg => Or.inl hg))
set_option maxRecDepth 100000 in
set_option maxHeartbeats 2000000 in
/-- Ask: Define, there are twelve keys. -/
theorem ask57_full (bb base : Nat) (lv : Value) (B : Bk) (q : Rq) (w : World) (h : BookAt w bb base lv B) (hB : B.ok) (_hq : q.ok) (ho : q.op = 1) (hs : soundM q.kd q.x q.y) (hi : idx q.key B.ls = none) (hf : B.ls.length = 12) :
    Calls Tryz.prog 57 #[.pointer (some ⟨bb, 0, none⟩), rqv q] w (AskPost bb base lv B q w) := by
  obtain ⟨W, hW⟩ : ∃ W, W = (w.alloc (.cells #[.int .u8 q.op, .int .u8 q.k0, .int .u8 q.k1, .int .u8 q.k2, .int .u8 q.k3, .int .u8 q.k4, .int .u8 q.k5, .int .u8 q.k6, .int .u8 q.k7, .int .u8 q.kd, .int .u64 q.x, .int .u64 q.y, .int .u64 q.n] 58)).alloc (.cells #[.int .u8 0, .int .u64 0, .int .u64 0] 40) := ⟨_, rfl⟩
  have hq0 : W.heap[w.heap.size]? = some (.cells #[.int .u8 q.op, .int .u8 q.k0, .int .u8 q.k1, .int .u8 q.k2, .int .u8 q.k3, .int .u8 q.k4, .int .u8 q.k5, .int .u8 q.k6, .int .u8 q.k7, .int .u8 q.kd, .int .u64 q.x, .int .u64 q.y, .int .u64 q.n] 58) := hW ▸ upB (heapNew _ _) _
  have hr0 : W.heap[w.heap.size + 1]? = some (.cells #[.int .u8 0, .int .u64 0, .int .u64 0] 40) := hW ▸ heapN (by simp)
  have hBW : Below w.heap.size w W := hW ▸ ((Below.refl _ w).alloc (Nat.le_refl _) _).alloc (by simp) _
  have hAW := h.below hBW (Nat.le_refl _)
  have hbl := ltB h.hb
  have hgl : ∀ g, lv.ownBlock = some g → g < w.heap.size := fun g hg => (own_ltE h.ho hg).2
  have h84 := find84 bb base lv B q.key W hAW hB.len
  have hl12 := hB.len
  have hTm := hB.time
  have hsp : (q.kd = 1 ∧ ¬ q.x = 0) ∨ (q.kd = 2 ∧ ¬ q.y = 0) := by
    unfold soundM at hs
    omega
  have HSP := hide hsp
  have em : askM B q = (B, ⟨5, 0, 0⟩) := by unfold askM; rw [if_pos ho, if_neg (fun h => h hs), hi]; simp only [Option.isSome_none, Bool.false_eq_true, if_false]; rw [if_pos hf]
  have HE := hide em
  have hii : idxI q.key B.ls = -1 := by unfold idxI; rw [hi]
  rw [hii] at h84
  obtain ⟨la, lc, hlv⟩ := own_sliceE h.ho
  rw [hf] at hlv
  subst hlv
  clear em hs hsp hi hii hf
  have H84 := hide h84
  have HAW := hide hAW
  have HQ0 := hide hq0
  have HR0 := hide hr0
  have HBW := hide hBW
  have HGL := hide hgl
  have HB := hide hB
  have HH := hide h
  clear h84 hAW hq0 hr0 hBW hgl hB h
  have HO := hide ho
  clear ho
  go_enter Tryz.func57, Tryz.ntmps57
  go_wp2_with fail
  have h84 := H84.out
  rw [hW] at h84
  refine h84.mono ?_
  rw [← hW]
  rintro e w1 ⟨rfl, hb1⟩
  have hA1 := HAW.out.below hb1 (Nat.le_refl _)
  have hq1 := (hb1.block _ (ltB HQ0.out)).trans HQ0.out
  have hr1 := (hb1.block _ (ltB HR0.out)).trans HR0.out
  have x0 := cellB hq1
  have x1 := cellB hr1
  have x2 := frozenB hr1
  have y1 := cellB hA1.hb
  have HA1 := hide hA1
  have HR1 := hide hr1
  have HQ1 := hide hq1
  have HBE := hide (HBW.out.trans (hb1.mono HBW.out.size))
  have hbR : bb ≠ w.heap.size + 1 := by omega
  have hbR' : w.heap.size + 1 ≠ bb := by omega
  clear h84 hW hA1 hq1 hr1 hb1
  have ho := HO.out
  have hr2 := upB HR1.out (.cells #[.int .u8 q.kd, .int .u64 q.x, .int .u64 q.y] 30)
  have z1 := cellB hr2
  have z2 := frozenB hr2
  have HA2 : Hid (BookAt (w1.alloc (.cells #[.int .u8 q.kd, .int .u64 q.x, .int .u64 q.y] 30)) bb base _ B) := hide (HA1.out.below ((Below.refl _ w1).alloc (Nat.le_refl _) _) (Nat.le_refl _))
  have y2 := upC HA1.out.hb (.cells #[.int .u8 q.kd, .int .u64 q.x, .int .u64 q.y] 30)
  have HBE2 : Hid (Below w.heap.size w (w1.alloc (.cells #[.int .u8 q.kd, .int .u64 q.x, .int .u64 q.y] 30))) := hide (HBE.out.alloc HBE.out.size _)
  clear hr2
  rcases HSP.out with ⟨c1, c2⟩ | ⟨c1, c2⟩
  · have c2b : (q.x == 0) = false := by simpa using c2
    rw [c1] at z1 z2 y2 HA2 HBE2 x0
    go_wp2_with fail
    exact bodyPost_ret (v := .agg #[.int .u8 5, .int .u64 0, .int .u64 0]) (by simp [results, Tryz.results57, go_sem, z1]) rfl (AskPost.mk' HA2.out HE.out (Nat.le_succ _) hbR (fun g hg => by have := HGL.out g hg; omega) (Keep.of_below HBE2.out) (fun g hg => Or.inl hg))
  · have c2b : (q.y == 0) = false := by simpa using c2
    rw [c1] at z1 z2 y2 HA2 HBE2 x0
    go_wp2_with fail
    exact bodyPost_ret (v := .agg #[.int .u8 5, .int .u64 0, .int .u64 0]) (by simp [results, Tryz.results57, go_sem, z1]) rfl (AskPost.mk' HA2.out HE.out (Nat.le_succ _) hbR (fun g hg => by have := HGL.out g hg; omega) (Keep.of_below HBE2.out) (fun g hg => Or.inl hg))
set_option maxRecDepth 100000 in
set_option maxHeartbeats 2000000 in
/-- Ask: Define. -/
theorem ask57_def (bb base : Nat) (lv : Value) (B : Bk) (q : Rq) (w : World) (h : BookAt w bb base lv B) (hB : B.ok) (_hq : q.ok) (ho : q.op = 1) (hs : soundM q.kd q.x q.y) (hin : idx q.key B.ls = none) (hf : ¬ B.ls.length = 12) (hba : base ≤ w.heap.size) :
    Calls Tryz.prog 57 #[.pointer (some ⟨bb, 0, none⟩), rqv q] w (AskPost bb base lv B q w) := by
  obtain ⟨W, hW⟩ : ∃ W, W = (w.alloc (.cells #[.int .u8 q.op, .int .u8 q.k0, .int .u8 q.k1, .int .u8 q.k2, .int .u8 q.k3, .int .u8 q.k4, .int .u8 q.k5, .int .u8 q.k6, .int .u8 q.k7, .int .u8 q.kd, .int .u64 q.x, .int .u64 q.y, .int .u64 q.n] 58)).alloc (.cells #[.int .u8 0, .int .u64 0, .int .u64 0] 40) := ⟨_, rfl⟩
  have hq0 : W.heap[w.heap.size]? = some (.cells #[.int .u8 q.op, .int .u8 q.k0, .int .u8 q.k1, .int .u8 q.k2, .int .u8 q.k3, .int .u8 q.k4, .int .u8 q.k5, .int .u8 q.k6, .int .u8 q.k7, .int .u8 q.kd, .int .u64 q.x, .int .u64 q.y, .int .u64 q.n] 58) := hW ▸ upB (heapNew _ _) _
  have hr0 : W.heap[w.heap.size + 1]? = some (.cells #[.int .u8 0, .int .u64 0, .int .u64 0] 40) := hW ▸ heapN (by simp)
  have hBW : Below w.heap.size w W := hW ▸ ((Below.refl _ w).alloc (Nat.le_refl _) _).alloc (by simp) _
  have hAW := h.below hBW (Nat.le_refl _)
  have hbl := ltB h.hb
  have hgl : ∀ g, lv.ownBlock = some g → g < w.heap.size := fun g hg => (own_ltE h.ho hg).2
  have h84 := find84 bb base lv B q.key W hAW hB.len
  have hl12 := hB.len
  have hTm := hB.time
  have hsp : (q.kd = 1 ∧ ¬ q.x = 0) ∨ (q.kd = 2 ∧ ¬ q.y = 0) := by
    unfold soundM at hs
    omega
  have HSP := hide hsp
  have em : askM B q = (⟨B.time, B.ls ++ [⟨q.key, q.kd, q.x, q.y, 0, 0⟩]⟩, ⟨1, 0, 0⟩) := by unfold askM; rw [if_pos ho, if_neg (fun h => h hs), hin]; simp only [Option.isSome_none, Bool.false_eq_true, if_false]; rw [if_neg hf]
  have HE := hide em
  have hii : idxI q.key B.ls = -1 := by unfold idxI; rw [hin]
  rw [hii] at h84
  obtain ⟨la, lc, hlv⟩ := own_sliceE h.ho
  obtain ⟨m, hm⟩ : ∃ m, m = B.ls.length := ⟨_, rfl⟩
  rw [← hm] at hlv
  have hf2 : ¬ (m : Int) = 12 := by omega
  have hf3 : ((m : Int) == 12) = false := by simpa using hf2
  have hm12 : m ≤ 12 := by omega
  subst hlv
  have HM := hide hm
  have HBA := hide hba
  obtain ⟨i0, hi, hz0, hz1, hz2⟩ := info_parts Tryz.info139
  clear em hs hsp hii hf hm hl12 hba
  have H84 := hide h84
  have HAW := hide hAW
  have HQ0 := hide hq0
  have HR0 := hide hr0
  have HBW := hide hBW
  have HGL := hide hgl
  have HB := hide hB
  have HH := hide h
  clear h84 hAW hq0 hr0 hBW hgl hB h
  have HO := hide ho
  clear ho
  go_enter Tryz.func57, Tryz.ntmps57
  go_wp2_with fail
  have h84 := H84.out
  rw [hW] at h84
  refine h84.mono ?_
  rw [← hW]
  rintro e w1 ⟨rfl, hb1⟩
  have hA1 := HAW.out.below hb1 (Nat.le_refl _)
  have hq1 := (hb1.block _ (ltB HQ0.out)).trans HQ0.out
  have hr1 := (hb1.block _ (ltB HR0.out)).trans HR0.out
  have x0 := cellB hq1
  have x1 := cellB hr1
  have x2 := frozenB hr1
  have y1 := cellB hA1.hb
  have HA1 := hide hA1
  have HR1 := hide hr1
  have HQ1 := hide hq1
  have HBE := hide (HBW.out.trans (hb1.mono HBW.out.size))
  have hbR : bb ≠ w.heap.size + 1 := by omega
  have hbR' : w.heap.size + 1 ≠ bb := by omega
  clear h84 hW hA1 hq1 hr1 hb1
  have ho := HO.out
  have hr2 := upB HR1.out (.cells #[.int .u8 q.kd, .int .u64 q.x, .int .u64 q.y] 30)
  have z1 := cellB hr2
  have z2 := frozenB hr2
  have HA2 : Hid (BookAt (w1.alloc (.cells #[.int .u8 q.kd, .int .u64 q.x, .int .u64 q.y] 30)) bb base _ B) := hide (HA1.out.below ((Below.refl _ w1).alloc (Nat.le_refl _) _) (Nat.le_refl _))
  have y2 := upC HA1.out.hb (.cells #[.int .u8 q.kd, .int .u64 q.x, .int .u64 q.y] 30)
  have HBE2 : Hid (Below w.heap.size w (w1.alloc (.cells #[.int .u8 q.kd, .int .u64 q.x, .int .u64 q.y] 30))) := hide (HBE.out.alloc HBE.out.size _)
  clear hr2
  rcases HSP.out with ⟨c1, c2⟩ | ⟨c1, c2⟩
  · have c2b : (q.x == 0) = false := by simpa using c2
    rw [c1] at z1 z2 y2 HA2 HBE2 x0 HQ1
    go_wp2_with fail
    obtain ⟨V, hV⟩ : ∃ V, V = w1.alloc (.cells #[.int .u8 1, .int .u64 q.x, .int .u64 q.y] 30) := ⟨_, rfl⟩
    have hpx : V.heap[w1.heap.size]? = some (.cells #[.int .u8 1, .int .u64 q.x, .int .u64 q.y] 30) := hV ▸ heapNew _ _
    have hqx : V.heap[w.heap.size]? = w1.heap[w.heap.size]? := hV ▸ heapOld _ _ (ltB HQ1.out)
    have hqx2 := hqx.trans HQ1.out
    have hrx : V.heap[w.heap.size + 1]? = some (.cells #[.int .u8 0, .int .u64 0, .int .u64 0] 40) := hV ▸ upB HR1.out _
    have hAV : BookAt V bb base (.slice la m lc) B := hV ▸ HA2.out
    have hBV : Below w.heap.size w V := hV ▸ HBE2.out
    rw [← hV]
    clear hV z1 z2 y2 x0 x1 x2 y1 hqx
    obtain ⟨pb, hpb⟩ : ∃ pb, pb = w1.heap.size := ⟨_, rfl⟩
    rw [← hpb] at hpx ⊢
    have t0 := cellB hAV.hb 0
    have t1 := cellB hqx2 1
    have t2 := cellB hqx2 2
    have t3 := cellB hqx2 3
    have t4 := cellB hqx2 4
    have t5 := cellB hqx2 5
    have t6 := cellB hqx2 6
    have t7 := cellB hqx2 7
    have t8 := cellB hqx2 8
    have t9 := cellB hpx
    have t10 := upC hAV.hb (.cells #[.int .u8 q.k0, .int .u8 q.k1, .int .u8 q.k2, .int .u8 q.k3, .int .u8 q.k4, .int .u8 q.k5, .int .u8 q.k6, .int .u8 q.k7, .int .u8 1, .int .u64 q.x, .int .u64 q.y, .int .u64 0, .int .u64 0] 139) 0
    have HLT : Hid (bb < (V.alloc (.cells #[.int .u8 q.k0, .int .u8 q.k1, .int .u8 q.k2, .int .u8 q.k3, .int .u8 q.k4, .int .u8 q.k5, .int .u8 q.k6, .int .u8 q.k7, .int .u8 1, .int .u64 q.x, .int .u64 q.y, .int .u64 0, .int .u64 0] 139)).drew.heap.size) := hide (by show bb < (V.alloc _).heap.size; rw [World.size_alloc]; exact Nat.lt_succ_of_lt (ltB hAV.hb))
    have HAV := hide hAV
    have HBV := hide hBV
    have HRX := hide hrx
    have hbN : bb ≠ V.heap.size := Nat.ne_of_lt (ltB hAV.hb)
    have HBN := hide hbN
    have HOWN : Hid ((V.alloc (.cells #[.int .u8 q.k0, .int .u8 q.k1, .int .u8 q.k2, .int .u8 q.k3, .int .u8 q.k4, .int .u8 q.k5, .int .u8 q.k6, .int .u8 q.k7, .int .u8 1, .int .u64 q.x, .int .u64 q.y, .int .u64 0, .int .u64 0] 139)).drew.ownsRow base 139 13 (.slice la m lc) m (lncs B.ls)) := hide (by
      have h0 := hAV.ho
      rw [← HM.out] at h0
      exact own_keptE h0 (fun z hz => heapOld _ _ (own_ltE h0 hz).2))
    have HCL : Hid (∀ j u, (lnc ⟨q.key, 1, q.x, q.y, 0, 0⟩)[j]? = some u → (V.alloc (.cells #[.int .u8 q.k0, .int .u8 q.k1, .int .u8 q.k2, .int .u8 q.k3, .int .u8 q.k4, .int .u8 q.k5, .int .u8 q.k6, .int .u8 q.k7, .int .u8 1, .int .u64 q.x, .int .u64 q.y, .int .u64 0, .int .u64 0] 139)).drew.cell? ((⟨V.heap.size, 0, none⟩ : Addr).add j) = some u) := hide (fun j u hj => by
      rw [Addr.add_lit, Nat.zero_add]
      refine (cellB (heapNew V (.cells #[.int .u8 q.k0, .int .u8 q.k1, .int .u8 q.k2, .int .u8 q.k3, .int .u8 q.k4, .int .u8 q.k5, .int .u8 q.k6, .int .u8 q.k7, .int .u8 1, .int .u64 q.x, .int .u64 q.y, .int .u64 0, .int .u64 0] 139)) j).trans ?_
      rw [← hj]
      simp [lnc, Rq.key])
    have HBS : Hid (base ≤ (V.alloc (.cells #[.int .u8 q.k0, .int .u8 q.k1, .int .u8 q.k2, .int .u8 q.k3, .int .u8 q.k4, .int .u8 q.k5, .int .u8 q.k6, .int .u8 q.k7, .int .u8 1, .int .u64 q.x, .int .u64 q.y, .int .u64 0, .int .u64 0] 139)).drew.heap.size) := hide (by show base ≤ (V.alloc _).heap.size; rw [World.size_alloc]; have := HBA.out; have := hBV.size; omega)
    have hbb4 := HAV.out.hb
    clear hAV hBV hrx hpx hqx2 hpb hbN
    go_cut [] (fun wx => ∃ ya yc, BookAt wx bb base (.slice ya (m + 1) yc) ⟨B.time, B.ls ++ [⟨q.key, 1, q.x, q.y, 0, 0⟩]⟩ ∧ wx.heap[w.heap.size + 1]? = some (.cells #[.int .u8 0, .int .u64 0, .int .u64 0] 40) ∧ Keep (fun b => b = bb ∨ (Value.slice la m lc).ownBlock = some b) w wx ∧ (∀ g, (Value.slice ya (m + 1) yc).ownBlock = some g → (Value.slice la m lc).ownBlock = some g ∨ w.heap.size ≤ g))
    case first =>
      go_region_law (refine step_append_any (by rfl) _ _ 51 139 i0 ZL 13 48 Tryz.underlying51 hi hz0 hz1 hz2 (by rfl) (by decide) (by rfl) base (.slice la m lc) m (lncs B.ls) (by rfl) HOWN.out ⟨V.heap.size, 0, none⟩ 1 1 (lnc ⟨q.key, 1, q.x, q.y, 0, 0⟩) (by rfl) (by rfl) HCL.out (by simp [lnc, Value.oneCell']) (by omega) (by omega) HBS.out ?_; intro v5 w4 hown4 hgr4 hloc4; obtain ⟨ya, yc, hyw⟩ := own_sliceE hown4; subst hyw; have hh4 := ((hgr4.block bb HLT.out (fun e => own_neE HAV.out.ho e.symm hbb4 (by decide) rfl)).trans (heapOld V _ (ltB hbb4))).trans hbb4; have d1 := cellB hh4; have d2 := frozenB hh4)
      all_goals have hend := def_end (V := V) (X := (V.alloc (.cells #[.int .u8 q.k0, .int .u8 q.k1, .int .u8 q.k2, .int .u8 q.k3, .int .u8 q.k4, .int .u8 q.k5, .int .u8 q.k6, .int .u8 q.k7, .int .u8 1, .int .u64 q.x, .int .u64 q.y, .int .u64 0, .int .u64 0] 139)).drew) (R := w.heap.size + 1) HAV.out HM.out (fun k hk => heapOld V _ hk) (World.size_alloc V _) ⟨rfl, rfl, rfl⟩ hown4 hgr4 hloc4 HBV.out HRX.out hbR' (fun e => by have := HGL.out _ e; omega)
      all_goals (go_wp2_with fail; go_meet)
      all_goals exact ⟨_, _, hend⟩
    case rest =>
      obtain ⟨ya, yc, g1, g2, g3, g4⟩ := hcut
      have u1 := cellB g2
      have u2 := frozenB g2
      have HG1 := hide g1
      have HG2 := hide g2
      have HG3 := hide g3
      have HG4 := hide g4
      have HE2 := HE.out
      rw [c1] at HE2
      have HE3 := hide HE2
      clear g1 g2 g3 g4 t0 t1 t2 t3 t4 t5 t6 t7 t8 t9 t10 HE2
      go_wp2_with fail
      exact bodyPost_ret (v := .agg #[.int .u8 1, .int .u64 0, .int .u64 0]) (by simp [results, Tryz.results57, go_sem, u1]) rfl (AskPost.mk' HG1.out HE3.out (Nat.le_succ _) hbR (fun g hg => own_neE HG1.out.ho hg HG2.out (by decide)) HG3.out HG4.out)
  · have c2b : (q.y == 0) = false := by simpa using c2
    rw [c1] at z1 z2 y2 HA2 HBE2 x0 HQ1
    go_wp2_with fail
    obtain ⟨V, hV⟩ : ∃ V, V = w1.alloc (.cells #[.int .u8 2, .int .u64 q.x, .int .u64 q.y] 30) := ⟨_, rfl⟩
    have hpx : V.heap[w1.heap.size]? = some (.cells #[.int .u8 2, .int .u64 q.x, .int .u64 q.y] 30) := hV ▸ heapNew _ _
    have hqx : V.heap[w.heap.size]? = w1.heap[w.heap.size]? := hV ▸ heapOld _ _ (ltB HQ1.out)
    have hqx2 := hqx.trans HQ1.out
    have hrx : V.heap[w.heap.size + 1]? = some (.cells #[.int .u8 0, .int .u64 0, .int .u64 0] 40) := hV ▸ upB HR1.out _
    have hAV : BookAt V bb base (.slice la m lc) B := hV ▸ HA2.out
    have hBV : Below w.heap.size w V := hV ▸ HBE2.out
    rw [← hV]
    clear hV z1 z2 y2 x0 x1 x2 y1 hqx
    obtain ⟨pb, hpb⟩ : ∃ pb, pb = w1.heap.size := ⟨_, rfl⟩
    rw [← hpb] at hpx ⊢
    have t0 := cellB hAV.hb 0
    have t1 := cellB hqx2 1
    have t2 := cellB hqx2 2
    have t3 := cellB hqx2 3
    have t4 := cellB hqx2 4
    have t5 := cellB hqx2 5
    have t6 := cellB hqx2 6
    have t7 := cellB hqx2 7
    have t8 := cellB hqx2 8
    have t9 := cellB hpx
    have t10 := upC hAV.hb (.cells #[.int .u8 q.k0, .int .u8 q.k1, .int .u8 q.k2, .int .u8 q.k3, .int .u8 q.k4, .int .u8 q.k5, .int .u8 q.k6, .int .u8 q.k7, .int .u8 2, .int .u64 q.x, .int .u64 q.y, .int .u64 0, .int .u64 0] 139) 0
    have HLT : Hid (bb < (V.alloc (.cells #[.int .u8 q.k0, .int .u8 q.k1, .int .u8 q.k2, .int .u8 q.k3, .int .u8 q.k4, .int .u8 q.k5, .int .u8 q.k6, .int .u8 q.k7, .int .u8 2, .int .u64 q.x, .int .u64 q.y, .int .u64 0, .int .u64 0] 139)).drew.heap.size) := hide (by show bb < (V.alloc _).heap.size; rw [World.size_alloc]; exact Nat.lt_succ_of_lt (ltB hAV.hb))
    have HAV := hide hAV
    have HBV := hide hBV
    have HRX := hide hrx
    have hbN : bb ≠ V.heap.size := Nat.ne_of_lt (ltB hAV.hb)
    have HBN := hide hbN
    have HOWN : Hid ((V.alloc (.cells #[.int .u8 q.k0, .int .u8 q.k1, .int .u8 q.k2, .int .u8 q.k3, .int .u8 q.k4, .int .u8 q.k5, .int .u8 q.k6, .int .u8 q.k7, .int .u8 2, .int .u64 q.x, .int .u64 q.y, .int .u64 0, .int .u64 0] 139)).drew.ownsRow base 139 13 (.slice la m lc) m (lncs B.ls)) := hide (by
      have h0 := hAV.ho
      rw [← HM.out] at h0
      exact own_keptE h0 (fun z hz => heapOld _ _ (own_ltE h0 hz).2))
    have HCL : Hid (∀ j u, (lnc ⟨q.key, 2, q.x, q.y, 0, 0⟩)[j]? = some u → (V.alloc (.cells #[.int .u8 q.k0, .int .u8 q.k1, .int .u8 q.k2, .int .u8 q.k3, .int .u8 q.k4, .int .u8 q.k5, .int .u8 q.k6, .int .u8 q.k7, .int .u8 2, .int .u64 q.x, .int .u64 q.y, .int .u64 0, .int .u64 0] 139)).drew.cell? ((⟨V.heap.size, 0, none⟩ : Addr).add j) = some u) := hide (fun j u hj => by
      rw [Addr.add_lit, Nat.zero_add]
      refine (cellB (heapNew V (.cells #[.int .u8 q.k0, .int .u8 q.k1, .int .u8 q.k2, .int .u8 q.k3, .int .u8 q.k4, .int .u8 q.k5, .int .u8 q.k6, .int .u8 q.k7, .int .u8 2, .int .u64 q.x, .int .u64 q.y, .int .u64 0, .int .u64 0] 139)) j).trans ?_
      rw [← hj]
      simp [lnc, Rq.key])
    have HBS : Hid (base ≤ (V.alloc (.cells #[.int .u8 q.k0, .int .u8 q.k1, .int .u8 q.k2, .int .u8 q.k3, .int .u8 q.k4, .int .u8 q.k5, .int .u8 q.k6, .int .u8 q.k7, .int .u8 2, .int .u64 q.x, .int .u64 q.y, .int .u64 0, .int .u64 0] 139)).drew.heap.size) := hide (by show base ≤ (V.alloc _).heap.size; rw [World.size_alloc]; have := HBA.out; have := hBV.size; omega)
    have hbb4 := HAV.out.hb
    clear hAV hBV hrx hpx hqx2 hpb hbN
    go_cut [] (fun wx => ∃ ya yc, BookAt wx bb base (.slice ya (m + 1) yc) ⟨B.time, B.ls ++ [⟨q.key, 2, q.x, q.y, 0, 0⟩]⟩ ∧ wx.heap[w.heap.size + 1]? = some (.cells #[.int .u8 0, .int .u64 0, .int .u64 0] 40) ∧ Keep (fun b => b = bb ∨ (Value.slice la m lc).ownBlock = some b) w wx ∧ (∀ g, (Value.slice ya (m + 1) yc).ownBlock = some g → (Value.slice la m lc).ownBlock = some g ∨ w.heap.size ≤ g))
    case first =>
      go_region_law (refine step_append_any (by rfl) _ _ 51 139 i0 ZL 13 48 Tryz.underlying51 hi hz0 hz1 hz2 (by rfl) (by decide) (by rfl) base (.slice la m lc) m (lncs B.ls) (by rfl) HOWN.out ⟨V.heap.size, 0, none⟩ 1 1 (lnc ⟨q.key, 2, q.x, q.y, 0, 0⟩) (by rfl) (by rfl) HCL.out (by simp [lnc, Value.oneCell']) (by omega) (by omega) HBS.out ?_; intro v5 w4 hown4 hgr4 hloc4; obtain ⟨ya, yc, hyw⟩ := own_sliceE hown4; subst hyw; have hh4 := ((hgr4.block bb HLT.out (fun e => own_neE HAV.out.ho e.symm hbb4 (by decide) rfl)).trans (heapOld V _ (ltB hbb4))).trans hbb4; have d1 := cellB hh4; have d2 := frozenB hh4)
      all_goals have hend := def_end (V := V) (X := (V.alloc (.cells #[.int .u8 q.k0, .int .u8 q.k1, .int .u8 q.k2, .int .u8 q.k3, .int .u8 q.k4, .int .u8 q.k5, .int .u8 q.k6, .int .u8 q.k7, .int .u8 2, .int .u64 q.x, .int .u64 q.y, .int .u64 0, .int .u64 0] 139)).drew) (R := w.heap.size + 1) HAV.out HM.out (fun k hk => heapOld V _ hk) (World.size_alloc V _) ⟨rfl, rfl, rfl⟩ hown4 hgr4 hloc4 HBV.out HRX.out hbR' (fun e => by have := HGL.out _ e; omega)
      all_goals (go_wp2_with fail; go_meet)
      all_goals exact ⟨_, _, hend⟩
    case rest =>
      obtain ⟨ya, yc, g1, g2, g3, g4⟩ := hcut
      have u1 := cellB g2
      have u2 := frozenB g2
      have HG1 := hide g1
      have HG2 := hide g2
      have HG3 := hide g3
      have HG4 := hide g4
      have HE2 := HE.out
      rw [c1] at HE2
      have HE3 := hide HE2
      clear g1 g2 g3 g4 t0 t1 t2 t3 t4 t5 t6 t7 t8 t9 t10 HE2
      go_wp2_with fail
      exact bodyPost_ret (v := .agg #[.int .u8 1, .int .u64 0, .int .u64 0]) (by simp [results, Tryz.results57, go_sem, u1]) rfl (AskPost.mk' HG1.out HE3.out (Nat.le_succ _) hbR (fun g hg => own_neE HG1.out.ho hg HG2.out (by decide)) HG3.out HG4.out)
end Go.Proofs.YtlamgpeiolfffaaGreatDoor
