import Derived.Test.YtlamgpeiolfffaaGreatDoorZz20
import Derived.Deep.AppendLies
import Derived.Test.YtlamgpeiolfffaaGreatDoorZz13
namespace Go.Proofs.YtlamgpeiolfffaaGreatDoor
open Go.RowKit

structure Ln.ok (l : Ln) : Prop where
  kd : soundM l.kd l.x l.y
  x : 0 ≤ l.x ∧ l.x ≤ 18446744073709551615
  y : 0 ≤ l.y ∧ l.y ≤ 18446744073709551615
  at_ : 0 ≤ l.at_ ∧ l.at_ ≤ 18446744073709551615
  in_ : 0 ≤ l.in_ ∧ l.in_ ≤ 18446744073709551615
theorem Ln.ok.yp {l : Ln} (h : l.ok) (hk : ¬ l.kd = 1) : 1 ≤ l.y := by rcases h.kd with h | h; exact absurd h.1 hk; exact h.2

/-- A line's cells. -/
structure LnAt (w : World) (g i : Nat) (l : Ln) : Prop where
  c0 : w.cell? ⟨g, i * 13, none⟩ = some (.int .u8 l.k.k0)
  c1 : w.cell? ⟨g, i * 13 + 1, none⟩ = some (.int .u8 l.k.k1)
  c2 : w.cell? ⟨g, i * 13 + 2, none⟩ = some (.int .u8 l.k.k2)
  c3 : w.cell? ⟨g, i * 13 + 3, none⟩ = some (.int .u8 l.k.k3)
  c4 : w.cell? ⟨g, i * 13 + 4, none⟩ = some (.int .u8 l.k.k4)
  c5 : w.cell? ⟨g, i * 13 + 5, none⟩ = some (.int .u8 l.k.k5)
  c6 : w.cell? ⟨g, i * 13 + 6, none⟩ = some (.int .u8 l.k.k6)
  c7 : w.cell? ⟨g, i * 13 + 7, none⟩ = some (.int .u8 l.k.k7)
  c8 : w.cell? ⟨g, i * 13 + 8, none⟩ = some (.int .u8 l.kd)
  c9 : w.cell? ⟨g, i * 13 + 9, none⟩ = some (.int .u64 l.x)
  c10 : w.cell? ⟨g, i * 13 + 10, none⟩ = some (.int .u64 l.y)
  c11 : w.cell? ⟨g, i * 13 + 11, none⟩ = some (.int .u64 l.at_)
  c12 : w.cell? ⟨g, i * 13 + 12, none⟩ = some (.int .u64 l.in_)
theorem BookAt.line {w : World} {bb base g cap n : Nat} {B : Bk} (h : BookAt w bb base (.slice (some ⟨g, 0, none⟩) n cap) B) {i : Nat} {l : Ln} (hi : B.ls[i]? = some l) : LnAt w g i l := by
  obtain ⟨hlt, rfl⟩ := List.getElem?_eq_some_iff.1 hi
  have c := h.cells i hlt
  exact ⟨c 0 (by omega), c 1 (by omega), c 2 (by omega), c 3 (by omega), c 4 (by omega), c 5 (by omega), c 6 (by omega), c 7 (by omega), c 8 (by omega), c 9 (by omega), c 10 (by omega), c 11 (by omega), c 12 (by omega)⟩
theorem BookAt.open {w : World} {bb base : Nat} {lv : Value} {B : Bk} (h : BookAt w bb base lv B) {i : Nat} {l : Ln} (hi : B.ls[i]? = some l) : ∃ g cap, lv = .slice (some ⟨g, 0, none⟩) B.ls.length cap ∧ base ≤ g ∧ g < w.heap.size ∧ LnAt w g i l ∧ i < B.ls.length := by
  have hlt := (List.getElem?_eq_some_iff.1 hi).1
  obtain ⟨g, cap, hv, hg, hgl⟩ := h.ho.form (by omega)
  subst hv
  exact ⟨g, cap, rfl, hg, hgl, h.line hi, hlt⟩

set_option maxRecDepth 100000 in
set_option maxHeartbeats 2000000 in
theorem stands85 (bb base : Nat) (lv : Value) (B : Bk) (i : Nat) (l : Ln) (w : World) (h : BookAt w bb base lv B) (hi : B.ls[i]? = some l) (hl : B.ls.length ≤ 12) (ho : l.ok) (hT : 0 ≤ B.time ∧ B.time ≤ 18446744073709551615) :
    Calls Tryz.prog 85 #[.pointer (some ⟨bb, 0, none⟩), .int .i64 i] w fun e w' => e = .returned (.tuple #[.int .u64 (standsM B.time l).1, .int .u64 (standsM B.time l).2]) ∧ Below w.heap.size w w' := by
  obtain ⟨g, cap, rfl, _, hgl, L, hlt⟩ := h.open hi
  obtain ⟨d0, d1, d2, d3, d4, d5, d6, d7, d8, d9, d10, d11, d12⟩ := L
  have a1 := cellB h.hb
  have hbl := ltB h.hb
  have hlt' : (i : Int) < (B.ls.length : Int) := by omega
  have hl' : (B.ls.length : Int) ≤ 12 := by omega
  have hi0 : (0 : Int) ≤ (i : Int) := by omega
  obtain ⟨n, hn⟩ : ∃ n, n = B.ls.length := ⟨_, rfl⟩
  have b1 := fun o => upC h.hb o 1
  rw [← hn] at hlt' hl' a1 b1
  have HH := hide h
  have HO := hide ho
  clear h hl hi hn hlt
  by_cases hk : l.kd = 1
  · have e : standsM B.time l = (l.at_, 0) := by unfold standsM; rw [if_pos hk]
    rw [e]
    rw [hk] at d8
    clear e
    go_enter Tryz.func85, Tryz.ntmps85
    go_wp2_with fail
    go_ret2
    exact ⟨rfl, (Below.refl _ w).alloc (Nat.le_refl _) _⟩
  · have hy := HO.out.yp hk
    have hyr := HO.out.y
    have hkb : (l.kd == 1) = false := by simpa using hk
    have hdt : B.time.tdiv l.y = B.time / l.y := Int.tdiv_eq_ediv_of_nonneg (by omega)
    have hd0 : 0 ≤ B.time / l.y := Int.ediv_nonneg (by omega) (by omega)
    have hd1 : B.time / l.y ≤ B.time := Int.ediv_le_self _ (by omega)
    have hdw : IntKind.u64.wrap (B.time / l.y) = B.time / l.y := by rw [IntKind.wrap_u64]; omega
    have hyn : ¬ l.y = 0 := by omega
    obtain ⟨q, hq⟩ : ∃ q, q = B.time / l.y := ⟨_, rfl⟩
    by_cases hin : l.in_ = B.time / l.y
    · have e : standsM B.time l = (l.at_, q) := by unfold standsM; rw [if_neg hk, if_pos hin, hq]
      rw [e]
      rw [← hq] at hdt hdw hin
      have hinb : (l.in_ == q) = true := by simpa using hin
      clear e hd0 hd1 hin hq
      go_enter Tryz.func85, Tryz.ntmps85
      go_wp2_with fail
      go_region
      all_goals go_wp2
      all_goals go_ret2
      all_goals exact ⟨rfl, ((Below.refl _ w).alloc (Nat.le_refl _) _).drew⟩
    · have e : standsM B.time l = (0, q) := by unfold standsM; rw [if_neg hk, if_neg hin, hq]
      rw [e]
      rw [← hq] at hdt hdw hin
      have hinb : (l.in_ == q) = false := by simpa using hin
      clear e hd0 hd1 hin hq
      go_enter Tryz.func85, Tryz.ntmps85
      go_wp2_with fail
      go_region
      all_goals go_wp2
      all_goals go_ret2
      all_goals exact ⟨rfl, ((Below.refl _ w).alloc (Nat.le_refl _) _).drew⟩

theorem BookAt.kept {w w' : World} {bb base : Nat} {lv : Value} {B : Bk} (h : BookAt w bb base lv B) (hk : ∀ k, k = bb ∨ lv.ownBlock = some k → w'.heap[k]? = w.heap[k]?) : BookAt w' bb base lv B :=
  ⟨(hk bb (Or.inl rfl)).trans h.hb, own_keptE h.ho (fun g hg => hk g (Or.inr hg))⟩
theorem BookAt.below {w w' : World} {bb base : Nat} {lv : Value} {B : Bk} (h : BookAt w bb base lv B) {N : Nat} (hb : Below N w w') (hN : w.heap.size ≤ N) : BookAt w' bb base lv B :=
  h.kept (fun k hk => hb.block k (Nat.lt_of_lt_of_le (by rcases hk with rfl | hk; exact ltB h.hb; exact (own_ltE h.ho hk).2) hN))

/-- Time goes on. -/
def tellM (B : Bk) (now : Int) : Bk := ⟨if B.time < now then now else B.time, B.ls⟩
set_option maxRecDepth 100000 in
theorem tell50 (bb base : Nat) (lv : Value) (B : Bk) (now : Int) (w : World) (h : BookAt w bb base lv B) :
    Calls Tryz.prog 50 #[.pointer (some ⟨bb, 0, none⟩), .int .u64 now] w fun e w' => e = .returned (.tuple #[]) ∧ BookAt w' bb base lv (tellM B now) ∧ Keep (fun b => b = bb) w w' := by
  have a1 := cellB h.hb
  have a2 := frozenB h.hb
  have hne : ∀ g, lv.ownBlock = some g → g ≠ bb := fun g hg => own_neE h.ho hg h.hb (by decide)
  obtain ⟨a, c, rfl⟩ := own_sliceE h.ho
  by_cases ht : B.time < now
  · have e : tellM B now = ⟨now, B.ls⟩ := by unfold tellM; rw [if_pos ht]
    rw [e]
    have HH := hide h
    have HN := hide hne
    clear h hne e
    go_enter Tryz.func50, Tryz.ntmps50
    go_wp2
    go_end0
    refine ⟨rfl, ⟨by simpa using heapSet HH.out.hb 1 (.int .u64 now), own_keptE HH.out.ho (fun g hg => heapSetO (HN.out g hg) _ _)⟩, ?_⟩
    exact Keep.set (S := fun b => b = bb) (b := bb) (Keep.refl _ w) (Or.inl rfl) _ _
  · have e : tellM B now = B := by unfold tellM; rw [if_neg ht]
    rw [e]
    have HH := hide h
    clear h hne e
    go_enter Tryz.func50, Tryz.ntmps50
    go_wp2
    go_end0
    exact ⟨rfl, HH.out, Keep.refl _ _⟩
end Go.Proofs.YtlamgpeiolfffaaGreatDoor

namespace Go.Proofs.YtlamgpeiolfffaaGreatDoor
open Go.RowKit

structure Bk.ok (B : Bk) : Prop where
  time : 0 ≤ B.time ∧ B.time ≤ 18446744073709551615
  len : B.ls.length ≤ 12
  ln : ∀ l ∈ B.ls, l.ok
/-- A request's cells. -/
abbrev rqv (q : Rq) : Value := .agg #[.int .u8 q.op, .int .u8 q.k0, .int .u8 q.k1, .int .u8 q.k2, .int .u8 q.k3, .int .u8 q.k4, .int .u8 q.k5, .int .u8 q.k6, .int .u8 q.k7, .int .u8 q.kd, .int .u64 q.x, .int .u64 q.y, .int .u64 q.n]
/-- What Ask leaves. -/
def AskPost (bb base : Nat) (lv : Value) (B : Bk) (q : Rq) (w : World) (e : Ending) (w' : World) : Prop :=
  ∃ lv', e = .returned (.agg #[.int .u8 (askM B q).2.c, .int .u64 (askM B q).2.a, .int .u64 (askM B q).2.b]) ∧ BookAt w' bb base lv' (askM B q).1 ∧ Keep (fun b => b = bb ∨ lv.ownBlock = some b) w w' ∧ (∀ g, lv'.ownBlock = some g → lv.ownBlock = some g ∨ w.heap.size ≤ g)

theorem AskPost.mk' {w u : World} {bb base : Nat} {lv lv' : Value} {B B' : Bk} {q : Rq} {c a b : Int} {R : Nat} (h : BookAt u bb base lv' B') (he : askM B q = (B', ⟨c, a, b⟩)) (hR : w.heap.size ≤ R) (h1 : bb ≠ R) (h2 : ∀ g, lv'.ownBlock = some g → g ≠ R) (hk : Keep (fun b => b = bb ∨ lv.ownBlock = some b) w u) (hl : ∀ g, lv'.ownBlock = some g → lv.ownBlock = some g ∨ w.heap.size ≤ g) :
    AskPost bb base lv B q w (.returned (.agg #[.int .u8 c, .int .u64 a, .int .u64 b])) (((u.setCell ⟨R, 0, none⟩ (.int .u8 c)).setCell ⟨R, 1, none⟩ (.int .u64 a)).setCell ⟨R, 2, none⟩ (.int .u64 b)) := by
  refine ⟨lv', by rw [he], ?_, ((hk.set (Or.inr hR) _ _).set (Or.inr hR) _ _).set (Or.inr hR) _ _, hl⟩
  rw [he]
  refine h.kept (fun k hk => ?_)
  have hne : k ≠ R := by
    rcases hk with rfl | hk
    · exact h1
    · exact h2 k hk
  rw [heapSetO hne, heapSetO hne, heapSetO hne]

set_option maxRecDepth 100000 in
set_option maxHeartbeats 2000000 in
/-- Ask: Snapshot. -/
theorem ask57_5 (bb base : Nat) (lv : Value) (B : Bk) (q : Rq) (w : World) (h : BookAt w bb base lv B) (hB : B.ok) (_hq : q.ok) (ho : q.op = 5) :
    Calls Tryz.prog 57 #[.pointer (some ⟨bb, 0, none⟩), rqv q] w (AskPost bb base lv B q w) := by
  obtain ⟨W, hW⟩ : ∃ W, W = (w.alloc (.cells #[.int .u8 q.op, .int .u8 q.k0, .int .u8 q.k1, .int .u8 q.k2, .int .u8 q.k3, .int .u8 q.k4, .int .u8 q.k5, .int .u8 q.k6, .int .u8 q.k7, .int .u8 q.kd, .int .u64 q.x, .int .u64 q.y, .int .u64 q.n] 58)).alloc (.cells #[.int .u8 0, .int .u64 0, .int .u64 0] 40) := ⟨_, rfl⟩
  have hq0 : W.heap[w.heap.size]? = some (.cells #[.int .u8 q.op, .int .u8 q.k0, .int .u8 q.k1, .int .u8 q.k2, .int .u8 q.k3, .int .u8 q.k4, .int .u8 q.k5, .int .u8 q.k6, .int .u8 q.k7, .int .u8 q.kd, .int .u64 q.x, .int .u64 q.y, .int .u64 q.n] 58) := hW ▸ upB (heapNew _ _) _
  have hr0 : W.heap[w.heap.size + 1]? = some (.cells #[.int .u8 0, .int .u64 0, .int .u64 0] 40) := hW ▸ heapN (by simp)
  have hBW : Below w.heap.size w W := hW ▸ ((Below.refl _ w).alloc (Nat.le_refl _) _).alloc (by simp) _
  have hAW := h.below hBW (Nat.le_refl _)
  have hbl := ltB h.hb
  have hgl : ∀ g, lv.ownBlock = some g → g < w.heap.size := fun g hg => (own_ltE h.ho hg).2
  have h84 := find84 bb base lv B q.key W hAW hB.len
  have hl12 := hB.len
  have hTm := hB.time
  have em : askM B q = (B, ⟨1, 0, 0⟩) := by unfold askM; rw [if_neg (by omega), if_pos ho]
  have HE := hide em
  clear em
  have H84 := hide h84
  have HAW := hide hAW
  have HQ0 := hide hq0
  have HR0 := hide hr0
  have HBW := hide hBW
  have HGL := hide hgl
  have HB := hide hB
  have HH := hide h
  clear h84 hAW hq0 hr0 hBW hgl hB h
  have HO := hide ho
  clear ho
  go_enter Tryz.func57, Tryz.ntmps57
  go_wp2_with fail
  have h84 := H84.out
  rw [hW] at h84
  refine h84.mono ?_
  rw [← hW]
  rintro e w1 ⟨rfl, hb1⟩
  have hA1 := HAW.out.below hb1 (Nat.le_refl _)
  have hq1 := (hb1.block _ (ltB HQ0.out)).trans HQ0.out
  have hr1 := (hb1.block _ (ltB HR0.out)).trans HR0.out
  have x0 := cellB hq1
  have x1 := cellB hr1
  have x2 := frozenB hr1
  have y1 := cellB hA1.hb
  have HA1 := hide hA1
  have HR1 := hide hr1
  have HQ1 := hide hq1
  have HBE := hide (HBW.out.trans (hb1.mono HBW.out.size))
  have hbR : bb ≠ w.heap.size + 1 := by omega
  have hbR' : w.heap.size + 1 ≠ bb := by omega
  clear h84 hW hA1 hq1 hr1 hb1
  have ho := HO.out
  obtain ⟨ii, hii⟩ : ∃ ii, ii = idxI q.key B.ls := ⟨_, rfl⟩
  rw [← hii]
  clear hii
  go_wp2_with fail
  exact bodyPost_ret (v := .agg #[.int .u8 1, .int .u64 0, .int .u64 0]) (by simp [results, Tryz.results57, go_sem, x1]) rfl (AskPost.mk' HA1.out HE.out (Nat.le_succ _) hbR (fun g hg => by have := HGL.out g hg; omega) (Keep.of_below HBE.out) (fun g hg => Or.inl hg))
set_option maxRecDepth 100000 in
set_option maxHeartbeats 2000000 in
/-- Ask: Clock. -/
theorem ask57_6 (bb base : Nat) (lv : Value) (B : Bk) (q : Rq) (w : World) (h : BookAt w bb base lv B) (hB : B.ok) (_hq : q.ok) (ho : q.op = 6) :
    Calls Tryz.prog 57 #[.pointer (some ⟨bb, 0, none⟩), rqv q] w (AskPost bb base lv B q w) := by
  obtain ⟨W, hW⟩ : ∃ W, W = (w.alloc (.cells #[.int .u8 q.op, .int .u8 q.k0, .int .u8 q.k1, .int .u8 q.k2, .int .u8 q.k3, .int .u8 q.k4, .int .u8 q.k5, .int .u8 q.k6, .int .u8 q.k7, .int .u8 q.kd, .int .u64 q.x, .int .u64 q.y, .int .u64 q.n] 58)).alloc (.cells #[.int .u8 0, .int .u64 0, .int .u64 0] 40) := ⟨_, rfl⟩
  have hq0 : W.heap[w.heap.size]? = some (.cells #[.int .u8 q.op, .int .u8 q.k0, .int .u8 q.k1, .int .u8 q.k2, .int .u8 q.k3, .int .u8 q.k4, .int .u8 q.k5, .int .u8 q.k6, .int .u8 q.k7, .int .u8 q.kd, .int .u64 q.x, .int .u64 q.y, .int .u64 q.n] 58) := hW ▸ upB (heapNew _ _) _
  have hr0 : W.heap[w.heap.size + 1]? = some (.cells #[.int .u8 0, .int .u64 0, .int .u64 0] 40) := hW ▸ heapN (by simp)
  have hBW : Below w.heap.size w W := hW ▸ ((Below.refl _ w).alloc (Nat.le_refl _) _).alloc (by simp) _
  have hAW := h.below hBW (Nat.le_refl _)
  have hbl := ltB h.hb
  have hgl : ∀ g, lv.ownBlock = some g → g < w.heap.size := fun g hg => (own_ltE h.ho hg).2
  have h84 := find84 bb base lv B q.key W hAW hB.len
  have hl12 := hB.len
  have hTm := hB.time
  have em : askM B q = (B, ⟨1, B.time, 0⟩) := by unfold askM; rw [if_neg (by omega), if_neg (by omega), if_pos ho]
  have HE := hide em
  clear em
  have H84 := hide h84
  have HAW := hide hAW
  have HQ0 := hide hq0
  have HR0 := hide hr0
  have HBW := hide hBW
  have HGL := hide hgl
  have HB := hide hB
  have HH := hide h
  clear h84 hAW hq0 hr0 hBW hgl hB h
  have HO := hide ho
  clear ho
  go_enter Tryz.func57, Tryz.ntmps57
  go_wp2_with fail
  have h84 := H84.out
  rw [hW] at h84
  refine h84.mono ?_
  rw [← hW]
  rintro e w1 ⟨rfl, hb1⟩
  have hA1 := HAW.out.below hb1 (Nat.le_refl _)
  have hq1 := (hb1.block _ (ltB HQ0.out)).trans HQ0.out
  have hr1 := (hb1.block _ (ltB HR0.out)).trans HR0.out
  have x0 := cellB hq1
  have x1 := cellB hr1
  have x2 := frozenB hr1
  have y1 := cellB hA1.hb
  have HA1 := hide hA1
  have HR1 := hide hr1
  have HQ1 := hide hq1
  have HBE := hide (HBW.out.trans (hb1.mono HBW.out.size))
  have hbR : bb ≠ w.heap.size + 1 := by omega
  have hbR' : w.heap.size + 1 ≠ bb := by omega
  clear h84 hW hA1 hq1 hr1 hb1
  have ho := HO.out
  obtain ⟨ii, hii⟩ : ∃ ii, ii = idxI q.key B.ls := ⟨_, rfl⟩
  rw [← hii]
  clear hii
  go_wp2_with fail
  exact bodyPost_ret (v := .agg #[.int .u8 1, .int .u64 B.time, .int .u64 0]) (by simp [results, Tryz.results57, go_sem, x1]) rfl (AskPost.mk' HA1.out HE.out (Nat.le_succ _) hbR (fun g hg => by have := HGL.out g hg; omega) (Keep.of_below HBE.out) (fun g hg => Or.inl hg))
set_option maxRecDepth 100000 in
set_option maxHeartbeats 2000000 in
/-- Ask: the key is not there. -/
theorem ask57_no (bb base : Nat) (lv : Value) (B : Bk) (q : Rq) (w : World) (h : BookAt w bb base lv B) (hB : B.ok) (_hq : q.ok) (ho : q.op = 2 ∨ q.op = 3 ∨ q.op = 4) (hi : idx q.key B.ls = none) :
    Calls Tryz.prog 57 #[.pointer (some ⟨bb, 0, none⟩), rqv q] w (AskPost bb base lv B q w) := by
  obtain ⟨W, hW⟩ : ∃ W, W = (w.alloc (.cells #[.int .u8 q.op, .int .u8 q.k0, .int .u8 q.k1, .int .u8 q.k2, .int .u8 q.k3, .int .u8 q.k4, .int .u8 q.k5, .int .u8 q.k6, .int .u8 q.k7, .int .u8 q.kd, .int .u64 q.x, .int .u64 q.y, .int .u64 q.n] 58)).alloc (.cells #[.int .u8 0, .int .u64 0, .int .u64 0] 40) := ⟨_, rfl⟩
  have hq0 : W.heap[w.heap.size]? = some (.cells #[.int .u8 q.op, .int .u8 q.k0, .int .u8 q.k1, .int .u8 q.k2, .int .u8 q.k3, .int .u8 q.k4, .int .u8 q.k5, .int .u8 q.k6, .int .u8 q.k7, .int .u8 q.kd, .int .u64 q.x, .int .u64 q.y, .int .u64 q.n] 58) := hW ▸ upB (heapNew _ _) _
  have hr0 : W.heap[w.heap.size + 1]? = some (.cells #[.int .u8 0, .int .u64 0, .int .u64 0] 40) := hW ▸ heapN (by simp)
  have hBW : Below w.heap.size w W := hW ▸ ((Below.refl _ w).alloc (Nat.le_refl _) _).alloc (by simp) _
  have hAW := h.below hBW (Nat.le_refl _)
  have hbl := ltB h.hb
  have hgl : ∀ g, lv.ownBlock = some g → g < w.heap.size := fun g hg => (own_ltE h.ho hg).2
  have h84 := find84 bb base lv B q.key W hAW hB.len
  have hl12 := hB.len
  have hTm := hB.time
  have em : askM B q = (B, ⟨4, 0, 0⟩) := by unfold askM; rw [if_neg (by omega), if_neg (by omega), if_neg (by omega), hi]
  have hii : idxI q.key B.ls = -1 := by unfold idxI; rw [hi]
  rw [hii] at h84
  have HE := hide em
  have o1 : (q.op == 1) = false := by simp; omega
  have o5 : (q.op == 5) = false := by simp; omega
  have o6 : (q.op == 6) = false := by simp; omega
  have p1 : ¬ q.op = 1 := by omega
  have p5 : ¬ q.op = 5 := by omega
  have p6 : ¬ q.op = 6 := by omega
  clear em hi hii ho
  have H84 := hide h84
  have HAW := hide hAW
  have HQ0 := hide hq0
  have HR0 := hide hr0
  have HBW := hide hBW
  have HGL := hide hgl
  have HB := hide hB
  have HH := hide h
  clear h84 hAW hq0 hr0 hBW hgl hB h
  go_enter Tryz.func57, Tryz.ntmps57
  go_wp2_with fail
  have h84 := H84.out
  rw [hW] at h84
  refine h84.mono ?_
  rw [← hW]
  rintro e w1 ⟨rfl, hb1⟩
  have hA1 := HAW.out.below hb1 (Nat.le_refl _)
  have hq1 := (hb1.block _ (ltB HQ0.out)).trans HQ0.out
  have hr1 := (hb1.block _ (ltB HR0.out)).trans HR0.out
  have x0 := cellB hq1
  have x1 := cellB hr1
  have x2 := frozenB hr1
  have y1 := cellB hA1.hb
  have HA1 := hide hA1
  have HR1 := hide hr1
  have HQ1 := hide hq1
  have HBE := hide (HBW.out.trans (hb1.mono HBW.out.size))
  have hbR : bb ≠ w.heap.size + 1 := by omega
  have hbR' : w.heap.size + 1 ≠ bb := by omega
  clear h84 hW hA1 hq1 hr1 hb1
  go_wp2_with fail
  exact bodyPost_ret (v := .agg #[.int .u8 4, .int .u64 0, .int .u64 0]) (by simp [results, Tryz.results57, go_sem, x1]) rfl (AskPost.mk' HA1.out HE.out (Nat.le_succ _) hbR (fun g hg => by have := HGL.out g hg; omega) (Keep.of_below HBE.out) (fun g hg => Or.inl hg))
set_option maxRecDepth 100000 in
set_option maxHeartbeats 2000000 in
/-- Ask: Query. -/
theorem ask57_3 (bb base : Nat) (lv : Value) (B : Bk) (q : Rq) (w : World) (h : BookAt w bb base lv B) (hB : B.ok) (_hq : q.ok) (ho : q.op = 3) (i : Nat) (hi : idx q.key B.ls = some i) :
    Calls Tryz.prog 57 #[.pointer (some ⟨bb, 0, none⟩), rqv q] w (AskPost bb base lv B q w) := by
  obtain ⟨W, hW⟩ : ∃ W, W = (w.alloc (.cells #[.int .u8 q.op, .int .u8 q.k0, .int .u8 q.k1, .int .u8 q.k2, .int .u8 q.k3, .int .u8 q.k4, .int .u8 q.k5, .int .u8 q.k6, .int .u8 q.k7, .int .u8 q.kd, .int .u64 q.x, .int .u64 q.y, .int .u64 q.n] 58)).alloc (.cells #[.int .u8 0, .int .u64 0, .int .u64 0] 40) := ⟨_, rfl⟩
  have hq0 : W.heap[w.heap.size]? = some (.cells #[.int .u8 q.op, .int .u8 q.k0, .int .u8 q.k1, .int .u8 q.k2, .int .u8 q.k3, .int .u8 q.k4, .int .u8 q.k5, .int .u8 q.k6, .int .u8 q.k7, .int .u8 q.kd, .int .u64 q.x, .int .u64 q.y, .int .u64 q.n] 58) := hW ▸ upB (heapNew _ _) _
  have hr0 : W.heap[w.heap.size + 1]? = some (.cells #[.int .u8 0, .int .u64 0, .int .u64 0] 40) := hW ▸ heapN (by simp)
  have hBW : Below w.heap.size w W := hW ▸ ((Below.refl _ w).alloc (Nat.le_refl _) _).alloc (by simp) _
  have hAW := h.below hBW (Nat.le_refl _)
  have hbl := ltB h.hb
  have hgl : ∀ g, lv.ownBlock = some g → g < w.heap.size := fun g hg => (own_ltE h.ho hg).2
  have h84 := find84 bb base lv B q.key W hAW hB.len
  have hl12 := hB.len
  have hTm := hB.time
  obtain ⟨l, hl⟩ : ∃ l, B.ls[i]? = some l := ⟨_, List.getElem?_eq_getElem (idx_lt hi)⟩
  have hgd : B.ls.getD i ⟨q.key, 0, 0, 0, 0, 0⟩ = l := by simp [List.getD, hl]
  have em : askM B q = (B, ⟨1, (standsM B.time l).1, (standsM B.time l).2⟩) := by unfold askM; rw [if_neg (by omega), if_neg (by omega), if_neg (by omega), hi]; dsimp only; rw [if_pos ho, hgd]
  have hii : idxI q.key B.ls = (i : Int) := by unfold idxI; rw [hi]
  rw [hii] at h84
  have hi12 : (i : Int) ≤ 12 := by have := idx_lt hi; omega
  have hi0 : (0 : Int) ≤ (i : Int) := by omega
  have hin : ¬ (i : Int) < 0 := by omega
  have hlo := hB.ln l (List.mem_of_getElem? hl)
  have HE := hide em
  have HL := hide hl
  have HLO := hide hlo
  clear em hi hii hgd hl hlo
  have H84 := hide h84
  have HAW := hide hAW
  have HQ0 := hide hq0
  have HR0 := hide hr0
  have HBW := hide hBW
  have HGL := hide hgl
  have HB := hide hB
  have HH := hide h
  clear h84 hAW hq0 hr0 hBW hgl hB h
  have HO := hide ho
  clear ho
  go_enter Tryz.func57, Tryz.ntmps57
  go_wp2_with fail
  have h84 := H84.out
  rw [hW] at h84
  refine h84.mono ?_
  rw [← hW]
  rintro e w1 ⟨rfl, hb1⟩
  have hA1 := HAW.out.below hb1 (Nat.le_refl _)
  have hq1 := (hb1.block _ (ltB HQ0.out)).trans HQ0.out
  have hr1 := (hb1.block _ (ltB HR0.out)).trans HR0.out
  have x0 := cellB hq1
  have x1 := cellB hr1
  have x2 := frozenB hr1
  have y1 := cellB hA1.hb
  have HA1 := hide hA1
  have HR1 := hide hr1
  have HQ1 := hide hq1
  have HBE := hide (HBW.out.trans (hb1.mono HBW.out.size))
  have hbR : bb ≠ w.heap.size + 1 := by omega
  have hbR' : w.heap.size + 1 ≠ bb := by omega
  clear h84 hW hA1 hq1 hr1 hb1
  have ho := HO.out
  go_wp2_with fail
  refine (stands85 bb base lv B i l _ HA1.out HL.out hl12 HLO.out hTm).mono ?_
  rintro e w2 ⟨rfl, hb2⟩
  obtain ⟨s1, hs1⟩ : ∃ s1, s1 = (standsM B.time l).1 := ⟨_, rfl⟩
  obtain ⟨s2, hs2⟩ : ∃ s2, s2 = (standsM B.time l).2 := ⟨_, rfl⟩
  have HE2 := HE.out
  rw [← hs1, ← hs2] at HE2 ⊢
  have HE3 := hide HE2
  have hlr : w.heap.size + 1 < w1.heap.size := ltB HR1.out
  have hr2 := (hb2.block _ hlr).trans HR1.out
  have z1 := cellB hr2
  have z2 := frozenB hr2
  have HA2 := hide (HA1.out.below hb2 (Nat.le_refl _))
  have HBE2 := hide (HBE.out.trans (hb2.mono HBE.out.size))
  clear x0 x1 x2 y1 HE2 hs1 hs2 hb2 hr2
  go_wp2_with fail
  exact bodyPost_ret (v := .agg #[.int .u8 1, .int .u64 s1, .int .u64 s2]) (by simp [results, Tryz.results57, go_sem, z1]) rfl (AskPost.mk' HA2.out HE3.out (Nat.le_succ _) hbR (fun g hg => by have := HGL.out g hg; omega) (Keep.of_below HBE2.out) (fun g hg => Or.inl hg))
end Go.Proofs.YtlamgpeiolfffaaGreatDoor

namespace Go.Proofs.YtlamgpeiolfffaaGreatDoor
open Go.RowKit

set_option maxRecDepth 100000 in
set_option maxHeartbeats 2000000 in
theorem spaced111 (bb : Nat) (lv : Value) (T : Int) (l : Ln) (n : Int) (w : World) (hb : w.heap[bb]? = some (.cells #[lv, .int .u64 T] 53)) (ho : l.ok) (hk : 1 ≤ l.x) (hn : 0 ≤ n ∧ n ≤ 18446744073709551615) (hT : 0 ≤ T ∧ T ≤ 18446744073709551615) :
    Calls Tryz.prog 111 #[.pointer (some ⟨bb, 0, none⟩), .agg #[.int .u8 l.k.k0, .int .u8 l.k.k1, .int .u8 l.k.k2, .int .u8 l.k.k3, .int .u8 l.k.k4, .int .u8 l.k.k5, .int .u8 l.k.k6, .int .u8 l.k.k7, .int .u8 l.kd, .int .u64 l.x, .int .u64 l.y, .int .u64 l.at_, .int .u64 l.in_], .int .u64 n] w fun e w' => e = .returned (.tuple #[.int .u64 (spacedM T l n).1, .bool (spacedM T l n).2.1, .int .u64 (spacedM T l n).2.2]) ∧ Below w.heap.size w w' := by
  have hx := ho.x
  have hy := ho.y
  have hat := ho.at_
  by_cases hn0 : n = 0
  · subst hn0
    have e : spacedM T l 0 = (l.at_, true, 0) := by unfold spacedM; rw [if_pos rfl]
    rw [e]
    clear e
    go_enter Tryz.func111, Tryz.ntmps111
    go_wp2
    exact bodyPost_ret (v := .tuple #[.int .u64 l.at_, .bool true, .int .u64 0]) (by simp [results, Tryz.results111, go_sem]) rfl ⟨rfl, (Below.refl _ w).alloc (Nat.le_refl _) _⟩
  · have hnb : (n == 0) = false := by simpa using hn0
    obtain ⟨S, hS⟩ : ∃ S, S = if l.at_ < T then T else l.at_ := ⟨_, rfl⟩
    have hSr : 0 ≤ S ∧ S ≤ 18446744073709551615 ∧ T ≤ S ∧ (S = T ∨ S = l.at_) := by rw [hS]; split <;> omega
    have hn1 : IntKind.u64.wrap (n - 1) = n - 1 := by rw [IntKind.wrap_u64]; omega
    obtain ⟨N1, hN1⟩ : ∃ N1, N1 = (n - 1) * l.x := ⟨_, rfl⟩
    obtain ⟨N2, hN2⟩ : ∃ N2, N2 = n * l.x := ⟨_, rfl⟩
    have hN1r : 0 ≤ N1 := by rw [hN1]; exact Int.mul_nonneg (by omega) (by omega)
    have hN12 : N2 = N1 + l.x := by rw [hN1, hN2, Int.sub_mul]; omega
    have h1 := times127 (n - 1) l.x
    have h2 := times127 n l.x
    rw [← hN1] at h1
    rw [← hN2] at h2
    have hsp : spacedM T l n = if 18446744073709551615 < S + N2 ∨ l.y < N1 then (0, false, 18446744073709551615) else if S + N1 ≤ orNever (T + l.y) then (S + N2, true, 0) else (0, false, l.at_ - (l.y - N1)) := by
      unfold spacedM
      rw [if_neg hn0, ← hS, ← hN1, ← hN2]
    have HSP := hide hsp
    have H1 := hide h1
    have H2 := hide h2
    have HS := hide hS
    have HHB := hide hb
    have b0 := upC hb (.cells #[.int .u8 l.k.k0, .int .u8 l.k.k1, .int .u8 l.k.k2, .int .u8 l.k.k3, .int .u8 l.k.k4, .int .u8 l.k.k5, .int .u8 l.k.k6, .int .u8 l.k.k7, .int .u8 l.kd, .int .u64 l.x, .int .u64 l.y, .int .u64 l.at_, .int .u64 l.in_] 139) 1
    clear hsp h1 h2 hS hN1 hN2 hb
    by_cases hlt : l.at_ < T
    · obtain rfl : T = S := by
        have := HS.out
        rw [if_pos hlt] at this
        exact this.symm
      clear HS
      go_enter Tryz.func111, Tryz.ntmps111
      go_wp2_with fail
      refine (H1.out _ (by omega) (by omega)).mono ?_
      rintro e w1 ⟨rfl, rfl⟩
      go_wp2_with fail
      refine (H2.out _ (by omega) (by omega)).mono ?_
      rintro e w1 ⟨rfl, rfl⟩
      obtain ⟨M1, hM1⟩ : ∃ M1, M1 = orNever N1 := ⟨_, rfl⟩
      obtain ⟨M2, hM2⟩ : ∃ M2, M2 = orNever N2 := ⟨_, rfl⟩
      have hM1r : 0 ≤ M1 ∧ M1 ≤ 18446744073709551615 := by rw [hM1]; unfold orNever; split <;> omega
      have hM2r : 0 ≤ M2 ∧ M2 ≤ 18446744073709551615 := by rw [hM2]; unfold orNever; split <;> omega
      obtain ⟨o1, ho1⟩ : ∃ o1, o1 = decide (N1 ≤ 18446744073709551615) := ⟨_, rfl⟩
      obtain ⟨o2, ho2⟩ : ∃ o2, o2 = decide (N2 ≤ 18446744073709551615) := ⟨_, rfl⟩
      rw [← ho1, ← ho2, ← hM1, ← hM2]
      have HM1 := hide hM1
      have HM2 := hide hM2
      have HO1 := hide ho1
      have HO2 := hide ho2
      clear hM1 hM2 ho1 ho2
      go_wp2_with fail
      refine (plus128 T M1 _ (by omega) hM1r).mono ?_
      rintro e w1 ⟨rfl, rfl⟩
      go_wp2_with fail
      refine (plus128 T M2 _ (by omega) hM2r).mono ?_
      rintro e w1 ⟨rfl, rfl⟩
      obtain ⟨P1, hP1⟩ : ∃ P1, P1 = orNever (T + M1) := ⟨_, rfl⟩
      obtain ⟨P2, hP2⟩ : ∃ P2, P2 = orNever (T + M2) := ⟨_, rfl⟩
      obtain ⟨o3, ho3⟩ : ∃ o3, o3 = decide (T + M1 ≤ 18446744073709551615) := ⟨_, rfl⟩
      obtain ⟨o4, ho4⟩ : ∃ o4, o4 = decide (T + M2 ≤ 18446744073709551615) := ⟨_, rfl⟩
      rw [← ho3, ← ho4, ← hP1, ← hP2]
      have HP1 := hide hP1
      have HP2 := hide hP2
      have HO3 := hide ho3
      have HO4 := hide ho4
      clear hP1 hP2 ho3 ho4
      by_cases hbad : 18446744073709551615 < T + N2 ∨ l.y < N1
      · have e := HSP.out
        rw [if_pos hbad] at e
        have HE := hide e
        have hc : o1 = false ∨ (o1 = true ∧ o2 = false) ∨ (o1 = true ∧ o2 = true ∧ o3 = false) ∨ (o1 = true ∧ o2 = true ∧ o3 = true ∧ o4 = false) ∨ (o1 = true ∧ o2 = true ∧ o3 = true ∧ o4 = true ∧ l.y < M1) := by
          have g1 := HO1.out
          have g2 := HO2.out
          have g3 := HO3.out
          have g4 := HO4.out
          have k1 := HM1.out
          have k2 := HM2.out
          cases o1
          · exact Or.inl rfl
          · cases o2
            · exact Or.inr (Or.inl ⟨rfl, rfl⟩)
            · cases o3
              · exact Or.inr (Or.inr (Or.inl ⟨rfl, rfl, rfl⟩))
              · cases o4
                · exact Or.inr (Or.inr (Or.inr (Or.inl ⟨rfl, rfl, rfl, rfl⟩)))
                · refine Or.inr (Or.inr (Or.inr (Or.inr ⟨rfl, rfl, rfl, rfl, ?_⟩)))
                  have g1' := of_decide_eq_true g1.symm
                  have g2' := of_decide_eq_true g2.symm
                  have g4' := of_decide_eq_true g4.symm
                  unfold orNever at k1 k2
                  rw [if_pos g1'] at k1
                  rw [if_pos g2'] at k2
                  omega
        clear e hbad HO1 HO2 HO3 HO4 HP1 HP2 HM1 HM2 HSP hN12 hSr
        rcases hc with rfl | ⟨rfl, rfl⟩ | ⟨rfl, rfl, rfl⟩ | ⟨rfl, rfl, rfl, rfl⟩ | ⟨rfl, rfl, rfl, rfl, hlm⟩
        all_goals go_wp2
        all_goals exact bodyPost_ret (v := .tuple #[.int .u64 0, .bool false, .int .u64 18446744073709551615]) (by simp [results, Tryz.results111, go_sem]) rfl ⟨by rw [HE.out], (Below.refl _ w).alloc (Nat.le_refl _) _⟩
      · have e := HSP.out
        rw [if_neg hbad] at e
        have hM1e : M1 = N1 := by rw [HM1.out]; unfold orNever; rw [if_pos (by omega)]
        have hM2e : M2 = N2 := by rw [HM2.out]; unfold orNever; rw [if_pos (by omega)]
        have hP1e : P1 = T + N1 := by rw [HP1.out, hM1e]; unfold orNever; rw [if_pos (by omega)]
        have hP2e : P2 = T + N2 := by rw [HP2.out, hM2e]; unfold orNever; rw [if_pos (by omega)]
        have ho1 : o1 = true := by rw [HO1.out]; simp; omega
        have ho2 : o2 = true := by rw [HO2.out]; simp; omega
        have ho3 : o3 = true := by rw [HO3.out, hM1e]; simp; omega
        have ho4 : o4 = true := by rw [HO4.out, hM2e]; simp; omega
        have hny : ¬ l.y < M1 := by omega
        have hpt := plus128 T l.y
        obtain ⟨Q, hQ⟩ : ∃ Q, Q = orNever (T + l.y) := ⟨_, rfl⟩
        rw [← hQ] at hpt e
        have HPT := hide hpt
        have HE := hide e
        have hQ2 : T + l.y ≤ Q ∨ Q = 18446744073709551615 := by rw [hQ]; unfold orNever; split <;> omega
        subst ho1 ho2 ho3 ho4
        clear HO1 HO2 HO3 HO4 HM1 HM2 HP1 HP2 HSP hpt e hQ
        have hT1 : 0 ≤ T ∧ T ≤ 18446744073709551615 := hT
        by_cases hq : T + N1 ≤ Q
        · have e := HE.out
          rw [if_pos hq, ← hP2e] at e
          have HE2 := hide e
          have hq' : P1 ≤ Q := by omega
          clear e HE hq hM1e hM2e hP1e hP2e hSr hQ2 hN12 hbad
          go_wp2_with fail
          go_region_with (go_at_call 128; refine (HPT.out _ hT1 hy).mono ?_; rintro e w1 ⟨rfl, rfl⟩)
          all_goals go_wp2
          all_goals exact bodyPost_ret (v := .tuple #[.int .u64 P2, .bool true, .int .u64 0]) (by simp [results, Tryz.results111, go_sem]) rfl ⟨by rw [HE2.out], ((Below.refl _ w).alloc (Nat.le_refl _) _).drew⟩
        · have e := HE.out
          rw [if_neg hq, ← hM1e] at e
          have HE2 := hide e
          have hq' : ¬ P1 ≤ Q := by omega
          have hw1 : IntKind.u64.wrap (l.y - M1) = l.y - M1 := by rw [IntKind.wrap_u64]; omega
          have hw2 : IntKind.u64.wrap (l.at_ - (l.y - M1)) = l.at_ - (l.y - M1) := by rw [IntKind.wrap_u64]; omega
          clear e HE hq hM1e hM2e hP1e hP2e hSr hQ2 hN12 hbad
          go_wp2_with fail
          go_region_with (go_at_call 128; refine (HPT.out _ hT1 hy).mono ?_; rintro e w1 ⟨rfl, rfl⟩)
          all_goals go_wp2_with fail
          all_goals go_region
          all_goals go_wp2
          all_goals exact bodyPost_ret (v := .tuple #[.int .u64 0, .bool false, .int .u64 (l.at_ - (l.y - M1))]) (by simp [results, Tryz.results111, go_sem]) rfl ⟨by rw [HE2.out], ((Below.refl _ w).alloc (Nat.le_refl _) _).drew.drew⟩
    · obtain rfl : S = l.at_ := by
        have := HS.out
        rw [if_neg hlt] at this
        exact this
      clear HS
      go_enter Tryz.func111, Tryz.ntmps111
      go_wp2_with fail
      refine (H1.out _ (by omega) (by omega)).mono ?_
      rintro e w1 ⟨rfl, rfl⟩
      go_wp2_with fail
      refine (H2.out _ (by omega) (by omega)).mono ?_
      rintro e w1 ⟨rfl, rfl⟩
      obtain ⟨M1, hM1⟩ : ∃ M1, M1 = orNever N1 := ⟨_, rfl⟩
      obtain ⟨M2, hM2⟩ : ∃ M2, M2 = orNever N2 := ⟨_, rfl⟩
      have hM1r : 0 ≤ M1 ∧ M1 ≤ 18446744073709551615 := by rw [hM1]; unfold orNever; split <;> omega
      have hM2r : 0 ≤ M2 ∧ M2 ≤ 18446744073709551615 := by rw [hM2]; unfold orNever; split <;> omega
      obtain ⟨o1, ho1⟩ : ∃ o1, o1 = decide (N1 ≤ 18446744073709551615) := ⟨_, rfl⟩
      obtain ⟨o2, ho2⟩ : ∃ o2, o2 = decide (N2 ≤ 18446744073709551615) := ⟨_, rfl⟩
      rw [← ho1, ← ho2, ← hM1, ← hM2]
      have HM1 := hide hM1
      have HM2 := hide hM2
      have HO1 := hide ho1
      have HO2 := hide ho2
      clear hM1 hM2 ho1 ho2
      go_wp2_with fail
      refine (plus128 l.at_ M1 _ (by omega) hM1r).mono ?_
      rintro e w1 ⟨rfl, rfl⟩
      go_wp2_with fail
      refine (plus128 l.at_ M2 _ (by omega) hM2r).mono ?_
      rintro e w1 ⟨rfl, rfl⟩
      obtain ⟨P1, hP1⟩ : ∃ P1, P1 = orNever (l.at_ + M1) := ⟨_, rfl⟩
      obtain ⟨P2, hP2⟩ : ∃ P2, P2 = orNever (l.at_ + M2) := ⟨_, rfl⟩
      obtain ⟨o3, ho3⟩ : ∃ o3, o3 = decide (l.at_ + M1 ≤ 18446744073709551615) := ⟨_, rfl⟩
      obtain ⟨o4, ho4⟩ : ∃ o4, o4 = decide (l.at_ + M2 ≤ 18446744073709551615) := ⟨_, rfl⟩
      rw [← ho3, ← ho4, ← hP1, ← hP2]
      have HP1 := hide hP1
      have HP2 := hide hP2
      have HO3 := hide ho3
      have HO4 := hide ho4
      clear hP1 hP2 ho3 ho4
      by_cases hbad : 18446744073709551615 < l.at_ + N2 ∨ l.y < N1
      · have e := HSP.out
        rw [if_pos hbad] at e
        have HE := hide e
        have hc : o1 = false ∨ (o1 = true ∧ o2 = false) ∨ (o1 = true ∧ o2 = true ∧ o3 = false) ∨ (o1 = true ∧ o2 = true ∧ o3 = true ∧ o4 = false) ∨ (o1 = true ∧ o2 = true ∧ o3 = true ∧ o4 = true ∧ l.y < M1) := by
          have g1 := HO1.out
          have g2 := HO2.out
          have g3 := HO3.out
          have g4 := HO4.out
          have k1 := HM1.out
          have k2 := HM2.out
          cases o1
          · exact Or.inl rfl
          · cases o2
            · exact Or.inr (Or.inl ⟨rfl, rfl⟩)
            · cases o3
              · exact Or.inr (Or.inr (Or.inl ⟨rfl, rfl, rfl⟩))
              · cases o4
                · exact Or.inr (Or.inr (Or.inr (Or.inl ⟨rfl, rfl, rfl, rfl⟩)))
                · refine Or.inr (Or.inr (Or.inr (Or.inr ⟨rfl, rfl, rfl, rfl, ?_⟩)))
                  have g1' := of_decide_eq_true g1.symm
                  have g2' := of_decide_eq_true g2.symm
                  have g4' := of_decide_eq_true g4.symm
                  unfold orNever at k1 k2
                  rw [if_pos g1'] at k1
                  rw [if_pos g2'] at k2
                  omega
        clear e hbad HO1 HO2 HO3 HO4 HP1 HP2 HM1 HM2 HSP hN12 hSr
        rcases hc with rfl | ⟨rfl, rfl⟩ | ⟨rfl, rfl, rfl⟩ | ⟨rfl, rfl, rfl, rfl⟩ | ⟨rfl, rfl, rfl, rfl, hlm⟩
        all_goals go_wp2
        all_goals exact bodyPost_ret (v := .tuple #[.int .u64 0, .bool false, .int .u64 18446744073709551615]) (by simp [results, Tryz.results111, go_sem]) rfl ⟨by rw [HE.out], (Below.refl _ w).alloc (Nat.le_refl _) _⟩
      · have e := HSP.out
        rw [if_neg hbad] at e
        have hM1e : M1 = N1 := by rw [HM1.out]; unfold orNever; rw [if_pos (by omega)]
        have hM2e : M2 = N2 := by rw [HM2.out]; unfold orNever; rw [if_pos (by omega)]
        have hP1e : P1 = l.at_ + N1 := by rw [HP1.out, hM1e]; unfold orNever; rw [if_pos (by omega)]
        have hP2e : P2 = l.at_ + N2 := by rw [HP2.out, hM2e]; unfold orNever; rw [if_pos (by omega)]
        have ho1 : o1 = true := by rw [HO1.out]; simp; omega
        have ho2 : o2 = true := by rw [HO2.out]; simp; omega
        have ho3 : o3 = true := by rw [HO3.out, hM1e]; simp; omega
        have ho4 : o4 = true := by rw [HO4.out, hM2e]; simp; omega
        have hny : ¬ l.y < M1 := by omega
        have hpt := plus128 T l.y
        obtain ⟨Q, hQ⟩ : ∃ Q, Q = orNever (T + l.y) := ⟨_, rfl⟩
        rw [← hQ] at hpt e
        have HPT := hide hpt
        have HE := hide e
        have hQ2 : T + l.y ≤ Q ∨ Q = 18446744073709551615 := by rw [hQ]; unfold orNever; split <;> omega
        subst ho1 ho2 ho3 ho4
        clear HO1 HO2 HO3 HO4 HM1 HM2 HP1 HP2 HSP hpt e hQ
        have hT1 : 0 ≤ T ∧ T ≤ 18446744073709551615 := hT
        by_cases hq : l.at_ + N1 ≤ Q
        · have e := HE.out
          rw [if_pos hq, ← hP2e] at e
          have HE2 := hide e
          have hq' : P1 ≤ Q := by omega
          clear e HE hq hM1e hM2e hP1e hP2e hSr hQ2 hN12 hbad
          go_wp2_with fail
          go_region_with (go_at_call 128; refine (HPT.out _ hT1 hy).mono ?_; rintro e w1 ⟨rfl, rfl⟩)
          all_goals go_wp2
          all_goals exact bodyPost_ret (v := .tuple #[.int .u64 P2, .bool true, .int .u64 0]) (by simp [results, Tryz.results111, go_sem]) rfl ⟨by rw [HE2.out], ((Below.refl _ w).alloc (Nat.le_refl _) _).drew⟩
        · have e := HE.out
          rw [if_neg hq, ← hM1e] at e
          have HE2 := hide e
          have hq' : ¬ P1 ≤ Q := by omega
          have hw1 : IntKind.u64.wrap (l.y - M1) = l.y - M1 := by rw [IntKind.wrap_u64]; omega
          have hw2 : IntKind.u64.wrap (l.at_ - (l.y - M1)) = l.at_ - (l.y - M1) := by rw [IntKind.wrap_u64]; omega
          clear e HE hq hM1e hM2e hP1e hP2e hSr hQ2 hN12 hbad
          go_wp2_with fail
          go_region_with (go_at_call 128; refine (HPT.out _ hT1 hy).mono ?_; rintro e w1 ⟨rfl, rfl⟩)
          all_goals go_wp2_with fail
          all_goals go_region
          all_goals go_wp2
          all_goals exact bodyPost_ret (v := .tuple #[.int .u64 0, .bool false, .int .u64 (l.at_ - (l.y - M1))]) (by simp [results, Tryz.results111, go_sem]) rfl ⟨by rw [HE2.out], ((Below.refl _ w).alloc (Nat.le_refl _) _).drew.drew⟩
end Go.Proofs.YtlamgpeiolfffaaGreatDoor
