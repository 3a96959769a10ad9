import Derived.Test.YtlamgpeiolfffaaGreatDoorZz21
import Derived.Test.YtlamgpeiolfffaaGreatDoorZz23
import Derived.Test.YtlamgpeiolfffaaGreatDoorZz15
import Derived.Deep.RegionLaw
import Derived.Test.YtlamgpeiolfffaaGreatDoorZz18
set_option linter.unusedSectionVars false
namespace Go.Proofs.YtlamgpeiolfffaaGreatDoor
open Go.RowKit
variable [dK] [iK]

/-- The blocks of a host. -/
def HG (hb db : Nat) (F : Nat → Prop) (cv : Value) (m : Nat) (cb : Nat → Nat) (b : Nat) : Prop := b = hb ∨ b = db ∨ F b ∨ cv.ownBlock = some b ∨ ∃ i, i < m ∧ b = cb i
def ptrs (cb : Nat → Nat) (m : Nat) : List Value := (List.range m).map fun i => .pointer (some ⟨cb i, 0, none⟩)
/-- A host in memory: its disk, its ledger, its connections. -/
structure HostAt (w : World) (hb db nb sb : Nat) (mb : Option Nat) (blk : Int) (L : Ld) (F : Nat → Prop) (B : Nat) (cv : Value) (m : Nat) (cb : Nat → Nat) (c : Nat → Cn) : Prop where
  hh : w.heap[hb]? = some (.cells #[.pointer (some ⟨db, 0, none⟩), .pointer (some ⟨sb, 0, none⟩), cv, .int .u64 blk] 75)
  hd : w.heap[db]? = some (.cells #[.map mb, .map (some nb), .slice none 0 0, .int .i64 (-1), .int .i64 (-1), .bool false] 81)
  hs : SrvAt w 0 sb L F
  hc : ∀ i, i < m → ConnAt w sb (cb i) (c i) F
  hi : ∀ i j, i < m → j < m → cb i = cb j → i = j
  ho : w.ownsRow B 76 1 cv m (ptrs cb m)
  hF : ∀ g, (g = hb ∨ g = db ∨ cv.ownBlock = some g) → ¬ F g
  lo : ∀ b, HG hb db F cv m cb b → B ≤ b
  fr : ∀ i, m ≤ i → c i = ⟨[], false⟩

theorem Tryz.info76 : (Tryz.prog.info? 76).map (fun i => (i.zero, i.size, i.bytes)) = some (some (.pointer none), 1, 8) := by kernel_rfl

theorem own_keptE {w w' : World} {base e sz : Nat} {v : Value} {n : Nat} {xs : List Value} (h : w.ownsRow base e sz v n xs) (hb : ∀ g, v.ownBlock = some g → w'.heap[g]? = w.heap[g]?) : w'.ownsRow base e sz v n xs := by
  obtain ⟨h1, h2⟩ := h
  refine ⟨h1, ?_⟩
  rcases h2 with h2 | ⟨g, cap, cur, hv, hg, hh, r⟩
  · exact Or.inl h2
  · exact Or.inr ⟨g, cap, cur, hv, hg, (hb g (by rw [hv]; rfl)).trans hh, r⟩
theorem own_sliceE {w : World} {base e sz : Nat} {v : Value} {n : Nat} {xs : List Value} (h : w.ownsRow base e sz v n xs) : ∃ a c, v = .slice a n c := by
  rcases h.2 with ⟨rfl, rfl⟩ | ⟨g, cap, cur, hv, _⟩
  · exact ⟨_, _, rfl⟩
  · exact ⟨_, _, hv⟩
theorem own_neE {w : World} {base e sz : Nat} {v : Value} {n : Nat} {xs : List Value} (h : w.ownsRow base e sz v n xs) {g k : Nat} (hg : v.ownBlock = some g) {a : Array Value} {t : TypeId} {fr : Nat × Nat} (hk : w.heap[k]? = some (.cells a t fr)) (ht : t ≠ e) : g ≠ k := by
  rcases h.2 with ⟨rfl, rfl⟩ | ⟨g', cap, cur, hv, _, hh, _⟩
  · simp [Value.ownBlock] at hg
  · rw [hv] at hg
    simp [Value.ownBlock] at hg
    subst hg
    intro e'
    subst e'
    rw [hh] at hk
    simp at hk
    exact ht hk.2.1.symm
theorem own_ltE {w : World} {base e sz : Nat} {v : Value} {n : Nat} {xs : List Value} (h : w.ownsRow base e sz v n xs) {g : Nat} (hg : v.ownBlock = some g) : base ≤ g ∧ g < w.heap.size := by
  rcases h.2 with ⟨rfl, rfl⟩ | ⟨g', cap, cur, hv, hb, hh, _⟩
  · simp [Value.ownBlock] at hg
  · rw [hv] at hg
    simp [Value.ownBlock] at hg
    subst hg
    exact ⟨hb, ltB hh⟩

/-- append in a region that draws, of whatever elements. -/
theorem step_append_any {ops : Array Oper} {o : Oper} {a : Act} {w : World} {K : Act → World → Prop} {Q : Exit → Act → World → Prop} {E : Prop} (hg : o.guard = none) (s x : Operand) (t e : TypeId) (i0 : TypeInfo) (z : Value) (size bytes : Nat)
    (ht : Tryz.prog.underlying t = some (.slice e)) (hi : Tryz.prog.info? e = some i0) (hz0 : i0.zero = some z) (hz1 : i0.size = size) (hz2 : i0.bytes = bytes) (hzc : z.cells.size = size) (hsz : 0 < size)
    (hop : o.op = .call { callee := .builtin .append, args := #[s, x], argTypes := #[t, t] }) (base : Nat) (v : Value) (n : Nat) (xs : List Value) (hs : a.eval s = v) (hown : w.ownsRow base e size v n xs)
    (ad : Addr) (m c : Nat) (news : List Value) (hx : a.eval x = .slice (some ad) m c) (hm : news.length = m * size) (hc : ∀ j u, news[j]? = some u → w.cell? (ad.add j) = some u) (h1 : ∀ u ∈ news, u.oneCell' = true) (hb : n + m ≤ 4194304) (hby : (n + m) * bytes ≤ 140737488355328) (hbase : base ≤ w.heap.size)
    (hK : ∀ v' w', w'.ownsRow base e size v' (n + m) (xs ++ news) → w.grownBy w' v.ownBlock → (v'.ownBlock = v.ownBlock ∨ v'.ownBlock = some w.heap.size) → K (a.put o.dst v') w') :
    if Region.wanted o (yielded ops a.tmps) = true then Oper.wp Tryz.prog o a w K Q else E := by
  have hw : Region.wanted o (yielded ops a.tmps) = true := by simp [Region.wanted, hg]
  rw [if_pos hw]
  obtain ⟨v', w', hr, h2, h3, h4, h5⟩ := run_append_own_at (P := Tryz.prog) (w := w) base t o.type e i0 z size bytes ht hi hz0 hz1 hz2 hzc hsz v n _ hown ad m c news hm hc h1 (by unfold maxLen; omega) hby hbase
  unfold Oper.wp execOp
  simp only [hop, resolve, invoke, builtin, Sem.run_bind, Sem.run_pure, Result.andThen_ok, List.map_toArray, List.map_cons, List.map_nil, hs, hx, hr]
  exact hK v' w' h2 h3 h5

theorem connect25' (sb : Nat) (w : World) : Calls Tryz.prog 25 #[.pointer (some ⟨sb, 0, none⟩)] w fun e w' => e = .returned (.pointer (some ⟨w.heap.size, 0, none⟩)) ∧ w'.heap[w.heap.size]? = some (.cells #[.pointer (some ⟨sb, 0, none⟩), .slice none 0 0, .bool false] 103) ∧ w'.heap.size = w.heap.size + 1 ∧ Below w.heap.size w w' := by
  refine (connect25 sb w).mono ?_
  rintro e w' ⟨rfl, rfl⟩
  exact ⟨rfl, heapNew _ _, by simp, (Below.refl _ w).alloc (Nat.le_refl _) _⟩

/-- Connect in a region that draws. -/
theorem step_connect {ops : Array Oper} {o : Oper} {a : Act} {w : World} {K : Act → World → Prop} {Q : Exit → Act → World → Prop} {E : Prop} (hg : o.guard = none) (x : Operand)
    (hop : o.op = .call { callee := .value (.func 25), args := #[x], argTypes := #[72] }) (sb : Nat) (hx : a.eval x = .pointer (some ⟨sb, 0, none⟩))
    (hK : ∀ w', w'.heap[w.heap.size]? = some (.cells #[.pointer (some ⟨sb, 0, none⟩), .slice none 0 0, .bool false] 103) → w'.heap.size = w.heap.size + 1 → Below w.heap.size w w' → K (a.put o.dst (.pointer (some ⟨w.heap.size, 0, none⟩))) w') :
    if Region.wanted o (yielded ops a.tmps) = true then Oper.wp Tryz.prog o a w K Q else E := by
  have hw : Region.wanted o (yielded ops a.tmps) = true := by simp [Region.wanted, hg]
  rw [if_pos hw]
  have hr : (execOp a.eval o).run Tryz.prog w = .ok (.enter 25 #[.pointer (some ⟨sb, 0, none⟩)]) w := by
    simp [execOp, hop, resolve, invoke, go_sem]
    rw [← hx]
    cases x <;> simp [Act.eval]
  unfold Oper.wp
  rw [hr, Oper.upon_enter]
  refine (connect25' sb w).mono ?_
  rintro e w' ⟨rfl, h1, h2, h3⟩
  exact hK w' h1 h2 h3

/-- One connection more. -/
theorem HostAt.more {wr w2 w4 : World} {hb db nb sb : Nat} {mb : Option Nat} {blk : Int} {L : Ld} {F : Nat → Prop} {B : Nat} {cv v5 : Value} {m : Nat} {cb : Nat → Nat} {c : Nat → Cn} {N : Nat} {ob : Obj} (H : HostAt wr hb db nb sb mb blk L F B cv m cb c) (hq : ∀ i, c i = ⟨[], false⟩) (hN : N = wr.heap.size) (hBN : B ≤ N)
    (h2 : w2.heap[N]? = some (.cells #[.pointer (some ⟨sb, 0, none⟩), .slice none 0 0, .bool false] 103)) (hs2 : w2.heap.size = N + 1) (hb2 : Below N wr w2)
    (ho4 : w4.ownsRow B 76 1 v5 (m + 1) (ptrs cb m ++ [.pointer (some ⟨N, 0, none⟩)])) (hg4 : (w2.alloc ob).grownBy w4 cv.ownBlock) (hl4 : v5.ownBlock = cv.ownBlock ∨ v5.ownBlock = some (w2.alloc ob).heap.size) :
    HostAt (w4.setCell ⟨hb, 2, none⟩ v5) hb db nb sb mb blk L F B v5 (m + 1) (fun i => if i = m then N else cb i) c ∧ Keep (HG hb db F cv m cb) wr (w4.setCell ⟨hb, 2, none⟩ v5) ∧ ∀ b, HG hb db F v5 (m + 1) (fun i => if i = m then N else cb i) b → HG hb db F cv m cb b ∨ N ≤ b := by
  have lh : hb < N := hN ▸ ltB H.hh
  have ld : db < N := hN ▸ ltB H.hd
  have nhd : db ≠ hb := by
    intro e
    have h := H.hd
    rw [e, H.hh] at h
    simp at h
  have nh : cv.ownBlock ≠ some hb := fun e => own_neE H.ho e H.hh (by decide) rfl
  have nd : cv.ownBlock ≠ some db := fun e => own_neE H.ho e H.hd (by decide) rfl
  have nN : cv.ownBlock ≠ some N := fun e => by have := (own_ltE H.ho e).2; omega
  have hA : (w2.alloc ob).heap.size = N + 2 := by rw [World.size_alloc, hs2]
  have X4 : ∀ k, k < N → cv.ownBlock ≠ some k → w4.heap[k]? = wr.heap[k]? := fun k hk hne =>
    ((hg4.block k (by omega) (fun e => hne e.symm)).trans (heapOld w2 ob (by omega))).trans (hb2.block k hk)
  have X : ∀ k, k < N → k ≠ hb → cv.ownBlock ≠ some k → (w4.setCell ⟨hb, 2, none⟩ v5).heap[k]? = wr.heap[k]? := fun k hk h1 hne => (heapSetO h1 _ _).trans (X4 k hk hne)
  have hh4 := (X4 hb lh nh).trans H.hh
  have hsz4 : N + 2 ≤ w4.heap.size := hA ▸ hg4.size
  have hcn : ∀ i, i < m → cb i < N ∧ cb i ≠ hb ∧ cv.ownBlock ≠ some (cb i) := fun i hi => by
    obtain ⟨cw, g1, _⟩ := (H.hc i hi).mem
    refine ⟨hN ▸ ltB g1, fun e => ?_, fun e => own_neE H.ho e g1 (by decide) rfl⟩
    rw [e, H.hh] at g1
    simp at g1
  have hFN : ∀ b, F b → b < N := fun b h => hN ▸ H.hs.lt b h
  have hsz : wr.heap.size ≤ (w4.setCell ⟨hb, 2, none⟩ v5).heap.size := by rw [World.size_setCell]; omega
  refine ⟨⟨by simpa using heapSet hh4 2 v5, (X db ld nhd nd).trans H.hd, H.hs.kept hsz (fun b hF => X b (hFN b hF) (fun e => H.hF hb (Or.inl rfl) (e ▸ hF)) (fun e => H.hF b (Or.inr (Or.inr e)) hF)), fun i hi => ?_, fun i j hi hj e => ?_, ?_, fun g hg hFg => ?_, fun b hb' => ?_, fun i hi => H.fr i (by omega)⟩, ⟨hg4.os.trans hb2.os, hg4.tape.trans hb2.tape, hg4.output.trans hb2.output, hsz, fun k hk hG => X k (by omega) (fun e => hG (Or.inl e)) (fun e => hG (Or.inr (Or.inr (Or.inr (Or.inl e)))))⟩, fun b hb' => ?_⟩
  · by_cases him : i = m
    · subst him
      rw [if_pos rfl]
      refine ⟨⟨.slice none 0 0, ?_, Or.inl ⟨by rw [hq i], Or.inl rfl⟩, fun g o n d h => by simp at h⟩, fun h => by have := hFN _ h; omega⟩
      rw [heapSetO (by omega), hg4.block N (by omega) (fun e => nN e.symm), heapOld w2 ob (by omega), h2, hq i]
    · rw [if_neg him]
      obtain ⟨c1, c2, c3⟩ := hcn i (by omega)
      obtain ⟨⟨cw, g1, g2, g3⟩, g4⟩ := H.hc i (by omega)
      refine ⟨⟨cw, (X _ c1 c2 c3).trans g1, ?_, fun g o n d h => ⟨(g3 g o n d h).1, (g3 g o n d h).2.1, Nat.lt_of_lt_of_le (g3 g o n d h).2.2 hsz⟩⟩, g4⟩
      rw [hq i] at g2 ⊢
      rcases g2 with g2 | ⟨g2, _⟩
      · exact Or.inl g2
      · simp at g2
  · by_cases h1 : i = m
    · by_cases h2 : j = m
      · omega
      · rw [if_pos h1, if_neg h2] at e
        have := (hcn j (by omega)).1
        omega
    · by_cases h2 : j = m
      · rw [if_neg h1, if_pos h2] at e
        have := (hcn i (by omega)).1
        omega
      · rw [if_neg h1, if_neg h2] at e
        exact H.hi i j (by omega) (by omega) e
  · have e : ptrs (fun i => if i = m then N else cb i) (m + 1) = ptrs cb m ++ [.pointer (some ⟨N, 0, none⟩)] := by
      unfold ptrs
      rw [List.range_succ, List.map_append]
      congr 1
      · apply List.map_congr_left
        intro i hi
        have := List.mem_range.1 hi
        show Value.pointer (some ⟨if i = m then N else cb i, 0, none⟩) = _
        rw [if_neg (by omega)]
      · simp
    rw [e]
    exact own_keptE ho4 (fun g hg => heapSetO (own_neE ho4 hg hh4 (by decide)) _ _)
  · rcases hg with h | h | h
    · exact H.hF g (Or.inl h) hFg
    · exact H.hF g (Or.inr (Or.inl h)) hFg
    · rcases hl4 with h4 | h4
      · exact H.hF g (Or.inr (Or.inr (h4 ▸ h))) hFg
      · rw [h4, hA] at h
        injection h with h
        have := hFN g hFg
        omega
  · rcases hb' with h | h | h | h | ⟨i, hi, h⟩
    · exact H.lo b (Or.inl h)
    · exact H.lo b (Or.inr (Or.inl h))
    · exact H.lo b (Or.inr (Or.inr (Or.inl h)))
    · exact (own_ltE ho4 h).1
    · dsimp only at h
      split at h
      · omega
      · exact H.lo b (Or.inr (Or.inr (Or.inr (Or.inr ⟨i, by omega, h⟩))))
  · rcases hb' with h | h | h | h | ⟨i, hi, h⟩
    · exact Or.inl (Or.inl h)
    · exact Or.inl (Or.inr (Or.inl h))
    · exact Or.inl (Or.inr (Or.inr (Or.inl h)))
    · rcases hl4 with h4 | h4
      · exact Or.inl (Or.inr (Or.inr (Or.inr (Or.inl (h4 ▸ h)))))
      · rw [h4, hA] at h
        injection h with h
        exact Or.inr (by omega)
    · dsimp only at h
      split at h
      · exact Or.inr (by omega)
      · exact Or.inl (Or.inr (Or.inr (Or.inr (Or.inr ⟨i, by omega, h⟩))))

theorem HostAt.kept {w w' : World} {hb db nb sb : Nat} {mb : Option Nat} {blk : Int} {L : Ld} {F : Nat → Prop} {B : Nat} {cv : Value} {m : Nat} {cb : Nat → Nat} {c : Nat → Cn} (H : HostAt w hb db nb sb mb blk L F B cv m cb c) (hs : w.heap.size ≤ w'.heap.size) (hk : ∀ k, k < w.heap.size → w'.heap[k]? = w.heap[k]?) : HostAt w' hb db nb sb mb blk L F B cv m cb c := by
  refine ⟨(hk hb (ltB H.hh)).trans H.hh, (hk db (ltB H.hd)).trans H.hd, H.hs.kept hs (fun b hF => hk b (H.hs.lt b hF)), fun i hi => ?_, H.hi, own_keptE H.ho (fun g hg => hk g (own_ltE H.ho hg).2), H.hF, H.lo, H.fr⟩
  obtain ⟨⟨cw, g1, g2, g3⟩, g4⟩ := H.hc i hi
  exact ⟨⟨cw, (hk _ (ltB g1)).trans g1, g2.kept hs (fun g o n d _ hg => hk g hg), fun g o n d h => ⟨(g3 g o n d h).1, (g3 g o n d h).2.1, Nat.lt_of_lt_of_le (g3 g o n d h).2.2 hs⟩⟩, g4⟩
/-- A host whose connections wait for nothing, its own blocks kept. -/
theorem HostAt.quiet {w w' : World} {hb db nb sb : Nat} {mb : Option Nat} {blk : Int} {L : Ld} {F : Nat → Prop} {B : Nat} {cv : Value} {m : Nat} {cb : Nat → Nat} {c : Nat → Cn} (H : HostAt w hb db nb sb mb blk L F B cv m cb c) (hq : ∀ i, (c i).waits = []) (hs : w.heap.size ≤ w'.heap.size) (hk : ∀ k, HG hb db F cv m cb k → w'.heap[k]? = w.heap[k]?) : HostAt w' hb db nb sb mb blk L F B cv m cb c := by
  refine ⟨(hk hb (Or.inl rfl)).trans H.hh, (hk db (Or.inr (Or.inl rfl))).trans H.hd, H.hs.kept hs (fun b hF => hk b (Or.inr (Or.inr (Or.inl hF)))), fun i hi => ?_, H.hi, own_keptE H.ho (fun g hg => hk g (Or.inr (Or.inr (Or.inr (Or.inl hg))))), H.hF, H.lo, H.fr⟩
  obtain ⟨⟨cw, g1, g2, g3⟩, g4⟩ := H.hc i hi
  refine ⟨⟨cw, (hk _ (Or.inr (Or.inr (Or.inr (Or.inr ⟨i, hi, rfl⟩))))).trans g1, ?_, fun g o n d h => ⟨(g3 g o n d h).1, (g3 g o n d h).2.1, Nat.lt_of_lt_of_le (g3 g o n d h).2.2 hs⟩⟩, g4⟩
  rw [hq i] at g2 ⊢
  rcases g2 with g2 | ⟨g2, _⟩
  · exact Or.inl g2
  · simp at g2
theorem HostAt.lt {w : World} {hb db nb sb : Nat} {mb : Option Nat} {blk : Int} {L : Ld} {F : Nat → Prop} {B : Nat} {cv : Value} {m : Nat} {cb : Nat → Nat} {c : Nat → Cn} (H : HostAt w hb db nb sb mb blk L F B cv m cb c) (b : Nat) (h : HG hb db F cv m cb b) : b < w.heap.size := by
  rcases h with rfl | rfl | h | h | ⟨i, hi, rfl⟩
  · exact ltB H.hh
  · exact ltB H.hd
  · exact H.hs.lt b h
  · exact (own_ltE H.ho h).2
  · exact ltB (H.hc i hi).mem.choose_spec.1

/-- No connection's waiting bytes lie in this block. -/
def WaitN (w : World) (sb m : Nat) (cb : Nat → Nat) (c : Nat → Cn) (g : Nat) : Prop := ∀ j, j < m → ∀ cw, w.heap[cb j]? = some (.cells #[.pointer (some ⟨sb, 0, none⟩), cw, .bool (c j).bad] 103) → cw.ownBlock ≠ some g
/-- What a feeding leaves of a host. -/
theorem HostAt.fed {w w' : World} {hb db nb sb : Nat} {mb : Option Nat} {blk : Int} {L : Ld} {F : Nat → Prop} {B : Nat} {cv rv : Value} {cb : Nat → Nat} {c : Nat → Cn} {now : Int} {bs : List Int} (H : HostAt w hb db nb sb mb blk L F B cv 3 cb c) (hB : B ≤ w.heap.size) (i : Nat) (hi : i < 3) (P : FeedPost sb (cb i) F L (c i) now bs w rv w') :
    ∃ F', HostAt w' hb db nb sb mb blk (feedM L (c i) now bs).1 F' B cv 3 cb (fun j => if j = i then (feedM L (c i) now bs).2.1 else c j) ∧ Keep (HG hb db F cv 3 cb) w w' ∧ (∀ b, HG hb db F' cv 3 cb b → HG hb db F cv 3 cb b ∨ w.heap.size ≤ b) ∧ w'.ownsRow w.heap.size 5 1 rv (encs (feedM L (c i) now bs).2.2).length ((encs (feedM L (c i) now bs).2.2).map (Value.int .u8)) ∧ (∀ g, g < w.heap.size → WaitN w sb 3 cb c g → WaitN w' sb 3 cb (fun j => if j = i then (feedM L (c i) now bs).2.1 else c j) g) := by
  obtain ⟨F', s1, s2, s3, s4, s5, s6⟩ := P
  obtain ⟨ci, q1, q2, q3⟩ := (H.hc i hi).mem
  obtain ⟨xi, di, ei⟩ := q2.shape
  have hs := s4.size
  have X : ∀ k, k < w.heap.size → ¬ F k → k ≠ cb i → w'.heap[k]? = w.heap[k]? := fun k hk h1 h2 => s4.block k hk (fun h => h.elim h1 h2)
  have nh : hb ≠ cb i := by
    intro e
    rw [← e, H.hh] at q1
    simp at q1
  have nd : db ≠ cb i := by
    intro e
    rw [← e, H.hd] at q1
    simp at q1
  have hF' : ∀ k, k < w.heap.size → ¬ F k → ¬ F' k := fun k hk h1 h => (s3 k h).elim h1 (fun h => by omega)
  refine ⟨F', ⟨(X hb (ltB H.hh) (H.hF hb (Or.inl rfl)) nh).trans H.hh, (X db (ltB H.hd) (H.hF db (Or.inr (Or.inl rfl))) nd).trans H.hd, s1, fun j hj => ?_, H.hi, ?_, fun g hg => ?_, fun b hb' => ?_, fun j hj => ?_⟩, s4.mono (fun k h _ => ?_), fun b h => ?_, s5, fun g hg hw j hj cw' hcw' => ?_⟩
  · by_cases e : j = i
    · rw [if_pos e, e]
      exact s2
    · rw [if_neg e]
      obtain ⟨⟨cw, g1, g2, g3⟩, g4⟩ := H.hc j hj
      have hne : cb j ≠ cb i := fun h => e (H.hi j i hj hi h)
      refine ⟨⟨cw, (X _ (ltB g1) g4 hne).trans g1, ?_, fun g o n d h => ⟨hF' g (g3 g o n d h).2.2 (g3 g o n d h).1, (g3 g o n d h).2.1, Nat.lt_of_lt_of_le (g3 g o n d h).2.2 hs⟩⟩, hF' _ (ltB g1) g4⟩
      rcases g2 with g2 | ⟨h1, sg, so, cap, hv, h2, h3⟩
      · exact Or.inl g2
      · refine Or.inr ⟨h1, sg, so, cap, hv, Nat.lt_of_lt_of_le h2 hs, fun z u hz => ?_⟩
        have hgi : sg ≠ cb i := by
          intro e'
          have hl : 0 < (c j).waits.length := h1
          have h0 := h3 0 (.int .u8 ((c j).waits[0])) (by simp [hl])
          rw [e', cellB q1, ei] at h0
          rw [Nat.add_zero] at h0
          match so, h0 with
          | 0, h0 => simp at h0
          | 1, h0 => simp at h0
          | 2, h0 => simp at h0
          | n + 3, h0 => simp at h0
        exact (World.cell?_of_block (w := w) (X sg h2 (g3 sg so _ _ hv).1 hgi)).trans (h3 z u hz)
  · exact own_keptE H.ho (fun g hg => X g (own_ltE H.ho hg).2 (H.hF g (Or.inr (Or.inr hg))) (own_neE H.ho hg q1 (by decide)))
  · refine hF' g ?_ (H.hF g hg)
    rcases hg with rfl | rfl | h
    · exact ltB H.hh
    · exact ltB H.hd
    · exact (own_ltE H.ho h).2
  · rcases hb' with h | h | h | h | h
    · exact H.lo b (Or.inl h)
    · exact H.lo b (Or.inr (Or.inl h))
    · rcases s3 b h with h | h
      · exact H.lo b (Or.inr (Or.inr (Or.inl h)))
      · omega
    · exact H.lo b (Or.inr (Or.inr (Or.inr (Or.inl h))))
    · exact H.lo b (Or.inr (Or.inr (Or.inr (Or.inr h))))
  · rw [if_neg (by omega)]
    exact H.fr j hj
  · rcases h with h | h
    · exact Or.inr (Or.inr (Or.inl h))
    · exact Or.inr (Or.inr (Or.inr (Or.inr ⟨i, hi, h⟩)))
  · rcases h with h | h | h | h | h
    · exact Or.inl (Or.inl h)
    · exact Or.inl (Or.inr (Or.inl h))
    · rcases s3 b h with h | h
      · exact Or.inl (Or.inr (Or.inr (Or.inl h)))
      · exact Or.inr h
    · exact Or.inl (Or.inr (Or.inr (Or.inr (Or.inl h))))
    · exact Or.inl (Or.inr (Or.inr (Or.inr (Or.inr h))))
  · dsimp only at hcw'
    by_cases e : j = i
    · rw [if_pos e, e] at hcw'
      exact s6 g hg (hw i hi) cw' hcw'
    · rw [if_neg e] at hcw'
      have hm := (H.hc j hj)
      refine hw j hj cw' ((X _ (ltB hm.mem.choose_spec.1) hm.nF (fun h => e (H.hi j i hj hi h))).symm.trans hcw')
/-- Bytes that no connection keeps are written into. -/
theorem HostAt.keptE {w w' : World} {hb db nb sb : Nat} {mb : Option Nat} {blk : Int} {L : Ld} {F : Nat → Prop} {B : Nat} {cv : Value} {m : Nat} {cb : Nat → Nat} {c : Nat → Cn} (H : HostAt w hb db nb sb mb blk L F B cv m cb c) (wb : Nat) (hn : ¬ HG hb db F cv m cb wb) (hw : WaitN w sb m cb c wb) (hs : w.heap.size ≤ w'.heap.size) (hk : ∀ k, k < w.heap.size → k ≠ wb → w'.heap[k]? = w.heap[k]?) : HostAt w' hb db nb sb mb blk L F B cv m cb c := by
  have hne : ∀ k, HG hb db F cv m cb k → k ≠ wb := fun k h e => hn (e ▸ h)
  refine ⟨(hk hb (ltB H.hh) (hne hb (Or.inl rfl))).trans H.hh, (hk db (ltB H.hd) (hne db (Or.inr (Or.inl rfl)))).trans H.hd, H.hs.kept hs (fun b hF => hk b (H.hs.lt b hF) (hne b (Or.inr (Or.inr (Or.inl hF))))), fun i hi => ?_, H.hi, own_keptE H.ho (fun g hg => hk g (own_ltE H.ho hg).2 (hne g (Or.inr (Or.inr (Or.inr (Or.inl hg)))))), H.hF, H.lo, H.fr⟩
  obtain ⟨⟨cw, g1, g2, g3⟩, g4⟩ := H.hc i hi
  exact ⟨⟨cw, (hk _ (ltB g1) (hne _ (Or.inr (Or.inr (Or.inr (Or.inr ⟨i, hi, rfl⟩)))))).trans g1, g2.kept hs (fun g o n d e hg => hk g hg (fun e' => hw i hi cw g1 (by rw [e, e']; rfl))), fun g o n d h => ⟨(g3 g o n d h).1, (g3 g o n d h).2.1, Nat.lt_of_lt_of_le (g3 g o n d h).2.2 hs⟩⟩, g4⟩
end Go.Proofs.YtlamgpeiolfffaaGreatDoor

namespace Go.Proofs.YtlamgpeiolfffaaGreatDoor
open Go.RowKit Go.Maps
variable [dK] [iK]

set_option maxRecDepth 100000 in
set_option maxHeartbeats 4000000 in
theorem do_define (sb : Nat) (st : Int) (L L' _L2 : Ld) (F : Nat → Prop) (q : Rq) (c a b : Int) (w : World) (hop : q.op = 1) (hS : SrvAt w st sb L F)
    (hc : Hid (∀ w1, SrvAt w1 st sb L F → Calls Tryz.prog 102 #[.pointer (some ⟨sb, 2, none⟩), .agg #[.int .u8 q.k0, .int .u8 q.k1, .int .u8 q.k2, .int .u8 q.k3, .int .u8 q.k4, .int .u8 q.k5, .int .u8 q.k6, .int .u8 q.k7], .agg #[.int .u8 q.kd, .int .u64 q.x, .int .u64 q.y]] w1 fun e w' => e = .returned (.agg #[.int .u8 c, .int .u64 a, .int .u64 b]) ∧ Out w1 st sb L' F w')) :
    Calls Tryz.prog 69 #[.pointer (some ⟨sb, 0, none⟩), .agg #[.int .u8 q.op, .int .u8 q.k0, .int .u8 q.k1, .int .u8 q.k2, .int .u8 q.k3, .int .u8 q.k4, .int .u8 q.k5, .int .u8 q.k6, .int .u8 q.k7, .int .u8 q.kd, .int .u64 q.x, .int .u64 q.y, .int .u64 q.n]] w fun e w' => e = .returned (.agg #[.int .u8 c, .int .u64 a, .int .u64 b]) ∧ Out w st sb L' F w' := by
  rw [hop]
  have hFl := hS.lt
  obtain ⟨W, hW⟩ : ∃ W, W = (w.alloc (.cells #[.int .u8 1, .int .u8 q.k0, .int .u8 q.k1, .int .u8 q.k2, .int .u8 q.k3, .int .u8 q.k4, .int .u8 q.k5, .int .u8 q.k6, .int .u8 q.k7, .int .u8 q.kd, .int .u64 q.x, .int .u64 q.y, .int .u64 q.n] 58)).alloc (.cells #[.int .u8 0, .int .u64 0, .int .u64 0] 40) := ⟨_, rfl⟩
  have hB : Below w.heap.size w W := hW ▸ ((Below.refl _ w).alloc (Nat.le_refl _) _).alloc (by simp) _
  have hk0 : W.heap[w.heap.size]? = some (.cells #[.int .u8 1, .int .u8 q.k0, .int .u8 q.k1, .int .u8 q.k2, .int .u8 q.k3, .int .u8 q.k4, .int .u8 q.k5, .int .u8 q.k6, .int .u8 q.k7, .int .u8 q.kd, .int .u64 q.x, .int .u64 q.y, .int .u64 q.n] 58) := hW ▸ upB (heapNew _ _) _
  have hr0 : W.heap[w.heap.size + 1]? = some (.cells #[.int .u8 0, .int .u64 0, .int .u64 0] 40) := hW ▸ heapN (by simp)
  have hSW := hS.below hB (Nat.le_refl _)
  have a1 := cellB hk0
  have lr := ltB hr0
  go_enter Tryz.func69, Tryz.ntmps69
  go_upto_region 1 with fail
  rw [← hW]
  clear hW
  go_upto_region 3 with fail
  go_region_with (go_at_call 102; go_loud (refine (hc.out _ hSW.drew).mono ?_; rintro e w2 ⟨rfl, F', ho1, ho2, ho3⟩; have hr2 := (ho2.block _ lr (fun h => by have := hFl _ h; omega)).trans hr0; have c2 := cellB hr2; have f2 := frozenB hr2))
  all_goals go_wp2
  all_goals (
    refine bodyPost_ret (v := .agg #[.int .u8 c, .int .u64 a, .int .u64 b]) (by simp [results, Tryz.results69, go_sem, c2]) rfl ⟨rfl, ?_⟩
    exact Out.fin hB.drew lr hFl ho1 ho2 ho3 _ _ _)

end Go.Proofs.YtlamgpeiolfffaaGreatDoor
