import Derived.Test.YtlamgpeiolfffaaGreatDoorZz17
import Derived.Test.YtlamgpeiolfffaaGreatDoorZz18
import Derived.Test.YtlamgpeiolfffaaGreatDoorZz16
import Derived.Deep.RegionLaw
import Derived.Test.YtlamgpeiolfffaaGreatDoorZz13
namespace Go.Proofs.YtlamgpeiolfffaaGreatDoor
open Go.RowKit

/-- The blocks of a host. -/
def HG (hb db : Nat) (F : Nat → Prop) (cv : Value) (m : Nat) (cb : Nat → Nat) (b : Nat) : Prop := b = hb ∨ b = db ∨ F b ∨ cv.ownBlock = some b ∨ ∃ i, i < m ∧ b = cb i
def ptrs (cb : Nat → Nat) (m : Nat) : List Value := (List.range m).map fun i => .pointer (some ⟨cb i, 0, none⟩)
/-- A host in memory: its disk, its ledger, its connections. -/
structure HostAt (w : World) (hb db nb sb : Nat) (mb : Option Nat) (blk : Int) (L : Ld) (F : Nat → Prop) (B : Nat) (cv : Value) (m : Nat) (cb : Nat → Nat) (c : Nat → Cn) : Prop where
  hh : w.heap[hb]? = some (.cells #[.pointer (some ⟨db, 0, none⟩), .pointer (some ⟨sb, 0, none⟩), cv, .int .u64 blk] 75)
  hd : w.heap[db]? = some (.cells #[.map mb, .map (some nb), .slice none 0 0, .int .i64 (-1), .int .i64 (-1), .bool false] 81)
  hs : SrvAt w 0 sb L F
  hc : ∀ i, i < m → ConnAt w sb (cb i) (c i) F
  hi : ∀ i j, i < m → j < m → cb i = cb j → i = j
  ho : w.ownsRow B 76 1 cv m (ptrs cb m)
  hF : ∀ g, (g = hb ∨ g = db ∨ cv.ownBlock = some g) → ¬ F g
  lo : ∀ b, HG hb db F cv m cb b → B ≤ b
  fr : ∀ i, m ≤ i → c i = ⟨[], false⟩

theorem Tryz.info76 : (Tryz.prog.info? 76).map (fun i => (i.zero, i.size, i.bytes)) = some (some (.pointer none), 1, 8) := by kernel_rfl

theorem own_keptE {w w' : World} {base e sz : Nat} {v : Value} {n : Nat} {xs : List Value} (h : w.ownsRow base e sz v n xs) (hb : ∀ g, v.ownBlock = some g → w'.heap[g]? = w.heap[g]?) : w'.ownsRow base e sz v n xs := by
  obtain ⟨h1, h2⟩ := h
  refine ⟨h1, ?_⟩
  rcases h2 with h2 | ⟨g, cap, cur, hv, hg, hh, r⟩
  · exact Or.inl h2
  · exact Or.inr ⟨g, cap, cur, hv, hg, (hb g (by rw [hv]; rfl)).trans hh, r⟩
theorem own_sliceE {w : World} {base e sz : Nat} {v : Value} {n : Nat} {xs : List Value} (h : w.ownsRow base e sz v n xs) : ∃ a c, v = .slice a n c := by
  rcases h.2 with ⟨rfl, rfl⟩ | ⟨g, cap, cur, hv, _⟩
  · exact ⟨_, _, rfl⟩
  · exact ⟨_, _, hv⟩
theorem own_neE {w : World} {base e sz : Nat} {v : Value} {n : Nat} {xs : List Value} (h : w.ownsRow base e sz v n xs) {g k : Nat} (hg : v.ownBlock = some g) {a : Array Value} {t : TypeId} {fr : Nat × Nat} (hk : w.heap[k]? = some (.cells a t fr)) (ht : t ≠ e) : g ≠ k := by
  rcases h.2 with ⟨rfl, rfl⟩ | ⟨g', cap, cur, hv, _, hh, _⟩
  · simp [Value.ownBlock] at hg
  · rw [hv] at hg
    simp [Value.ownBlock] at hg
    subst hg
    intro e'
    subst e'
    rw [hh] at hk
    simp at hk
    exact ht hk.2.1.symm
theorem own_ltE {w : World} {base e sz : Nat} {v : Value} {n : Nat} {xs : List Value} (h : w.ownsRow base e sz v n xs) {g : Nat} (hg : v.ownBlock = some g) : base ≤ g ∧ g < w.heap.size := by
  rcases h.2 with ⟨rfl, rfl⟩ | ⟨g', cap, cur, hv, hb, hh, _⟩
  · simp [Value.ownBlock] at hg
  · rw [hv] at hg
    simp [Value.ownBlock] at hg
    subst hg
    exact ⟨hb, ltB hh⟩

/-- append in a region that draws, of whatever elements. -/
theorem step_append_any {ops : Array Oper} {o : Oper} {a : Act} {w : World} {K : Act → World → Prop} {Q : Exit → Act → World → Prop} {E : Prop} (hg : o.guard = none) (s x : Operand) (t e : TypeId) (i0 : TypeInfo) (z : Value) (size bytes : Nat)
    (ht : Tryz.prog.underlying t = some (.slice e)) (hi : Tryz.prog.info? e = some i0) (hz0 : i0.zero = some z) (hz1 : i0.size = size) (hz2 : i0.bytes = bytes) (hzc : z.cells.size = size) (hsz : 0 < size)
    (hop : o.op = .call { callee := .builtin .append, args := #[s, x], argTypes := #[t, t] }) (base : Nat) (v : Value) (n : Nat) (xs : List Value) (hs : a.eval s = v) (hown : w.ownsRow base e size v n xs)
    (ad : Addr) (m c : Nat) (news : List Value) (hx : a.eval x = .slice (some ad) m c) (hm : news.length = m * size) (hc : ∀ j u, news[j]? = some u → w.cell? (ad.add j) = some u) (h1 : ∀ u ∈ news, u.oneCell' = true) (hb : n + m ≤ 4194304) (hby : (n + m) * bytes ≤ 140737488355328) (hbase : base ≤ w.heap.size)
    (hK : ∀ v' w', w'.ownsRow base e size v' (n + m) (xs ++ news) → w.grownBy w' v.ownBlock → (v'.ownBlock = v.ownBlock ∨ v'.ownBlock = some w.heap.size) → K (a.put o.dst v') w') :
    if Region.wanted o (yielded ops a.tmps) = true then Oper.wp Tryz.prog o a w K Q else E := by
  have hw : Region.wanted o (yielded ops a.tmps) = true := by simp [Region.wanted, hg]
  rw [if_pos hw]
  obtain ⟨v', w', hr, h2, h3, h4, h5⟩ := run_append_own_at (P := Tryz.prog) (w := w) base t o.type e i0 z size bytes ht hi hz0 hz1 hz2 hzc hsz v n _ hown ad m c news hm hc h1 (by unfold maxLen; omega) hby hbase
  unfold Oper.wp execOp
  simp only [hop, resolve, invoke, builtin, Sem.run_bind, Sem.run_pure, Result.andThen_ok, List.map_toArray, List.map_cons, List.map_nil, hs, hx, hr]
  exact hK v' w' h2 h3 h5

theorem connect25' (sb : Nat) (w : World) : Calls Tryz.prog 25 #[.pointer (some ⟨sb, 0, none⟩)] w fun e w' => e = .returned (.pointer (some ⟨w.heap.size, 0, none⟩)) ∧ w'.heap[w.heap.size]? = some (.cells #[.pointer (some ⟨sb, 0, none⟩), .slice none 0 0, .bool false] 103) ∧ w'.heap.size = w.heap.size + 1 ∧ Below w.heap.size w w' := by
  refine (connect25 sb w).mono ?_
  rintro e w' ⟨rfl, rfl⟩
  exact ⟨rfl, heapNew _ _, by simp, (Below.refl _ w).alloc (Nat.le_refl _) _⟩

/-- Connect in a region that draws. -/
theorem step_connect {ops : Array Oper} {o : Oper} {a : Act} {w : World} {K : Act → World → Prop} {Q : Exit → Act → World → Prop} {E : Prop} (hg : o.guard = none) (x : Operand)
    (hop : o.op = .call { callee := .value (.func 25), args := #[x], argTypes := #[72] }) (sb : Nat) (hx : a.eval x = .pointer (some ⟨sb, 0, none⟩))
    (hK : ∀ w', w'.heap[w.heap.size]? = some (.cells #[.pointer (some ⟨sb, 0, none⟩), .slice none 0 0, .bool false] 103) → w'.heap.size = w.heap.size + 1 → Below w.heap.size w w' → K (a.put o.dst (.pointer (some ⟨w.heap.size, 0, none⟩))) w') :
    if Region.wanted o (yielded ops a.tmps) = true then Oper.wp Tryz.prog o a w K Q else E := by
  have hw : Region.wanted o (yielded ops a.tmps) = true := by simp [Region.wanted, hg]
  rw [if_pos hw]
  have hr : (execOp a.eval o).run Tryz.prog w = .ok (.enter 25 #[.pointer (some ⟨sb, 0, none⟩)]) w := by
    simp [execOp, hop, resolve, invoke, go_sem]
    rw [← hx]
    cases x <;> simp [Act.eval]
  unfold Oper.wp
  rw [hr, Oper.upon_enter]
  refine (connect25' sb w).mono ?_
  rintro e w' ⟨rfl, h1, h2, h3⟩
  exact hK w' h1 h2 h3

/-- One connection more. -/
theorem HostAt.more {wr w2 w4 : World} {hb db nb sb : Nat} {mb : Option Nat} {blk : Int} {L : Ld} {F : Nat → Prop} {B : Nat} {cv v5 : Value} {m : Nat} {cb : Nat → Nat} {c : Nat → Cn} {N : Nat} {ob : Obj} (H : HostAt wr hb db nb sb mb blk L F B cv m cb c) (hq : ∀ i, c i = ⟨[], false⟩) (hN : N = wr.heap.size) (hBN : B ≤ N)
    (h2 : w2.heap[N]? = some (.cells #[.pointer (some ⟨sb, 0, none⟩), .slice none 0 0, .bool false] 103)) (hs2 : w2.heap.size = N + 1) (hb2 : Below N wr w2)
    (ho4 : w4.ownsRow B 76 1 v5 (m + 1) (ptrs cb m ++ [.pointer (some ⟨N, 0, none⟩)])) (hg4 : (w2.alloc ob).grownBy w4 cv.ownBlock) (hl4 : v5.ownBlock = cv.ownBlock ∨ v5.ownBlock = some (w2.alloc ob).heap.size) :
    HostAt (w4.setCell ⟨hb, 2, none⟩ v5) hb db nb sb mb blk L F B v5 (m + 1) (fun i => if i = m then N else cb i) c ∧ Keep (HG hb db F cv m cb) wr (w4.setCell ⟨hb, 2, none⟩ v5) ∧ ∀ b, HG hb db F v5 (m + 1) (fun i => if i = m then N else cb i) b → HG hb db F cv m cb b ∨ N ≤ b := by
  have lh : hb < N := hN ▸ ltB H.hh
  have ld : db < N := hN ▸ ltB H.hd
  have nhd : db ≠ hb := by
    intro e
    have h := H.hd
    rw [e, H.hh] at h
    simp at h
  have nh : cv.ownBlock ≠ some hb := fun e => own_neE H.ho e H.hh (by decide) rfl
  have nd : cv.ownBlock ≠ some db := fun e => own_neE H.ho e H.hd (by decide) rfl
  have nN : cv.ownBlock ≠ some N := fun e => by have := (own_ltE H.ho e).2; omega
  have hA : (w2.alloc ob).heap.size = N + 2 := by rw [World.size_alloc, hs2]
  have X4 : ∀ k, k < N → cv.ownBlock ≠ some k → w4.heap[k]? = wr.heap[k]? := fun k hk hne =>
    ((hg4.block k (by omega) (fun e => hne e.symm)).trans (heapOld w2 ob (by omega))).trans (hb2.block k hk)
  have X : ∀ k, k < N → k ≠ hb → cv.ownBlock ≠ some k → (w4.setCell ⟨hb, 2, none⟩ v5).heap[k]? = wr.heap[k]? := fun k hk h1 hne => (heapSetO h1 _ _).trans (X4 k hk hne)
  have hh4 := (X4 hb lh nh).trans H.hh
  have hsz4 : N + 2 ≤ w4.heap.size := hA ▸ hg4.size
  have hcn : ∀ i, i < m → cb i < N ∧ cb i ≠ hb ∧ cv.ownBlock ≠ some (cb i) := fun i hi => by
    obtain ⟨cw, g1, _⟩ := (H.hc i hi).mem
    refine ⟨hN ▸ ltB g1, fun e => ?_, fun e => own_neE H.ho e g1 (by decide) rfl⟩
    rw [e, H.hh] at g1
    simp at g1
  have hFN : ∀ b, F b → b < N := fun b h => hN ▸ H.hs.lt b h
  have hsz : wr.heap.size ≤ (w4.setCell ⟨hb, 2, none⟩ v5).heap.size := by rw [World.size_setCell]; omega
  refine ⟨⟨by simpa using heapSet hh4 2 v5, (X db ld nhd nd).trans H.hd, H.hs.kept hsz (fun b hF => X b (hFN b hF) (fun e => H.hF hb (Or.inl rfl) (e ▸ hF)) (fun e => H.hF b (Or.inr (Or.inr e)) hF)), fun i hi => ?_, fun i j hi hj e => ?_, ?_, fun g hg hFg => ?_, fun b hb' => ?_, fun i hi => H.fr i (by omega)⟩, ⟨hg4.os.trans hb2.os, hg4.tape.trans hb2.tape, hg4.output.trans hb2.output, hsz, fun k hk hG => X k (by omega) (fun e => hG (Or.inl e)) (fun e => hG (Or.inr (Or.inr (Or.inr (Or.inl e)))))⟩, fun b hb' => ?_⟩
  · by_cases him : i = m
    · subst him
      rw [if_pos rfl]
      refine ⟨⟨.slice none 0 0, ?_, Or.inl ⟨by rw [hq i], Or.inl rfl⟩, fun g o n d h => by simp at h⟩, fun h => by have := hFN _ h; omega⟩
      rw [heapSetO (by omega), hg4.block N (by omega) (fun e => nN e.symm), heapOld w2 ob (by omega), h2, hq i]
    · rw [if_neg him]
      obtain ⟨c1, c2, c3⟩ := hcn i (by omega)
      obtain ⟨⟨cw, g1, g2, g3⟩, g4⟩ := H.hc i (by omega)
      refine ⟨⟨cw, (X _ c1 c2 c3).trans g1, ?_, fun g o n d h => ⟨(g3 g o n d h).1, (g3 g o n d h).2.1, Nat.lt_of_lt_of_le (g3 g o n d h).2.2 hsz⟩⟩, g4⟩
      rw [hq i] at g2 ⊢
      rcases g2 with g2 | ⟨g2, _⟩
      · exact Or.inl g2
      · simp at g2
  · by_cases h1 : i = m
    · by_cases h2 : j = m
      · omega
      · rw [if_pos h1, if_neg h2] at e
        have := (hcn j (by omega)).1
        omega
    · by_cases h2 : j = m
      · rw [if_neg h1, if_pos h2] at e
        have := (hcn i (by omega)).1
        omega
      · rw [if_neg h1, if_neg h2] at e
        exact H.hi i j (by omega) (by omega) e
  · have e : ptrs (fun i => if i = m then N else cb i) (m + 1) = ptrs cb m ++ [.pointer (some ⟨N, 0, none⟩)] := by
      unfold ptrs
      rw [List.range_succ, List.map_append]
      congr 1
      · apply List.map_congr_left
        intro i hi
        have := List.mem_range.1 hi
        show Value.pointer (some ⟨if i = m then N else cb i, 0, none⟩) = _
        rw [if_neg (by omega)]
      · simp
    rw [e]
    exact own_keptE ho4 (fun g hg => heapSetO (own_neE ho4 hg hh4 (by decide)) _ _)
  · rcases hg with h | h | h
    · exact H.hF g (Or.inl h) hFg
    · exact H.hF g (Or.inr (Or.inl h)) hFg
    · rcases hl4 with h4 | h4
      · exact H.hF g (Or.inr (Or.inr (h4 ▸ h))) hFg
      · rw [h4, hA] at h
        injection h with h
        have := hFN g hFg
        omega
  · rcases hb' with h | h | h | h | ⟨i, hi, h⟩
    · exact H.lo b (Or.inl h)
    · exact H.lo b (Or.inr (Or.inl h))
    · exact H.lo b (Or.inr (Or.inr (Or.inl h)))
    · exact (own_ltE ho4 h).1
    · dsimp only at h
      split at h
      · omega
      · exact H.lo b (Or.inr (Or.inr (Or.inr (Or.inr ⟨i, by omega, h⟩))))
  · rcases hb' with h | h | h | h | ⟨i, hi, h⟩
    · exact Or.inl (Or.inl h)
    · exact Or.inl (Or.inr (Or.inl h))
    · exact Or.inl (Or.inr (Or.inr (Or.inl h)))
    · rcases hl4 with h4 | h4
      · exact Or.inl (Or.inr (Or.inr (Or.inr (Or.inl (h4 ▸ h)))))
      · rw [h4, hA] at h
        injection h with h
        exact Or.inr (by omega)
    · dsimp only at h
      split at h
      · exact Or.inr (by omega)
      · exact Or.inl (Or.inr (Or.inr (Or.inr (Or.inr ⟨i, by omega, h⟩))))

theorem HostAt.kept {w w' : World} {hb db nb sb : Nat} {mb : Option Nat} {blk : Int} {L : Ld} {F : Nat → Prop} {B : Nat} {cv : Value} {m : Nat} {cb : Nat → Nat} {c : Nat → Cn} (H : HostAt w hb db nb sb mb blk L F B cv m cb c) (hs : w.heap.size ≤ w'.heap.size) (hk : ∀ k, k < w.heap.size → w'.heap[k]? = w.heap[k]?) : HostAt w' hb db nb sb mb blk L F B cv m cb c := by
  refine ⟨(hk hb (ltB H.hh)).trans H.hh, (hk db (ltB H.hd)).trans H.hd, H.hs.kept hs (fun b hF => hk b (H.hs.lt b hF)), fun i hi => ?_, H.hi, own_keptE H.ho (fun g hg => hk g (own_ltE H.ho hg).2), H.hF, H.lo, H.fr⟩
  obtain ⟨⟨cw, g1, g2, g3⟩, g4⟩ := H.hc i hi
  exact ⟨⟨cw, (hk _ (ltB g1)).trans g1, g2.kept hs (fun g o n d _ hg => hk g hg), fun g o n d h => ⟨(g3 g o n d h).1, (g3 g o n d h).2.1, Nat.lt_of_lt_of_le (g3 g o n d h).2.2 hs⟩⟩, g4⟩
/-- A host whose connections wait for nothing, its own blocks kept. -/
theorem HostAt.quiet {w w' : World} {hb db nb sb : Nat} {mb : Option Nat} {blk : Int} {L : Ld} {F : Nat → Prop} {B : Nat} {cv : Value} {m : Nat} {cb : Nat → Nat} {c : Nat → Cn} (H : HostAt w hb db nb sb mb blk L F B cv m cb c) (hq : ∀ i, (c i).waits = []) (hs : w.heap.size ≤ w'.heap.size) (hk : ∀ k, HG hb db F cv m cb k → w'.heap[k]? = w.heap[k]?) : HostAt w' hb db nb sb mb blk L F B cv m cb c := by
  refine ⟨(hk hb (Or.inl rfl)).trans H.hh, (hk db (Or.inr (Or.inl rfl))).trans H.hd, H.hs.kept hs (fun b hF => hk b (Or.inr (Or.inr (Or.inl hF)))), fun i hi => ?_, H.hi, own_keptE H.ho (fun g hg => hk g (Or.inr (Or.inr (Or.inr (Or.inl hg))))), H.hF, H.lo, H.fr⟩
  obtain ⟨⟨cw, g1, g2, g3⟩, g4⟩ := H.hc i hi
  refine ⟨⟨cw, (hk _ (Or.inr (Or.inr (Or.inr (Or.inr ⟨i, hi, rfl⟩))))).trans g1, ?_, fun g o n d h => ⟨(g3 g o n d h).1, (g3 g o n d h).2.1, Nat.lt_of_lt_of_le (g3 g o n d h).2.2 hs⟩⟩, g4⟩
  rw [hq i] at g2 ⊢
  rcases g2 with g2 | ⟨g2, _⟩
  · exact Or.inl g2
  · simp at g2
theorem HostAt.lt {w : World} {hb db nb sb : Nat} {mb : Option Nat} {blk : Int} {L : Ld} {F : Nat → Prop} {B : Nat} {cv : Value} {m : Nat} {cb : Nat → Nat} {c : Nat → Cn} (H : HostAt w hb db nb sb mb blk L F B cv m cb c) (b : Nat) (h : HG hb db F cv m cb b) : b < w.heap.size := by
  rcases h with rfl | rfl | h | h | ⟨i, hi, rfl⟩
  · exact ltB H.hh
  · exact ltB H.hd
  · exact H.hs.lt b h
  · exact (own_ltE H.ho h).2
  · exact ltB (H.hc i hi).mem.choose_spec.1

/-- No connection's waiting bytes lie in this block. -/
def WaitN (w : World) (sb m : Nat) (cb : Nat → Nat) (c : Nat → Cn) (g : Nat) : Prop := ∀ j, j < m → ∀ cw, w.heap[cb j]? = some (.cells #[.pointer (some ⟨sb, 0, none⟩), cw, .bool (c j).bad] 103) → cw.ownBlock ≠ some g
/-- What a feeding leaves of a host. -/
theorem HostAt.fed {w w' : World} {hb db nb sb : Nat} {mb : Option Nat} {blk : Int} {L : Ld} {F : Nat → Prop} {B : Nat} {cv rv : Value} {cb : Nat → Nat} {c : Nat → Cn} {now : Int} {bs : List Int} (H : HostAt w hb db nb sb mb blk L F B cv 3 cb c) (hB : B ≤ w.heap.size) (i : Nat) (hi : i < 3) (P : FeedPost sb (cb i) F L (c i) now bs w rv w') :
    ∃ F', HostAt w' hb db nb sb mb blk (feedM L (c i) now bs).1 F' B cv 3 cb (fun j => if j = i then (feedM L (c i) now bs).2.1 else c j) ∧ Keep (HG hb db F cv 3 cb) w w' ∧ (∀ b, HG hb db F' cv 3 cb b → HG hb db F cv 3 cb b ∨ w.heap.size ≤ b) ∧ w'.ownsRow w.heap.size 5 1 rv (encs (feedM L (c i) now bs).2.2).length ((encs (feedM L (c i) now bs).2.2).map (Value.int .u8)) ∧ (∀ g, g < w.heap.size → WaitN w sb 3 cb c g → WaitN w' sb 3 cb (fun j => if j = i then (feedM L (c i) now bs).2.1 else c j) g) := by
  obtain ⟨F', s1, s2, s3, s4, s5, s6⟩ := P
  obtain ⟨ci, q1, q2, q3⟩ := (H.hc i hi).mem
  obtain ⟨xi, di, ei⟩ := q2.shape
  have hs := s4.size
  have X : ∀ k, k < w.heap.size → ¬ F k → k ≠ cb i → w'.heap[k]? = w.heap[k]? := fun k hk h1 h2 => s4.block k hk (fun h => h.elim h1 h2)
  have nh : hb ≠ cb i := by
    intro e
    rw [← e, H.hh] at q1
    simp at q1
  have nd : db ≠ cb i := by
    intro e
    rw [← e, H.hd] at q1
    simp at q1
  have hF' : ∀ k, k < w.heap.size → ¬ F k → ¬ F' k := fun k hk h1 h => (s3 k h).elim h1 (fun h => by omega)
  refine ⟨F', ⟨(X hb (ltB H.hh) (H.hF hb (Or.inl rfl)) nh).trans H.hh, (X db (ltB H.hd) (H.hF db (Or.inr (Or.inl rfl))) nd).trans H.hd, s1, fun j hj => ?_, H.hi, ?_, fun g hg => ?_, fun b hb' => ?_, fun j hj => ?_⟩, s4.mono (fun k h _ => ?_), fun b h => ?_, s5, fun g hg hw j hj cw' hcw' => ?_⟩
  · by_cases e : j = i
    · rw [if_pos e, e]
      exact s2
    · rw [if_neg e]
      obtain ⟨⟨cw, g1, g2, g3⟩, g4⟩ := H.hc j hj
      have hne : cb j ≠ cb i := fun h => e (H.hi j i hj hi h)
      refine ⟨⟨cw, (X _ (ltB g1) g4 hne).trans g1, ?_, fun g o n d h => ⟨hF' g (g3 g o n d h).2.2 (g3 g o n d h).1, (g3 g o n d h).2.1, Nat.lt_of_lt_of_le (g3 g o n d h).2.2 hs⟩⟩, hF' _ (ltB g1) g4⟩
      rcases g2 with g2 | ⟨h1, sg, so, cap, hv, h2, h3⟩
      · exact Or.inl g2
      · refine Or.inr ⟨h1, sg, so, cap, hv, Nat.lt_of_lt_of_le h2 hs, fun z u hz => ?_⟩
        have hgi : sg ≠ cb i := by
          intro e'
          have hl : 0 < (c j).waits.length := h1
          have h0 := h3 0 (.int .u8 ((c j).waits[0])) (by simp [hl])
          rw [e', cellB q1, ei] at h0
          rw [Nat.add_zero] at h0
          match so, h0 with
          | 0, h0 => simp at h0
          | 1, h0 => simp at h0
          | 2, h0 => simp at h0
          | n + 3, h0 => simp at h0
        exact (World.cell?_of_block (w := w) (X sg h2 (g3 sg so _ _ hv).1 hgi)).trans (h3 z u hz)
  · exact own_keptE H.ho (fun g hg => X g (own_ltE H.ho hg).2 (H.hF g (Or.inr (Or.inr hg))) (own_neE H.ho hg q1 (by decide)))
  · refine hF' g ?_ (H.hF g hg)
    rcases hg with rfl | rfl | h
    · exact ltB H.hh
    · exact ltB H.hd
    · exact (own_ltE H.ho h).2
  · rcases hb' with h | h | h | h | h
    · exact H.lo b (Or.inl h)
    · exact H.lo b (Or.inr (Or.inl h))
    · rcases s3 b h with h | h
      · exact H.lo b (Or.inr (Or.inr (Or.inl h)))
      · omega
    · exact H.lo b (Or.inr (Or.inr (Or.inr (Or.inl h))))
    · exact H.lo b (Or.inr (Or.inr (Or.inr (Or.inr h))))
  · rw [if_neg (by omega)]
    exact H.fr j hj
  · rcases h with h | h
    · exact Or.inr (Or.inr (Or.inl h))
    · exact Or.inr (Or.inr (Or.inr (Or.inr ⟨i, hi, h⟩)))
  · rcases h with h | h | h | h | h
    · exact Or.inl (Or.inl h)
    · exact Or.inl (Or.inr (Or.inl h))
    · rcases s3 b h with h | h
      · exact Or.inl (Or.inr (Or.inr (Or.inl h)))
      · exact Or.inr h
    · exact Or.inl (Or.inr (Or.inr (Or.inr (Or.inl h))))
    · exact Or.inl (Or.inr (Or.inr (Or.inr (Or.inr h))))
  · dsimp only at hcw'
    by_cases e : j = i
    · rw [if_pos e, e] at hcw'
      exact s6 g hg (hw i hi) cw' hcw'
    · rw [if_neg e] at hcw'
      have hm := (H.hc j hj)
      refine hw j hj cw' ((X _ (ltB hm.mem.choose_spec.1) hm.nF (fun h => e (H.hi j i hj hi h))).symm.trans hcw')
/-- Bytes that no connection keeps are written into. -/
theorem HostAt.keptE {w w' : World} {hb db nb sb : Nat} {mb : Option Nat} {blk : Int} {L : Ld} {F : Nat → Prop} {B : Nat} {cv : Value} {m : Nat} {cb : Nat → Nat} {c : Nat → Cn} (H : HostAt w hb db nb sb mb blk L F B cv m cb c) (wb : Nat) (hn : ¬ HG hb db F cv m cb wb) (hw : WaitN w sb m cb c wb) (hs : w.heap.size ≤ w'.heap.size) (hk : ∀ k, k < w.heap.size → k ≠ wb → w'.heap[k]? = w.heap[k]?) : HostAt w' hb db nb sb mb blk L F B cv m cb c := by
  have hne : ∀ k, HG hb db F cv m cb k → k ≠ wb := fun k h e => hn (e ▸ h)
  refine ⟨(hk hb (ltB H.hh) (hne hb (Or.inl rfl))).trans H.hh, (hk db (ltB H.hd) (hne db (Or.inr (Or.inl rfl)))).trans H.hd, H.hs.kept hs (fun b hF => hk b (H.hs.lt b hF) (hne b (Or.inr (Or.inr (Or.inl hF))))), fun i hi => ?_, H.hi, own_keptE H.ho (fun g hg => hk g (own_ltE H.ho hg).2 (hne g (Or.inr (Or.inr (Or.inr (Or.inl hg)))))), H.hF, H.lo, H.fr⟩
  obtain ⟨⟨cw, g1, g2, g3⟩, g4⟩ := H.hc i hi
  exact ⟨⟨cw, (hk _ (ltB g1) (hne _ (Or.inr (Or.inr (Or.inr (Or.inr ⟨i, hi, rfl⟩)))))).trans g1, g2.kept hs (fun g o n d e hg => hk g hg (fun e' => hw i hi cw g1 (by rw [e, e']; rfl))), fun g o n d h => ⟨(g3 g o n d h).1, (g3 g o n d h).2.1, Nat.lt_of_lt_of_le (g3 g o n d h).2.2 hs⟩⟩, g4⟩
end Go.Proofs.YtlamgpeiolfffaaGreatDoor

namespace Go.Proofs.YtlamgpeiolfffaaGreatDoor
open Go.RowKit

/-- A line of the document's book. -/
structure Ln where
  k : Ky
  kd : Int
  x : Int
  y : Int
  at_ : Int
  in_ : Int
structure Bk where
  time : Int
  ls : List Ln
def idx (k : Ky) : List Ln → Option Nat
  | [] => none
  | l :: r => if l.k = k then some 0 else (idx k r).map (· + 1)
def standsM (T : Int) (l : Ln) : Int × Int := if l.kd = 1 then (l.at_, 0) else if l.in_ = T / l.y then (l.at_, T / l.y) else (0, T / l.y)
def spacedM (T : Int) (l : Ln) (n : Int) : Int × Bool × Int :=
  if n = 0 then (l.at_, true, 0)
  else if 18446744073709551615 < (if l.at_ < T then T else l.at_) + n * l.x ∨ l.y < (n - 1) * l.x then (0, false, 18446744073709551615)
  else if (if l.at_ < T then T else l.at_) + (n - 1) * l.x ≤ orNever (T + l.y) then ((if l.at_ < T then T else l.at_) + n * l.x, true, 0)
  else (0, false, l.at_ - (l.y - (n - 1) * l.x))
def windowedM (T : Int) (l : Ln) (n : Int) : Int × Bool × Int :=
  if (standsM T l).1 + n ≤ l.x then ((standsM T l).1 + n, true, 0)
  else if l.x < n then (0, false, 18446744073709551615)
  else (0, false, orNever ((T / l.y + 1) * l.y))
def lnAdm (T : Int) (l : Ln) (n : Int) : Int × Bool × Int := if l.kd = 1 then spacedM T l n else windowedM T l n
def lnWin (T : Int) (l : Ln) : Int := if l.kd = 1 then 0 else T / l.y
def admitM (B : Bk) (i : Nat) (l : Ln) (n : Int) : Bk × Rp :=
  if (lnAdm B.time l n).2.1 then
    (if 0 < n then ⟨B.time, B.ls.set i ⟨l.k, l.kd, l.x, l.y, (lnAdm B.time l n).1, lnWin B.time l⟩⟩ else B, ⟨2, (lnAdm B.time l n).1, lnWin B.time l⟩)
  else (B, ⟨3, (lnAdm B.time l n).2.2, 0⟩)
def askM (B : Bk) (q : Rq) : Bk × Rp :=
  if q.op = 1 then
    if ¬ soundM q.kd q.x q.y then (B, ⟨8, 0, 0⟩)
    else if (idx q.key B.ls).isSome then (B, ⟨9, 0, 0⟩)
    else if B.ls.length = 12 then (B, ⟨5, 0, 0⟩)
    else (⟨B.time, B.ls ++ [⟨q.key, q.kd, q.x, q.y, 0, 0⟩]⟩, ⟨1, 0, 0⟩)
  else if q.op = 5 then (B, ⟨1, 0, 0⟩)
  else if q.op = 6 then (B, ⟨1, B.time, 0⟩)
  else match idx q.key B.ls with
    | none => (B, ⟨4, 0, 0⟩)
    | some i =>
      if q.op = 3 then (B, ⟨1, (standsM B.time (B.ls.getD i ⟨q.key, 0, 0, 0, 0, 0⟩)).1, (standsM B.time (B.ls.getD i ⟨q.key, 0, 0, 0, 0, 0⟩)).2⟩)
      else if q.op = 4 then (⟨B.time, B.ls.eraseIdx i⟩, ⟨1, 0, 0⟩)
      else admitM B i (B.ls.getD i ⟨q.key, 0, 0, 0, 0, 0⟩) q.n

/-- A key stands in the ledger as in the document's book. -/
structure LineRel (T : Int) (z : Qt) (l : Ln) : Prop where
  kd : z.kd = l.kd
  x : z.x = l.x
  y : z.y = l.y
  s : z.kd = 1 → z.lv = l.at_ ∧ z.wn = 0
  w : z.kd ≠ 1 → (z.wn = l.in_ ∧ z.lv = l.at_ ∨ z.lv = 0 ∧ l.in_ < z.wn) ∧ z.wn ≤ T / z.y
def Lines (T : Int) : List (Ky × Qt) → List Ln → Prop
  | [], [] => True
  | (k, z) :: r, l :: s => k = l.k ∧ LineRel T z l ∧ Lines T r s
  | _, _ => False
theorem Lines.len {T : Int} : ∀ {ks : List (Ky × Qt)} {ls : List Ln}, Lines T ks ls → ks.length = ls.length
  | [], [], _ => rfl
  | (_, _) :: r, l :: s, h => by simp only [List.length_cons]; rw [Lines.len h.2.2]
  | [], _ :: _, h => h.elim
  | _ :: _, [], h => h.elim
theorem Lines.mono {T T' : Int} (hT : T ≤ T') : ∀ {ks : List (Ky × Qt)} {ls : List Ln}, (∀ p ∈ ks, p.2.ok) → Lines T ks ls → Lines T' ks ls
  | [], [], _, _ => trivial
  | (k, z) :: r, l :: s, ho, h => by
    have hz : z.ok := ho (k, z) List.mem_cons_self
    refine ⟨h.1, ⟨h.2.1.kd, h.2.1.x, h.2.1.y, h.2.1.s, fun hk => ⟨(h.2.1.w hk).1, ?_⟩⟩, Lines.mono hT (fun p hp => ho p (List.mem_cons_of_mem _ hp)) h.2.2⟩
    have hy : 1 ≤ z.y := by rcases hz.kd with h | h; exact absurd h.1 hk; exact h.2
    exact Int.le_trans (h.2.1.w hk).2 (Int.ediv_le_ediv (by omega) hT)
  | [], _ :: _, _, h => h.elim
  | _ :: _, [], _, h => h.elim

theorem stands_sim (T : Int) (z : Qt) (l : Ln) (h : LineRel T z l) : ((turnM z T).lv, (turnM z T).wn) = standsM T l := by
  unfold turnM standsM
  rw [← h.kd]
  by_cases hk : z.kd = 1
  · rw [if_pos hk, if_pos hk, (h.s hk).1, (h.s hk).2]
  · rw [if_neg hk, if_neg hk, ← h.y]
    obtain ⟨h1, h2⟩ := h.w hk
    by_cases hw : T / z.y = z.wn
    · rw [if_pos hw]
      rcases h1 with ⟨e1, e2⟩ | ⟨e1, e2⟩
      · rw [if_pos (by omega), e2, hw]
      · rw [if_neg (by omega), e1, hw]
    · rw [if_neg hw]
      dsimp only
      rw [if_neg (by omega)]
theorem turn_rel (T : Int) (z : Qt) (l : Ln) (h : LineRel T z l) : LineRel T (turnM z T) l := by
  unfold turnM
  split
  · exact h
  · rename_i hk
    split
    · exact h
    · rename_i hw
      refine ⟨h.kd, h.x, h.y, fun h1 => absurd h1 hk, fun _ => ⟨?_, Int.le_refl _⟩⟩
      obtain ⟨h1, h2⟩ := h.w hk
      right
      refine ⟨rfl, ?_⟩
      show l.in_ < T / z.y
      omega

/-- An Admit of one line. -/
theorem adm_sim (T n : Int) (z : Qt) (l : Ln) (h : LineRel T z l) (hz : z.ok) (h0 : 0 ≤ T) (h1 : T ≤ 18446744073709551615) (hn : 0 ≤ n) :
    (admM z T n).2 = (if (lnAdm T l n).2.1 then ⟨2, (lnAdm T l n).1, lnWin T l⟩ else ⟨3, (lnAdm T l n).2.2, 0⟩) ∧
    LineRel T (admM z T n).1 (if (lnAdm T l n).2.1 ∧ 0 < n then ⟨l.k, l.kd, l.x, l.y, (lnAdm T l n).1, lnWin T l⟩ else l) := by
  have hx := hz.x; have hy := hz.y; have hlv := hz.lv
  by_cases hk : z.kd = 1
  · have hl : l.kd = 1 := h.kd ▸ hk
    have hkx : 1 ≤ z.x := by rcases hz.kd with h | h <;> omega
    obtain ⟨e1, e2⟩ := h.s hk
    have hw : lnWin T l = 0 := by unfold lnWin; rw [if_pos hl]
    have hst : startM z T = if l.at_ < T then T else l.at_ := by unfold startM; rw [e1]
    unfold admM lnAdm
    rw [if_pos hk, if_pos hl, hw]
    unfold admS spacedM
    rw [hst, ← h.x, ← h.y]
    generalize hS : (if l.at_ < T then T else l.at_) = S
    have hSb : T ≤ S ∧ l.at_ ≤ S ∧ (S = T ∨ S = l.at_) := by rw [← hS]; split <;> omega
    by_cases hn0 : n = 0
    · rw [if_pos hn0, if_pos hn0]
      simp only [if_true, true_and]
      rw [if_neg (by omega)]
      refine ⟨?_, h⟩
      rw [e1, e2]
    · rw [if_neg hn0, if_neg hn0]
      have hp0 : 0 ≤ (n - 1) * z.x := Int.mul_nonneg (by omega) (by omega)
      have hnx : n * z.x = (n - 1) * z.x + z.x := by rw [Int.sub_mul]; omega
      by_cases c1 : 18446744073709551615 < S + n * z.x
      · rw [if_pos c1, if_pos (Or.inl c1)]
        simp only [Bool.false_eq_true, if_false, false_and]
        exact ⟨trivial, h⟩
      · rw [if_neg c1]
        by_cases c2 : z.y < (n - 1) * z.x
        · rw [if_pos c2, if_pos (Or.inr c2)]
          simp only [Bool.false_eq_true, if_false, false_and]
          exact ⟨trivial, h⟩
        · rw [if_neg c2, if_neg (show ¬ (18446744073709551615 < S + n * z.x ∨ z.y < (n - 1) * z.x) by omega)]
          by_cases c3 : orNever (T + z.y) < S + (n - 1) * z.x
          · rw [if_pos c3, if_neg (show ¬ S + (n - 1) * z.x ≤ orNever (T + z.y) by omega)]
            simp only [Bool.false_eq_true, if_false, false_and]
            refine ⟨?_, h⟩
            have hat : S = l.at_ := by
              unfold orNever at c3
              split at c3 <;> omega
            rw [hat]
            congr 1
            omega
          · rw [if_neg c3, if_pos (show S + (n - 1) * z.x ≤ orNever (T + z.y) by omega)]
            simp only [if_true, true_and]
            rw [if_pos (show 0 < n by omega), e2]
            exact ⟨rfl, ⟨h.kd, rfl, rfl, fun _ => ⟨rfl, rfl⟩, fun h' => absurd hk h'⟩⟩
  · have hl : ¬ l.kd = 1 := fun e => hk (h.kd.trans e)
    have hky : 1 ≤ z.y := by rcases hz.kd with h | h; exact absurd h.1 hk; exact h.2
    have hs := stands_sim T z l h
    have ht := turn_rel T z l h
    have hto := turnM_ok' z T hz h0 h1
    have hw : lnWin T l = T / l.y := by unfold lnWin; rw [if_neg hl]
    have hs2 : (standsM T l).2 = T / l.y := by unfold standsM; rw [if_neg hl]; split <;> rfl
    have e1 : (turnM z T).lv = (standsM T l).1 := by rw [← hs]
    have e2 : (turnM z T).wn = T / l.y := by rw [← hs2, ← hs]
    have hd0 : 0 ≤ T / l.y := e2 ▸ hto.wn.1
    unfold admM lnAdm
    rw [if_neg hk, if_neg hl, hw]
    unfold admW windowedM
    have ek : (turnM z T).kd = z.kd := by rw [ht.kd, h.kd]
    rw [e1, e2, ht.x, ht.y]
    by_cases c1 : (standsM T l).1 + n ≤ l.x
    · rw [if_pos c1, if_pos c1]
      simp only [if_true, true_and]
      by_cases hn0 : 0 < n
      · rw [if_pos hn0]
        exact ⟨ht.kd, rfl, rfl, fun h' => absurd (ek ▸ h') hk, fun _ => ⟨Or.inl ⟨rfl, rfl⟩, Int.le_refl _⟩⟩
      · rw [if_neg hn0]
        have : n = 0 := by omega
        subst this
        refine ⟨ht.kd, rfl, rfl, fun h' => absurd (ek ▸ h') hk, fun h' => ?_⟩
        have g := ht.w h'
        rw [e1, e2, ht.y] at g
        simpa using g
    · rw [if_neg c1, if_neg c1]
      by_cases c2 : l.x < n
      · rw [if_pos c2, if_pos c2]
        simp only [Bool.false_eq_true, if_false, false_and]
        exact ⟨trivial, ht⟩
      · rw [if_neg c2, if_neg c2]
        simp only [Bool.false_eq_true, if_false, false_and]
        refine ⟨?_, ht⟩
        rw [Int.add_mul, Int.one_mul]
end Go.Proofs.YtlamgpeiolfffaaGreatDoor

namespace Go.Proofs.YtlamgpeiolfffaaGreatDoor
open Go.RowKit

theorem getD_app (a b : List Int) (j : Nat) (h : j < a.length) : (a ++ b).getD j 0 = a.getD j 0 := by
  simp [List.getD, List.getElem?_append_left h]
theorem rdTo_congr (f g : Nat → Int) : ∀ n, (∀ j, j < n → f j = g j) → rdTo f n = rdTo g n
  | 0, _ => rfl
  | n + 1, h => by
    simp only [rdTo]
    rw [rdTo_congr f g n (fun j hj => h j (by omega)), h n (by omega)]
theorem num8_app (a b : List Int) (o : Nat) (h : o + 8 ≤ a.length) : num8 (a ++ b) o = num8 a o := by
  unfold num8
  exact rdTo_congr _ _ 8 (fun j hj => getD_app a b (o + j) (by omega))

/-- The shape of bytes that begin with a whole frame. -/
theorem rdErr_zero {a : List Int} (h : rdErr a = 0) : ∃ b0 b1 t, a = b0 :: b1 :: t ∧ 1 ≤ b0 ∧ b0 ≤ 26 ∧ b0 = reqLen b1 ∧ b0 < (a.length : Int) := by
  cases a with
  | nil => simp [rdErr] at h
  | cons b0 t =>
    cases t with
    | nil =>
      simp only [rdErr] at h
      split at h <;> omega
    | cons b1 r =>
      simp only [rdErr] at h
      split at h
      · omega
      · split at h
        · split at h
          · omega
          · exact ⟨b0, b1, r, rfl, by omega, by omega, by assumption, by omega⟩
        · omega
theorem rdErr_app0 (a b : List Int) (h : rdErr a = 0) : rdErr (a ++ b) = 0 := by
  obtain ⟨b0, b1, t, rfl, h1, h2, h3, h4⟩ := rdErr_zero h
  simp only [List.cons_append, rdErr]
  rw [if_neg (by omega), if_pos h3, if_neg]
  simp only [List.length_cons, List.length_append] at *
  omega
theorem rdErr_app2 (a b : List Int) (h : rdErr a = 2) : rdErr (a ++ b) = 2 := by
  cases a with
  | nil => simp [rdErr] at h
  | cons b0 t =>
    cases t with
    | nil =>
      simp only [rdErr] at h
      split at h
      · rename_i hb
        simp only [List.cons_append, rdErr]
        rw [if_pos hb]
      · omega
    | cons b1 r =>
      simp only [rdErr] at h
      simp only [List.cons_append, rdErr]
      split at h
      · rename_i hb; rw [if_pos hb]
      · rename_i hb
        rw [if_neg hb]
        split at h
        · split at h <;> omega
        · rename_i hc; rw [if_neg hc]
theorem rdN_app (a b : List Int) (h : rdErr a = 0) : rdN (a ++ b) = rdN a := by
  obtain ⟨b0, b1, t, e, _⟩ := rdErr_zero h
  unfold rdN
  rw [if_pos h, if_pos (rdErr_app0 a b h), e]
  rfl
theorem rdQ_app (a b : List Int) (h : rdErr a = 0) : rdQ (a ++ b) = rdQ a := by
  obtain ⟨b0, b1, t, e, h1, h2, h3, h4⟩ := rdErr_zero h
  have hl : 2 ≤ a.length := by rw [e]; simp
  have e1 : a.getD 1 0 = b1 := by rw [e]; rfl
  have g1 := getD_app a b 1 (by omega)
  unfold rdQ
  rw [if_pos h, if_pos (rdErr_app0 a b h), g1, e1]
  by_cases c1 : b1 = 1
  · have hb : b0 = 26 := by rw [h3, c1]; rfl
    rw [if_pos c1, if_pos c1, getD_app a b 2 (by omega), getD_app a b 3 (by omega), getD_app a b 4 (by omega), getD_app a b 5 (by omega), getD_app a b 6 (by omega), getD_app a b 7 (by omega), getD_app a b 8 (by omega), getD_app a b 9 (by omega), getD_app a b 10 (by omega), num8_app a b 11 (by omega), num8_app a b 19 (by omega)]
  · rw [if_neg c1, if_neg c1]
    by_cases c2 : b1 = 2
    · have hb : b0 = 17 := by rw [h3, c2]; rfl
      rw [if_pos c2, if_pos c2, getD_app a b 2 (by omega), getD_app a b 3 (by omega), getD_app a b 4 (by omega), getD_app a b 5 (by omega), getD_app a b 6 (by omega), getD_app a b 7 (by omega), getD_app a b 8 (by omega), getD_app a b 9 (by omega), num8_app a b 10 (by omega)]
    · rw [if_neg c2, if_neg c2]
      by_cases c3 : b1 = 3 ∨ b1 = 4
      · have hb : b0 = 9 := by rw [h3]; unfold reqLen; rw [if_neg c1, if_neg c2, if_pos c3]
        rw [if_pos c3, if_pos c3, getD_app a b 2 (by omega), getD_app a b 3 (by omega), getD_app a b 4 (by omega), getD_app a b 5 (by omega), getD_app a b 6 (by omega), getD_app a b 7 (by omega), getD_app a b 8 (by omega), getD_app a b 9 (by omega)]
      · rw [if_neg c3, if_neg c3]

/-- Bytes behind bytes: the frames of the first, then those of what is left and the second. -/
theorem runL_app (b : List Int) : ∀ (n : Nat) (a : List Int) (L : Ld), a.length ≤ n →
    ((runL L a).2.2.2 = 2 → runL L (a ++ b) = ((runL L a).1, (runL L a).2.1, (runL L a).2.2.1 ++ b, 2)) ∧
    ((runL L a).2.2.2 ≠ 2 → (runL L a).2.2.2 = 1 ∧ runL L (a ++ b) = ((runL (runL L a).1 ((runL L a).2.2.1 ++ b)).1, (runL L a).2.1 ++ (runL (runL L a).1 ((runL L a).2.2.1 ++ b)).2.1, (runL (runL L a).1 ((runL L a).2.2.1 ++ b)).2.2)) := by
  intro n
  induction n with
  | zero =>
    intro a L h
    have e : a = [] := List.length_eq_zero_iff.1 (by omega)
    subst e
    have e1 : runL L [] = (L, [], [], 1) := runL_stop L [] (by simp [rdErr])
    rw [e1]
    refine ⟨fun h => ?_, fun _ => ⟨rfl, ?_⟩⟩
    · simp at h
    · simp only [List.nil_append]
  | succ n ih =>
    intro a L h
    rcases rdErr_cases a with h0 | h1 | h2
    · have eA := runL_step L a h0
      have eB := runL_step L (a ++ b) (rdErr_app0 a b h0)
      obtain ⟨r1, r2, _, _⟩ := rdN_ok a h0
      rw [rdN_app a b h0, rdQ_app a b h0, List.drop_append_of_le_length r2] at eB
      obtain ⟨i1, i2⟩ := ih (a.drop (rdN a).toNat) (doM L (rdQ a)).1 (by rw [List.length_drop]; omega)
      generalize runL (doM L (rdQ a)).1 (a.drop (rdN a).toNat) = R at *
      rw [eA, eB]
      refine ⟨fun h => ?_, fun h => ?_⟩
      · rw [i1 h]
      · obtain ⟨j1, j2⟩ := i2 h
        refine ⟨j1, ?_⟩
        rw [j2]
        rfl
    · have eA := runL_stop L a (by omega)
      rw [h1] at eA
      rw [eA]
      refine ⟨fun h => by simp at h, fun _ => ⟨rfl, ?_⟩⟩
      simp only [List.nil_append]
    · have eA := runL_stop L a (by omega)
      have eB := runL_stop L (a ++ b) (by rw [rdErr_app2 a b h2]; omega)
      rw [h2] at eA
      rw [rdErr_app2 a b h2] at eB
      rw [eA]
      refine ⟨fun _ => eB, fun h => by simp at h⟩

theorem doM_time (L : Ld) (q : Rq) : (doM L q).1.time = L.time := by
  unfold doM
  split
  · split
    · rfl
    · split
      · rfl
      · split <;> rfl
  · split
    · split <;> rfl
    · split
      · split <;> rfl
      · split
        · split <;> rfl
        · split <;> rfl
theorem runL_time : ∀ (n : Nat) (a : List Int) (L : Ld), a.length ≤ n → (runL L a).1.time = L.time := by
  intro n
  induction n with
  | zero =>
    intro a L h
    have e : a = [] := List.length_eq_zero_iff.1 (by omega)
    subst e
    rw [runL_stop L [] (by simp [rdErr])]
  | succ n ih =>
    intro a L h
    by_cases h0 : rdErr a = 0
    · rw [runL_step L a h0]
      obtain ⟨r1, r2, _, _⟩ := rdN_ok a h0
      have := ih (a.drop (rdN a).toNat) (doM L (rdQ a)).1 (by rw [List.length_drop]; omega)
      exact this.trans (doM_time L (rdQ a))
    · rw [runL_stop L a h0]
theorem passM_same (L : Ld) (now : Int) (h : now ≤ L.time) : passM L now = L := by
  unfold passM
  rw [if_neg (by omega)]
theorem passM_le (L : Ld) (now : Int) : now ≤ (passM L now).time := by
  unfold passM
  dsimp only
  split <;> omega

theorem feedM_good (L : Ld) (c : Cn) (now : Int) (bs : List Int) (h : c.bad = false) : feedM L c now bs =
    if (runL (passM L now) (c.waits ++ bs)).2.2.2 = 2 then ((runL (passM L now) (c.waits ++ bs)).1, ⟨[], true⟩, (runL (passM L now) (c.waits ++ bs)).2.1 ++ [⟨6, 0, 0⟩])
    else ((runL (passM L now) (c.waits ++ bs)).1, ⟨(runL (passM L now) (c.waits ++ bs)).2.2.1, false⟩, (runL (passM L now) (c.waits ++ bs)).2.1) := by
  unfold feedM
  rw [if_neg (by rw [h]; simp)]
  rfl
theorem feedM_bad (L : Ld) (c : Cn) (now : Int) (bs : List Int) (h : c.bad = true) : feedM L c now bs = (passM L now, c, []) := by
  unfold feedM
  rw [if_pos h]
theorem feedM_time (L : Ld) (c : Cn) (now : Int) (bs : List Int) : now ≤ (feedM L c now bs).1.time := by
  cases h : c.bad with
  | true => rw [feedM_bad _ _ _ _ h]; exact passM_le L now
  | false =>
    rw [feedM_good _ _ _ _ h]
    have := runL_time _ (c.waits ++ bs) (passM L now) (Nat.le_refl _)
    have := passM_le L now
    split <;> (dsimp only; omega)

/-- Split, the reckoning (P6, P7). -/
theorem split_reckon (L : Ld) (now : Int) (a b : List Int) (c1 : Cn) (h1 : c1 = ⟨[], false⟩) (c2 : Cn) (h2 : c2 = ⟨[], false⟩) (A : Ld × Cn × List Rp) (hA : A = feedM L c1 now a) (X : Ld × Cn × List Rp) (hX : X = feedM A.1 c2 now [1]) :
    encs (feedM L c1 now (a ++ b)).2.2 = encs A.2.2 ++ encs (feedM X.1 A.2.1 now b).2.2 := by
  have hAt : now ≤ A.1.time := hA ▸ feedM_time L c1 now a
  have hXe : X.1 = A.1 := by
    rw [hX, feedM_good _ _ _ _ (by rw [h2]), h2]
    have e : runL (passM A.1 now) ([] ++ [1]) = (passM A.1 now, [], [1], 1) := runL_stop _ _ (by simp [rdErr])
    rw [e, if_neg (by simp)]
    exact passM_same _ _ hAt
  rw [hXe]
  subst h1
  have g0 := feedM_good L ⟨[], false⟩ now (a ++ b) rfl
  have g1 := feedM_good L ⟨[], false⟩ now a rfl
  simp only [List.nil_append] at g0 g1
  obtain ⟨i1, i2⟩ := runL_app b _ a (passM L now) (Nat.le_refl _)
  have ht := runL_time _ a (passM L now) (Nat.le_refl _)
  have hp := passM_le L now
  generalize hP : passM L now = P at *
  generalize hR : runL P a = R at *
  by_cases he : R.2.2.2 = 2
  · rw [if_pos he] at g1
    rw [i1 he, if_pos rfl] at g0
    rw [g0, hA, g1, feedM_bad _ _ _ _ rfl]
    simp [encs]
  · obtain ⟨j1, j2⟩ := i2 he
    rw [if_neg he] at g1
    rw [g0, hA, g1, j2, feedM_good _ _ _ _ rfl]
    have e : passM R.1 now = R.1 := passM_same _ _ (by omega)
    dsimp only
    rw [e]
    generalize runL R.1 (R.2.2.1 ++ b) = S
    split <;> simp [encs]
end Go.Proofs.YtlamgpeiolfffaaGreatDoor
