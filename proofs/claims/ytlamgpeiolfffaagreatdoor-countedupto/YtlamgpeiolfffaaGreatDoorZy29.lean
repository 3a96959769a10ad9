import Derived.Test.YtlamgpeiolfffaaGreatDoorZy28
import Derived.Test.YtlamgpeiolfffaaGreatDoorZy16
import Derived.Test.YtlamgpeiolfffaaGreatDoorZy26
import Derived.Deep.RegionLaw
import Derived.Test.YtlamgpeiolfffaaGreatDoorZy00
import Derived.Deep.AppendLies
import Derived.Laws.StructEq
set_option linter.unusedSectionVars false
namespace Go.Proofs.YtlamgpeiolfffaaGreatDoor
open Go.RowKit
variable [dK] [iK]

/-- The blocks of a host. -/
def HG (hb db : Nat) (F : Nat → Prop) (cv : Value) (m : Nat) (cb : Nat → Nat) (b : Nat) : Prop := b = hb ∨ b = db ∨ F b ∨ cv.ownBlock = some b ∨ ∃ i, i < m ∧ b = cb i
def ptrs (cb : Nat → Nat) (m : Nat) : List Value := (List.range m).map fun i => .pointer (some ⟨cb i, 0, none⟩)
/-- A host in memory: its disk, its ledger, its connections. -/
structure HostAt (w : World) (hb db nb sb : Nat) (mb : Option Nat) (blk : Int) (L : Ld) (F : Nat → Prop) (B : Nat) (cv : Value) (m : Nat) (cb : Nat → Nat) (c : Nat → Cn) : Prop where
  hh : w.heap[hb]? = some (.cells #[.pointer (some ⟨db, 0, none⟩), .pointer (some ⟨sb, 0, none⟩), cv, .int .u64 blk] 75)
  hd : w.heap[db]? = some (.cells #[.map mb, .map (some nb), .slice none 0 0, .int .i64 (-1), .int .i64 (-1), .bool false] 81)
  hs : SrvAt w 0 sb L F
  hc : ∀ i, i < m → ConnAt w sb (cb i) (c i) F
  hi : ∀ i j, i < m → j < m → cb i = cb j → i = j
  ho : w.ownsRow B 76 1 cv m (ptrs cb m)
  hF : ∀ g, (g = hb ∨ g = db ∨ cv.ownBlock = some g) → ¬ F g
  lo : ∀ b, HG hb db F cv m cb b → B ≤ b
  fr : ∀ i, m ≤ i → c i = ⟨[], false⟩

theorem Tryz.info76 : (Tryz.prog.info? 76).map (fun i => (i.zero, i.size, i.bytes)) = some (some (.pointer none), 1, 8) := by kernel_rfl

theorem own_keptE {w w' : World} {base e sz : Nat} {v : Value} {n : Nat} {xs : List Value} (h : w.ownsRow base e sz v n xs) (hb : ∀ g, v.ownBlock = some g → w'.heap[g]? = w.heap[g]?) : w'.ownsRow base e sz v n xs := by
  obtain ⟨h1, h2⟩ := h
  refine ⟨h1, ?_⟩
  rcases h2 with h2 | ⟨g, cap, cur, hv, hg, hh, r⟩
  · exact Or.inl h2
  · exact Or.inr ⟨g, cap, cur, hv, hg, (hb g (by rw [hv]; rfl)).trans hh, r⟩
theorem own_sliceE {w : World} {base e sz : Nat} {v : Value} {n : Nat} {xs : List Value} (h : w.ownsRow base e sz v n xs) : ∃ a c, v = .slice a n c := by
  rcases h.2 with ⟨rfl, rfl⟩ | ⟨g, cap, cur, hv, _⟩
  · exact ⟨_, _, rfl⟩
  · exact ⟨_, _, hv⟩
theorem own_neE {w : World} {base e sz : Nat} {v : Value} {n : Nat} {xs : List Value} (h : w.ownsRow base e sz v n xs) {g k : Nat} (hg : v.ownBlock = some g) {a : Array Value} {t : TypeId} {fr : Nat × Nat} (hk : w.heap[k]? = some (.cells a t fr)) (ht : t ≠ e) : g ≠ k := by
  rcases h.2 with ⟨rfl, rfl⟩ | ⟨g', cap, cur, hv, _, hh, _⟩
  · simp [Value.ownBlock] at hg
  · rw [hv] at hg
    simp [Value.ownBlock] at hg
    subst hg
    intro e'
    subst e'
    rw [hh] at hk
    simp at hk
    exact ht hk.2.1.symm
theorem own_ltE {w : World} {base e sz : Nat} {v : Value} {n : Nat} {xs : List Value} (h : w.ownsRow base e sz v n xs) {g : Nat} (hg : v.ownBlock = some g) : base ≤ g ∧ g < w.heap.size := by
  rcases h.2 with ⟨rfl, rfl⟩ | ⟨g', cap, cur, hv, hb, hh, _⟩
  · simp [Value.ownBlock] at hg
  · rw [hv] at hg
    simp [Value.ownBlock] at hg
    subst hg
    exact ⟨hb, ltB hh⟩

/-- append in a region that draws, of whatever elements. -/
theorem step_append_any {ops : Array Oper} {o : Oper} {a : Act} {w : World} {K : Act → World → Prop} {Q : Exit → Act → World → Prop} {E : Prop} (hg : o.guard = none) (s x : Operand) (t e : TypeId) (i0 : TypeInfo) (z : Value) (size bytes : Nat)
    (ht : Tryz.prog.underlying t = some (.slice e)) (hi : Tryz.prog.info? e = some i0) (hz0 : i0.zero = some z) (hz1 : i0.size = size) (hz2 : i0.bytes = bytes) (hzc : z.cells.size = size) (hsz : 0 < size)
    (hop : o.op = .call { callee := .builtin .append, args := #[s, x], argTypes := #[t, t] }) (base : Nat) (v : Value) (n : Nat) (xs : List Value) (hs : a.eval s = v) (hown : w.ownsRow base e size v n xs)
    (ad : Addr) (m c : Nat) (news : List Value) (hx : a.eval x = .slice (some ad) m c) (hm : news.length = m * size) (hc : ∀ j u, news[j]? = some u → w.cell? (ad.add j) = some u) (h1 : ∀ u ∈ news, u.oneCell' = true) (hb : n + m ≤ 4194304) (hby : (n + m) * bytes ≤ 140737488355328) (hbase : base ≤ w.heap.size)
    (hK : ∀ v' w', w'.ownsRow base e size v' (n + m) (xs ++ news) → w.grownBy w' v.ownBlock → (v'.ownBlock = v.ownBlock ∨ v'.ownBlock = some w.heap.size) → K (a.put o.dst v') w') :
    if Region.wanted o (yielded ops a.tmps) = true then Oper.wp Tryz.prog o a w K Q else E := by
  have hw : Region.wanted o (yielded ops a.tmps) = true := by simp [Region.wanted, hg]
  rw [if_pos hw]
  obtain ⟨v', w', hr, h2, h3, h4, h5⟩ := run_append_own_at (P := Tryz.prog) (w := w) base t o.type e i0 z size bytes ht hi hz0 hz1 hz2 hzc hsz v n _ hown ad m c news hm hc h1 (by unfold maxLen; omega) hby hbase
  unfold Oper.wp execOp
  simp only [hop, resolve, invoke, builtin, Sem.run_bind, Sem.run_pure, Result.andThen_ok, List.map_toArray, List.map_cons, List.map_nil, hs, hx, hr]
  exact hK v' w' h2 h3 h5

theorem connect25' (sb : Nat) (w : World) : Calls Tryz.prog 25 #[.pointer (some ⟨sb, 0, none⟩)] w fun e w' => e = .returned (.pointer (some ⟨w.heap.size, 0, none⟩)) ∧ w'.heap[w.heap.size]? = some (.cells #[.pointer (some ⟨sb, 0, none⟩), .slice none 0 0, .bool false] 103) ∧ w'.heap.size = w.heap.size + 1 ∧ Below w.heap.size w w' := by
  refine (connect25 sb w).mono ?_
  rintro e w' ⟨rfl, rfl⟩
  exact ⟨rfl, heapNew _ _, by simp, (Below.refl _ w).alloc (Nat.le_refl _) _⟩

/-- Connect in a region that draws. -/
theorem step_connect {ops : Array Oper} {o : Oper} {a : Act} {w : World} {K : Act → World → Prop} {Q : Exit → Act → World → Prop} {E : Prop} (hg : o.guard = none) (x : Operand)
    (hop : o.op = .call { callee := .value (.func 25), args := #[x], argTypes := #[72] }) (sb : Nat) (hx : a.eval x = .pointer (some ⟨sb, 0, none⟩))
    (hK : ∀ w', w'.heap[w.heap.size]? = some (.cells #[.pointer (some ⟨sb, 0, none⟩), .slice none 0 0, .bool false] 103) → w'.heap.size = w.heap.size + 1 → Below w.heap.size w w' → K (a.put o.dst (.pointer (some ⟨w.heap.size, 0, none⟩))) w') :
    if Region.wanted o (yielded ops a.tmps) = true then Oper.wp Tryz.prog o a w K Q else E := by
  have hw : Region.wanted o (yielded ops a.tmps) = true := by simp [Region.wanted, hg]
  rw [if_pos hw]
  have hr : (execOp a.eval o).run Tryz.prog w = .ok (.enter 25 #[.pointer (some ⟨sb, 0, none⟩)]) w := by
    simp [execOp, hop, resolve, invoke, go_sem]
    rw [← hx]
    cases x <;> simp [Act.eval]
  unfold Oper.wp
  rw [hr, Oper.upon_enter]
  refine (connect25' sb w).mono ?_
  rintro e w' ⟨rfl, h1, h2, h3⟩
  exact hK w' h1 h2 h3

/-- One connection more. -/
theorem HostAt.more {wr w2 w4 : World} {hb db nb sb : Nat} {mb : Option Nat} {blk : Int} {L : Ld} {F : Nat → Prop} {B : Nat} {cv v5 : Value} {m : Nat} {cb : Nat → Nat} {c : Nat → Cn} {N : Nat} {ob : Obj} (H : HostAt wr hb db nb sb mb blk L F B cv m cb c) (hq : ∀ i, c i = ⟨[], false⟩) (hN : N = wr.heap.size) (hBN : B ≤ N)
    (h2 : w2.heap[N]? = some (.cells #[.pointer (some ⟨sb, 0, none⟩), .slice none 0 0, .bool false] 103)) (hs2 : w2.heap.size = N + 1) (hb2 : Below N wr w2)
    (ho4 : w4.ownsRow B 76 1 v5 (m + 1) (ptrs cb m ++ [.pointer (some ⟨N, 0, none⟩)])) (hg4 : (w2.alloc ob).grownBy w4 cv.ownBlock) (hl4 : v5.ownBlock = cv.ownBlock ∨ v5.ownBlock = some (w2.alloc ob).heap.size) :
    HostAt (w4.setCell ⟨hb, 2, none⟩ v5) hb db nb sb mb blk L F B v5 (m + 1) (fun i => if i = m then N else cb i) c ∧ Keep (HG hb db F cv m cb) wr (w4.setCell ⟨hb, 2, none⟩ v5) ∧ ∀ b, HG hb db F v5 (m + 1) (fun i => if i = m then N else cb i) b → HG hb db F cv m cb b ∨ N ≤ b := by
  have lh : hb < N := hN ▸ ltB H.hh
  have ld : db < N := hN ▸ ltB H.hd
  have nhd : db ≠ hb := by
    intro e
    have h := H.hd
    rw [e, H.hh] at h
    simp at h
  have nh : cv.ownBlock ≠ some hb := fun e => own_neE H.ho e H.hh (by decide) rfl
  have nd : cv.ownBlock ≠ some db := fun e => own_neE H.ho e H.hd (by decide) rfl
  have nN : cv.ownBlock ≠ some N := fun e => by have := (own_ltE H.ho e).2; omega
  have hA : (w2.alloc ob).heap.size = N + 2 := by rw [World.size_alloc, hs2]
  have X4 : ∀ k, k < N → cv.ownBlock ≠ some k → w4.heap[k]? = wr.heap[k]? := fun k hk hne =>
    ((hg4.block k (by omega) (fun e => hne e.symm)).trans (heapOld w2 ob (by omega))).trans (hb2.block k hk)
  have X : ∀ k, k < N → k ≠ hb → cv.ownBlock ≠ some k → (w4.setCell ⟨hb, 2, none⟩ v5).heap[k]? = wr.heap[k]? := fun k hk h1 hne => (heapSetO h1 _ _).trans (X4 k hk hne)
  have hh4 := (X4 hb lh nh).trans H.hh
  have hsz4 : N + 2 ≤ w4.heap.size := hA ▸ hg4.size
  have hcn : ∀ i, i < m → cb i < N ∧ cb i ≠ hb ∧ cv.ownBlock ≠ some (cb i) := fun i hi => by
    obtain ⟨cw, g1, _⟩ := (H.hc i hi).mem
    refine ⟨hN ▸ ltB g1, fun e => ?_, fun e => own_neE H.ho e g1 (by decide) rfl⟩
    rw [e, H.hh] at g1
    simp at g1
  have hFN : ∀ b, F b → b < N := fun b h => hN ▸ H.hs.lt b h
  have hsz : wr.heap.size ≤ (w4.setCell ⟨hb, 2, none⟩ v5).heap.size := by rw [World.size_setCell]; omega
  refine ⟨⟨by simpa using heapSet hh4 2 v5, (X db ld nhd nd).trans H.hd, H.hs.kept hsz (fun b hF => X b (hFN b hF) (fun e => H.hF hb (Or.inl rfl) (e ▸ hF)) (fun e => H.hF b (Or.inr (Or.inr e)) hF)), fun i hi => ?_, fun i j hi hj e => ?_, ?_, fun g hg hFg => ?_, fun b hb' => ?_, fun i hi => H.fr i (by omega)⟩, ⟨hg4.os.trans hb2.os, hg4.tape.trans hb2.tape, hg4.output.trans hb2.output, hsz, fun k hk hG => X k (by omega) (fun e => hG (Or.inl e)) (fun e => hG (Or.inr (Or.inr (Or.inr (Or.inl e)))))⟩, fun b hb' => ?_⟩
  · by_cases him : i = m
    · subst him
      rw [if_pos rfl]
      refine ⟨⟨.slice none 0 0, ?_, Or.inl ⟨by rw [hq i], Or.inl rfl⟩, fun g o n d h => by simp at h⟩, fun h => by have := hFN _ h; omega⟩
      rw [heapSetO (by omega), hg4.block N (by omega) (fun e => nN e.symm), heapOld w2 ob (by omega), h2, hq i]
    · rw [if_neg him]
      obtain ⟨c1, c2, c3⟩ := hcn i (by omega)
      obtain ⟨⟨cw, g1, g2, g3⟩, g4⟩ := H.hc i (by omega)
      refine ⟨⟨cw, (X _ c1 c2 c3).trans g1, ?_, fun g o n d h => ⟨(g3 g o n d h).1, (g3 g o n d h).2.1, Nat.lt_of_lt_of_le (g3 g o n d h).2.2 hsz⟩⟩, g4⟩
      rw [hq i] at g2 ⊢
      rcases g2 with g2 | ⟨g2, _⟩
      · exact Or.inl g2
      · simp at g2
  · by_cases h1 : i = m
    · by_cases h2 : j = m
      · omega
      · rw [if_pos h1, if_neg h2] at e
        have := (hcn j (by omega)).1
        omega
    · by_cases h2 : j = m
      · rw [if_neg h1, if_pos h2] at e
        have := (hcn i (by omega)).1
        omega
      · rw [if_neg h1, if_neg h2] at e
        exact H.hi i j (by omega) (by omega) e
  · have e : ptrs (fun i => if i = m then N else cb i) (m + 1) = ptrs cb m ++ [.pointer (some ⟨N, 0, none⟩)] := by
      unfold ptrs
      rw [List.range_succ, List.map_append]
      congr 1
      · apply List.map_congr_left
        intro i hi
        have := List.mem_range.1 hi
        show Value.pointer (some ⟨if i = m then N else cb i, 0, none⟩) = _
        rw [if_neg (by omega)]
      · simp
    rw [e]
    exact own_keptE ho4 (fun g hg => heapSetO (own_neE ho4 hg hh4 (by decide)) _ _)
  · rcases hg with h | h | h
    · exact H.hF g (Or.inl h) hFg
    · exact H.hF g (Or.inr (Or.inl h)) hFg
    · rcases hl4 with h4 | h4
      · exact H.hF g (Or.inr (Or.inr (h4 ▸ h))) hFg
      · rw [h4, hA] at h
        injection h with h
        have := hFN g hFg
        omega
  · rcases hb' with h | h | h | h | ⟨i, hi, h⟩
    · exact H.lo b (Or.inl h)
    · exact H.lo b (Or.inr (Or.inl h))
    · exact H.lo b (Or.inr (Or.inr (Or.inl h)))
    · exact (own_ltE ho4 h).1
    · dsimp only at h
      split at h
      · omega
      · exact H.lo b (Or.inr (Or.inr (Or.inr (Or.inr ⟨i, by omega, h⟩))))
  · rcases hb' with h | h | h | h | ⟨i, hi, h⟩
    · exact Or.inl (Or.inl h)
    · exact Or.inl (Or.inr (Or.inl h))
    · exact Or.inl (Or.inr (Or.inr (Or.inl h)))
    · rcases hl4 with h4 | h4
      · exact Or.inl (Or.inr (Or.inr (Or.inr (Or.inl (h4 ▸ h)))))
      · rw [h4, hA] at h
        injection h with h
        exact Or.inr (by omega)
    · dsimp only at h
      split at h
      · exact Or.inr (by omega)
      · exact Or.inl (Or.inr (Or.inr (Or.inr (Or.inr ⟨i, by omega, h⟩))))

theorem HostAt.kept {w w' : World} {hb db nb sb : Nat} {mb : Option Nat} {blk : Int} {L : Ld} {F : Nat → Prop} {B : Nat} {cv : Value} {m : Nat} {cb : Nat → Nat} {c : Nat → Cn} (H : HostAt w hb db nb sb mb blk L F B cv m cb c) (hs : w.heap.size ≤ w'.heap.size) (hk : ∀ k, k < w.heap.size → w'.heap[k]? = w.heap[k]?) : HostAt w' hb db nb sb mb blk L F B cv m cb c := by
  refine ⟨(hk hb (ltB H.hh)).trans H.hh, (hk db (ltB H.hd)).trans H.hd, H.hs.kept hs (fun b hF => hk b (H.hs.lt b hF)), fun i hi => ?_, H.hi, own_keptE H.ho (fun g hg => hk g (own_ltE H.ho hg).2), H.hF, H.lo, H.fr⟩
  obtain ⟨⟨cw, g1, g2, g3⟩, g4⟩ := H.hc i hi
  exact ⟨⟨cw, (hk _ (ltB g1)).trans g1, g2.kept hs (fun g o n d _ hg => hk g hg), fun g o n d h => ⟨(g3 g o n d h).1, (g3 g o n d h).2.1, Nat.lt_of_lt_of_le (g3 g o n d h).2.2 hs⟩⟩, g4⟩
/-- A host whose connections wait for nothing, its own blocks kept. -/
theorem HostAt.quiet {w w' : World} {hb db nb sb : Nat} {mb : Option Nat} {blk : Int} {L : Ld} {F : Nat → Prop} {B : Nat} {cv : Value} {m : Nat} {cb : Nat → Nat} {c : Nat → Cn} (H : HostAt w hb db nb sb mb blk L F B cv m cb c) (hq : ∀ i, (c i).waits = []) (hs : w.heap.size ≤ w'.heap.size) (hk : ∀ k, HG hb db F cv m cb k → w'.heap[k]? = w.heap[k]?) : HostAt w' hb db nb sb mb blk L F B cv m cb c := by
  refine ⟨(hk hb (Or.inl rfl)).trans H.hh, (hk db (Or.inr (Or.inl rfl))).trans H.hd, H.hs.kept hs (fun b hF => hk b (Or.inr (Or.inr (Or.inl hF)))), fun i hi => ?_, H.hi, own_keptE H.ho (fun g hg => hk g (Or.inr (Or.inr (Or.inr (Or.inl hg))))), H.hF, H.lo, H.fr⟩
  obtain ⟨⟨cw, g1, g2, g3⟩, g4⟩ := H.hc i hi
  refine ⟨⟨cw, (hk _ (Or.inr (Or.inr (Or.inr (Or.inr ⟨i, hi, rfl⟩))))).trans g1, ?_, fun g o n d h => ⟨(g3 g o n d h).1, (g3 g o n d h).2.1, Nat.lt_of_lt_of_le (g3 g o n d h).2.2 hs⟩⟩, g4⟩
  rw [hq i] at g2 ⊢
  rcases g2 with g2 | ⟨g2, _⟩
  · exact Or.inl g2
  · simp at g2
theorem HostAt.lt {w : World} {hb db nb sb : Nat} {mb : Option Nat} {blk : Int} {L : Ld} {F : Nat → Prop} {B : Nat} {cv : Value} {m : Nat} {cb : Nat → Nat} {c : Nat → Cn} (H : HostAt w hb db nb sb mb blk L F B cv m cb c) (b : Nat) (h : HG hb db F cv m cb b) : b < w.heap.size := by
  rcases h with rfl | rfl | h | h | ⟨i, hi, rfl⟩
  · exact ltB H.hh
  · exact ltB H.hd
  · exact H.hs.lt b h
  · exact (own_ltE H.ho h).2
  · exact ltB (H.hc i hi).mem.choose_spec.1

/-- No connection's waiting bytes lie in this block. -/
def WaitN (w : World) (sb m : Nat) (cb : Nat → Nat) (c : Nat → Cn) (g : Nat) : Prop := ∀ j, j < m → ∀ cw, w.heap[cb j]? = some (.cells #[.pointer (some ⟨sb, 0, none⟩), cw, .bool (c j).bad] 103) → cw.ownBlock ≠ some g
/-- What a feeding leaves of a host. -/
theorem HostAt.fed {w w' : World} {hb db nb sb : Nat} {mb : Option Nat} {blk : Int} {L : Ld} {F : Nat → Prop} {B : Nat} {cv rv : Value} {cb : Nat → Nat} {c : Nat → Cn} {now : Int} {bs : List Int} (H : HostAt w hb db nb sb mb blk L F B cv 3 cb c) (hB : B ≤ w.heap.size) (i : Nat) (hi : i < 3) (P : FeedPost sb (cb i) F L (c i) now bs w rv w') :
    ∃ F', HostAt w' hb db nb sb mb blk (feedM L (c i) now bs).1 F' B cv 3 cb (fun j => if j = i then (feedM L (c i) now bs).2.1 else c j) ∧ Keep (HG hb db F cv 3 cb) w w' ∧ (∀ b, HG hb db F' cv 3 cb b → HG hb db F cv 3 cb b ∨ w.heap.size ≤ b) ∧ w'.ownsRow w.heap.size 5 1 rv (encs (feedM L (c i) now bs).2.2).length ((encs (feedM L (c i) now bs).2.2).map (Value.int .u8)) ∧ (∀ g, g < w.heap.size → WaitN w sb 3 cb c g → WaitN w' sb 3 cb (fun j => if j = i then (feedM L (c i) now bs).2.1 else c j) g) := by
  obtain ⟨F', s1, s2, s3, s4, s5, s6⟩ := P
  obtain ⟨ci, q1, q2, q3⟩ := (H.hc i hi).mem
  obtain ⟨xi, di, ei⟩ := q2.shape
  have hs := s4.size
  have X : ∀ k, k < w.heap.size → ¬ F k → k ≠ cb i → w'.heap[k]? = w.heap[k]? := fun k hk h1 h2 => s4.block k hk (fun h => h.elim h1 h2)
  have nh : hb ≠ cb i := by
    intro e
    rw [← e, H.hh] at q1
    simp at q1
  have nd : db ≠ cb i := by
    intro e
    rw [← e, H.hd] at q1
    simp at q1
  have hF' : ∀ k, k < w.heap.size → ¬ F k → ¬ F' k := fun k hk h1 h => (s3 k h).elim h1 (fun h => by omega)
  refine ⟨F', ⟨(X hb (ltB H.hh) (H.hF hb (Or.inl rfl)) nh).trans H.hh, (X db (ltB H.hd) (H.hF db (Or.inr (Or.inl rfl))) nd).trans H.hd, s1, fun j hj => ?_, H.hi, ?_, fun g hg => ?_, fun b hb' => ?_, fun j hj => ?_⟩, s4.mono (fun k h _ => ?_), fun b h => ?_, s5, fun g hg hw j hj cw' hcw' => ?_⟩
  · by_cases e : j = i
    · rw [if_pos e, e]
      exact s2
    · rw [if_neg e]
      obtain ⟨⟨cw, g1, g2, g3⟩, g4⟩ := H.hc j hj
      have hne : cb j ≠ cb i := fun h => e (H.hi j i hj hi h)
      refine ⟨⟨cw, (X _ (ltB g1) g4 hne).trans g1, ?_, fun g o n d h => ⟨hF' g (g3 g o n d h).2.2 (g3 g o n d h).1, (g3 g o n d h).2.1, Nat.lt_of_lt_of_le (g3 g o n d h).2.2 hs⟩⟩, hF' _ (ltB g1) g4⟩
      rcases g2 with g2 | ⟨h1, sg, so, cap, hv, h2, h3⟩
      · exact Or.inl g2
      · refine Or.inr ⟨h1, sg, so, cap, hv, Nat.lt_of_lt_of_le h2 hs, fun z u hz => ?_⟩
        have hgi : sg ≠ cb i := by
          intro e'
          have hl : 0 < (c j).waits.length := h1
          have h0 := h3 0 (.int .u8 ((c j).waits[0])) (by simp [hl])
          rw [e', cellB q1, ei] at h0
          rw [Nat.add_zero] at h0
          match so, h0 with
          | 0, h0 => simp at h0
          | 1, h0 => simp at h0
          | 2, h0 => simp at h0
          | n + 3, h0 => simp at h0
        exact (World.cell?_of_block (w := w) (X sg h2 (g3 sg so _ _ hv).1 hgi)).trans (h3 z u hz)
  · exact own_keptE H.ho (fun g hg => X g (own_ltE H.ho hg).2 (H.hF g (Or.inr (Or.inr hg))) (own_neE H.ho hg q1 (by decide)))
  · refine hF' g ?_ (H.hF g hg)
    rcases hg with rfl | rfl | h
    · exact ltB H.hh
    · exact ltB H.hd
    · exact (own_ltE H.ho h).2
  · rcases hb' with h | h | h | h | h
    · exact H.lo b (Or.inl h)
    · exact H.lo b (Or.inr (Or.inl h))
    · rcases s3 b h with h | h
      · exact H.lo b (Or.inr (Or.inr (Or.inl h)))
      · omega
    · exact H.lo b (Or.inr (Or.inr (Or.inr (Or.inl h))))
    · exact H.lo b (Or.inr (Or.inr (Or.inr (Or.inr h))))
  · rw [if_neg (by omega)]
    exact H.fr j hj
  · rcases h with h | h
    · exact Or.inr (Or.inr (Or.inl h))
    · exact Or.inr (Or.inr (Or.inr (Or.inr ⟨i, hi, h⟩)))
  · rcases h with h | h | h | h | h
    · exact Or.inl (Or.inl h)
    · exact Or.inl (Or.inr (Or.inl h))
    · rcases s3 b h with h | h
      · exact Or.inl (Or.inr (Or.inr (Or.inl h)))
      · exact Or.inr h
    · exact Or.inl (Or.inr (Or.inr (Or.inr (Or.inl h))))
    · exact Or.inl (Or.inr (Or.inr (Or.inr (Or.inr h))))
  · dsimp only at hcw'
    by_cases e : j = i
    · rw [if_pos e, e] at hcw'
      exact s6 g hg (hw i hi) cw' hcw'
    · rw [if_neg e] at hcw'
      have hm := (H.hc j hj)
      refine hw j hj cw' ((X _ (ltB hm.mem.choose_spec.1) hm.nF (fun h => e (H.hi j i hj hi h))).symm.trans hcw')
/-- Bytes that no connection keeps are written into. -/
theorem HostAt.keptE {w w' : World} {hb db nb sb : Nat} {mb : Option Nat} {blk : Int} {L : Ld} {F : Nat → Prop} {B : Nat} {cv : Value} {m : Nat} {cb : Nat → Nat} {c : Nat → Cn} (H : HostAt w hb db nb sb mb blk L F B cv m cb c) (wb : Nat) (hn : ¬ HG hb db F cv m cb wb) (hw : WaitN w sb m cb c wb) (hs : w.heap.size ≤ w'.heap.size) (hk : ∀ k, k < w.heap.size → k ≠ wb → w'.heap[k]? = w.heap[k]?) : HostAt w' hb db nb sb mb blk L F B cv m cb c := by
  have hne : ∀ k, HG hb db F cv m cb k → k ≠ wb := fun k h e => hn (e ▸ h)
  refine ⟨(hk hb (ltB H.hh) (hne hb (Or.inl rfl))).trans H.hh, (hk db (ltB H.hd) (hne db (Or.inr (Or.inl rfl)))).trans H.hd, H.hs.kept hs (fun b hF => hk b (H.hs.lt b hF) (hne b (Or.inr (Or.inr (Or.inl hF))))), fun i hi => ?_, H.hi, own_keptE H.ho (fun g hg => hk g (own_ltE H.ho hg).2 (hne g (Or.inr (Or.inr (Or.inr (Or.inl hg)))))), H.hF, H.lo, H.fr⟩
  obtain ⟨⟨cw, g1, g2, g3⟩, g4⟩ := H.hc i hi
  exact ⟨⟨cw, (hk _ (ltB g1) (hne _ (Or.inr (Or.inr (Or.inr (Or.inr ⟨i, hi, rfl⟩)))))).trans g1, g2.kept hs (fun g o n d e hg => hk g hg (fun e' => hw i hi cw g1 (by rw [e, e']; rfl))), fun g o n d h => ⟨(g3 g o n d h).1, (g3 g o n d h).2.1, Nat.lt_of_lt_of_le (g3 g o n d h).2.2 hs⟩⟩, g4⟩
end Go.Proofs.YtlamgpeiolfffaaGreatDoor

namespace Go.Proofs.YtlamgpeiolfffaaGreatDoor
open Go.RowKit
variable [dK] [iK]

set_option maxRecDepth 100000 in
theorem plus128 (a b : Int) (w : World) (ha : 0 ≤ a ∧ a ≤ 18446744073709551615) (hb : 0 ≤ b ∧ b ≤ 18446744073709551615) :
    Calls Tryz.prog 128 #[.int .u64 a, .int .u64 b] w fun e w' => e = .returned (.tuple #[.int .u64 (orNever (a + b)), .bool (decide (a + b ≤ 18446744073709551615))]) ∧ w' = w := by
  have e1 : IntKind.u64.wrap (18446744073709551615 - b) = 18446744073709551615 - b := by rw [IntKind.wrap_u64]; omega
  by_cases h : a + b ≤ 18446744073709551615
  · have e2 : IntKind.u64.wrap (a + b) = a + b := by rw [IntKind.wrap_u64]; omega
    have e3 : ¬ 18446744073709551615 - b < a := by omega
    have e4 : orNever (a + b) = a + b := by unfold orNever; rw [if_pos h]
    have e5 : decide (a + b ≤ 18446744073709551615) = true := by simpa using h
    rw [e4, e5]
    clear e4 e5 h
    go_enter Tryz.func128, Tryz.ntmps128
    go_wp2
    go_ret2
    exact ⟨rfl, rfl⟩
  · have e3 : 18446744073709551615 - b < a := by omega
    have e4 : orNever (a + b) = 18446744073709551615 := by unfold orNever; rw [if_neg h]
    have e5 : decide (a + b ≤ 18446744073709551615) = false := by simpa using h
    rw [e4, e5]
    clear e4 e5 h
    go_enter Tryz.func128, Tryz.ntmps128
    go_wp2
    go_ret2
    exact ⟨rfl, rfl⟩
set_option maxRecDepth 100000 in
theorem times127 (a b : Int) (w : World) (ha : 0 ≤ a ∧ a ≤ 18446744073709551615) (hb : 0 ≤ b ∧ b ≤ 18446744073709551615) :
    Calls Tryz.prog 127 #[.int .u64 a, .int .u64 b] w fun e w' => e = .returned (.tuple #[.int .u64 (orNever (a * b)), .bool (decide (a * b ≤ 18446744073709551615))]) ∧ w' = w := by
  have hp : 0 ≤ a * b := Int.mul_nonneg ha.1 hb.1
  by_cases h0 : a = 0
  · subst h0
    have e4 : orNever (0 * b) = 0 := by unfold orNever; simp
    have e5 : decide (0 * b ≤ 18446744073709551615) = true := by simp
    rw [e4, e5]
    clear e4 e5 hp
    go_enter Tryz.func127, Tryz.ntmps127
    go_wp2
    go_ret2
    exact ⟨rfl, rfl⟩
  · have hd : (18446744073709551615 : Int).tdiv a = 18446744073709551615 / a := Int.tdiv_eq_ediv_of_nonneg (by omega)
    have hd2 : 0 ≤ (18446744073709551615 : Int) / a := Int.ediv_nonneg (by omega) ha.1
    have hd3 : (18446744073709551615 : Int) / a ≤ 18446744073709551615 := Int.ediv_le_self _ (by omega)
    have hdw : IntKind.u64.wrap (18446744073709551615 / a) = 18446744073709551615 / a := by rw [IntKind.wrap_u64]; omega
    have hiff : a * b ≤ 18446744073709551615 ↔ b ≤ 18446744073709551615 / a := by
      rw [Int.le_ediv_iff_mul_le (by omega), Int.mul_comm]
    by_cases h : a * b ≤ 18446744073709551615
    · have e2 : IntKind.u64.wrap (a * b) = a * b := by rw [IntKind.wrap_u64]; omega
      have e3 : ¬ 18446744073709551615 / a < b := by have := hiff.1 h; omega
      have e4 : orNever (a * b) = a * b := by unfold orNever; rw [if_pos h]
      have e5 : decide (a * b ≤ 18446744073709551615) = true := by simpa using h
      rw [e4, e5]
      clear e4 e5 h hiff hd2 hd3 hp
      go_enter Tryz.func127, Tryz.ntmps127
      go_wp2
      go_ret2
      exact ⟨rfl, rfl⟩
    · have e3 : 18446744073709551615 / a < b := by
        rcases Int.lt_or_le (18446744073709551615 / a) b with h' | h'
        · exact h'
        · exact absurd (hiff.2 h') h
      have e4 : orNever (a * b) = 18446744073709551615 := by unfold orNever; rw [if_neg h]
      have e5 : decide (a * b ≤ 18446744073709551615) = false := by simpa using h
      rw [e4, e5]
      clear e4 e5 h hiff hd2 hd3 hp
      go_enter Tryz.func127, Tryz.ntmps127
      go_wp2
      go_ret2
      exact ⟨rfl, rfl⟩

def lnc (l : Ln) : List Value := [.int .u8 l.k.k0, .int .u8 l.k.k1, .int .u8 l.k.k2, .int .u8 l.k.k3, .int .u8 l.k.k4, .int .u8 l.k.k5, .int .u8 l.k.k6, .int .u8 l.k.k7, .int .u8 l.kd, .int .u64 l.x, .int .u64 l.y, .int .u64 l.at_, .int .u64 l.in_]
def lncs (ls : List Ln) : List Value := ls.flatMap lnc
theorem lncs_get (j : Nat) (hj : j < 13) : ∀ (ls : List Ln) (i : Nat) (h : i < ls.length), (lncs ls)[i * 13 + j]? = (lnc ls[i])[j]? := by
  intro l
  induction l with
  | nil => intro i h; simp at h
  | cons q r ih =>
    intro i h
    unfold lncs
    rw [List.flatMap_cons]
    cases i with
    | zero =>
      rw [Nat.zero_mul, Nat.zero_add, List.getElem?_append_left (by simpa [lnc] using hj)]
      rfl
    | succ i =>
      rw [List.getElem?_append_right (by simp [lnc]; omega)]
      have e : (i + 1) * 13 + j - (lnc q).length = i * 13 + j := by simp [lnc]; omega
      rw [e]
      exact ih i (by simpa using h)
theorem lncs_len (ls : List Ln) : (lncs ls).length = ls.length * 13 := by
  unfold lncs
  induction ls with
  | nil => rfl
  | cons q r ih => rw [List.flatMap_cons, List.length_append, ih]; simp [lnc]; omega

/-- The document's book in memory. -/
structure BookAt (w : World) (bb : Nat) (base : Nat) (lv : Value) (B : Bk) : Prop where
  hb : w.heap[bb]? = some (.cells #[lv, .int .u64 B.time] 53)
  ho : w.ownsRow base 139 13 lv B.ls.length (lncs B.ls)
theorem BookAt.cells {w : World} {bb base g cap : Nat} {B : Bk} {n : Nat} (h : BookAt w bb base (.slice (some ⟨g, 0, none⟩) n cap) B) (i : Nat) (hi : i < B.ls.length) (j : Nat) (hj : j < 13) : w.cell? ⟨g, i * 13 + j, none⟩ = (lnc B.ls[i])[j]? := by
  obtain ⟨a, c, e⟩ := own_sliceE h.ho
  injection e with e1 e2 e3
  have ho := h.ho
  rw [e2] at ho
  rw [ho.cellAt (i * 13 + j) (by omega), lncs_get j hj B.ls i hi]
end Go.Proofs.YtlamgpeiolfffaaGreatDoor

namespace Go.Proofs.YtlamgpeiolfffaaGreatDoor
open Go.RowKit
variable [dK] [iK]

def idxI (k : Ky) (ls : List Ln) : Int := match idx k ls with | none => -1 | some i => i
theorem idx_lt {k : Ky} : ∀ {ls : List Ln} {i : Nat}, idx k ls = some i → i < ls.length
  | [], _, h => by simp [idx] at h
  | l :: r, i, h => by
    unfold idx at h
    split at h
    · injection h with h; subst h; simp
    · obtain ⟨j, hj, rfl⟩ := Option.map_eq_some_iff.1 h
      have := idx_lt hj
      simp only [List.length_cons]; omega
/-- Up to here the key is not there. -/
theorem idx_drop {k : Ky} : ∀ (ls : List Ln) (i : Nat), (∀ j (h : j < ls.length), j < i → ls[j].k ≠ k) → (h : i < ls.length) → (ls[i].k = k → idx k ls = some i)
  | [], i, _, h, _ => by simp at h
  | l :: r, i, hn, h, he => by
    unfold idx
    cases i with
    | zero => rw [if_pos (by simpa using he)]
    | succ i =>
      rw [if_neg (by have := hn 0 (by simp) (by omega); simpa using this)]
      rw [idx_drop r i (fun j hj hji => by have := hn (j + 1) (by simp; omega) (by omega); simpa using this) (by simpa using h) (by simpa using he)]
      rfl
theorem idx_no {k : Ky} : ∀ (ls : List Ln), (∀ j (h : j < ls.length), ls[j].k ≠ k) → idx k ls = none
  | [], _ => rfl
  | l :: r, hn => by
    unfold idx
    rw [if_neg (by have := hn 0 (by simp); simpa using this), idx_no r (fun j hj => by have := hn (j + 1) (by simp; omega); simpa using this)]
    rfl

set_option maxRecDepth 100000 in
/-- '==' of two keys. -/
theorem key_cmp (a b : Ky) (w : World) : (Op.equalIn 10000 56 (.agg #[.int .u8 a.k0, .int .u8 a.k1, .int .u8 a.k2, .int .u8 a.k3, .int .u8 a.k4, .int .u8 a.k5, .int .u8 a.k6, .int .u8 a.k7]) (.agg #[.int .u8 b.k0, .int .u8 b.k1, .int .u8 b.k2, .int .u8 b.k3, .int .u8 b.k4, .int .u8 b.k5, .int .u8 b.k6, .int .u8 b.k7])).run Tryz.prog w = .ok (decide (a = b)) w := by
  have u5 := Tryz.underlying5
  have a5 := Tryz.isAgg5
  have z5 := Tryz.sizeOf5
  obtain ⟨a0, a1, a2, a3, a4, a5', a6, a7⟩ := a
  obtain ⟨b0, b1, b2, b3, b4, b5, b6, b7⟩ := b
  rw [show (10000 : Nat) = 9999 + 1 from rfl, Op.equalIn]
  simp only [Sem.run_bind, run_underlying Tryz.underlying56, Result.andThen_ok]
  simp only [Std.Legacy.Range.forIn_eq_forIn_range', Std.Legacy.Range.size, Nat.sub_zero, Nat.add_sub_cancel, Nat.div_one, List.range'_succ, List.range'_zero, List.forIn_cons, List.forIn_nil]
  go_simp
  repeat' split
  all_goals simp_all
set_option maxRecDepth 100000 in
set_option maxHeartbeats 2000000 in
theorem find84 (bb base : Nat) (lv : Value) (B : Bk) (k : Ky) (w : World) (h : BookAt w bb base lv B) (hl : B.ls.length ≤ 12) :
    Calls Tryz.prog 84 #[.pointer (some ⟨bb, 0, none⟩), .agg #[.int .u8 k.k0, .int .u8 k.k1, .int .u8 k.k2, .int .u8 k.k3, .int .u8 k.k4, .int .u8 k.k5, .int .u8 k.k6, .int .u8 k.k7]] w fun e w' => e = .returned (.int .i64 (idxI k B.ls)) ∧ Below w.heap.size w w' := by
  obtain ⟨a, c, rfl⟩ := own_sliceE h.ho
  have a1 := cellB h.hb
  have HB := hide h
  have HL := hide hl
  have hl' : (B.ls.length : Int) ≤ 12 := by omega
  clear h hl
  obtain ⟨W0, hW0⟩ : ∃ W0, W0 = w.alloc (.cells #[.int .u8 k.k0, .int .u8 k.k1, .int .u8 k.k2, .int .u8 k.k3, .int .u8 k.k4, .int .u8 k.k5, .int .u8 k.k6, .int .u8 k.k7] 56) := ⟨_, rfl⟩
  have hbx : W0.heap[w.heap.size]? = some (.cells #[.int .u8 k.k0, .int .u8 k.k1, .int .u8 k.k2, .int .u8 k.k3, .int .u8 k.k4, .int .u8 k.k5, .int .u8 k.k6, .int .u8 k.k7] 56) := hW0 ▸ heapNew _ _
  have hB0 : Below w.heap.size w W0 := hW0 ▸ (Below.refl _ w).alloc (Nat.le_refl _) _
  have hW0s := hB0.size
  go_enter Tryz.func84, Tryz.ntmps84
  go_wp2
  rw [← hW0]
  go_loopw [5] (fun s5 wr => ∃ i : Nat, i ≤ B.ls.length ∧ s5 = .int .i64 i ∧ (∀ j (h : j < B.ls.length), j < i → B.ls[j].k ≠ k) ∧ Below W0.heap.size W0 wr) (fun s5 _ => B.ls.length - (intOf s5).toNat)
  case atStart => exact ⟨0, Nat.zero_le _, rfl, fun j _ h => absurd h (Nat.not_lt_zero _), Below.refl _ _⟩
  case round =>
    obtain ⟨i, hi, rfl, hne, hbr⟩ := hrel
    have hbw : Below w.heap.size w wr := hB0.trans (hbr.mono hW0s)
    have b1 := (hbw.block bb (ltB HB.out.hb)).trans HB.out.hb
    have b2 := (hbr.block _ (ltB hbx)).trans hbx
    have c1 := cellB b1
    by_cases hlt : i < B.ls.length
    · obtain ⟨g, gc, hv, _, hgl⟩ := HB.out.ho.form (by omega)
      injection hv with e1 _ e2
      subst e1 e2
      obtain ⟨l, hle⟩ : ∃ l, l = B.ls[i] := ⟨_, rfl⟩
      have cc : ∀ j, j < 13 → wr.cell? ⟨g, i * 13 + j, none⟩ = (lnc l)[j]? := fun j hj => (hbw.cell (p := ⟨g, i * 13 + j, none⟩) hgl).trans (by rw [hle]; exact HB.out.cells i hlt j hj)
      have d0 := cc 0 (by omega)
      have d1 := cc 1 (by omega)
      have d2 := cc 2 (by omega)
      have d3 := cc 3 (by omega)
      have d4 := cc 4 (by omega)
      have d5 := cc 5 (by omega)
      have d6 := cc 6 (by omega)
      have d7 := cc 7 (by omega)
      rw [Nat.add_zero] at d0
      simp only [lnc, List.getElem?_cons_zero, List.getElem?_cons_succ] at d0 d1 d2 d3 d4 d5 d6 d7
      have x0 := cellB b2
      have hlt' : (i : Int) < (B.ls.length : Int) := by omega
      have HNE := hide hne
      have HLE := hide hle
      have HBW := hide hbw
      have HBR := hide hbr
      clear hne hle hbw hbr cc a1
      have hkc := key_cmp l.k k
      by_cases hk : l.k = k
      · rw [decide_eq_true hk] at hkc
        have HK := hide hk
        clear hk
        go_wp2_with fail
        go_region
        all_goals go_wp2
        all_goals go_ret
        all_goals refine ⟨?_, HBW.out.drew⟩
        all_goals unfold idxI
        all_goals rw [idx_drop B.ls i HNE.out hlt (by rw [← HLE.out]; exact HK.out)]
        all_goals rfl
      · rw [decide_eq_false hk] at hkc
        have HN2 : Hid (∀ j (h : j < B.ls.length), j < i + 1 → B.ls[j].k ≠ k) := hide (fun j hj hji => by
          rcases Nat.lt_or_ge j i with h | h
          · exact HNE.out j hj h
          · have e : j = i := by omega
            subst e
            rw [← HLE.out]
            exact hk)
        clear hk
        go_wp2_with fail
        go_region
        all_goals go_wp2
        all_goals go_roundw
        all_goals first | (exact ⟨i + 1, by omega, by go_num, HN2.out, HBR.out.drew⟩) | (simp [intOf]; omega)
    · obtain rfl : i = B.ls.length := by omega
      have hlt' : ¬ (B.ls.length : Int) < (B.ls.length : Int) := by omega
      clear a1
      go_wp2
      go_ret
      refine ⟨?_, hbw⟩
      unfold idxI
      rw [idx_no B.ls (fun j hj => hne j hj hj)]
      rfl
end Go.Proofs.YtlamgpeiolfffaaGreatDoor

namespace Go.Proofs.YtlamgpeiolfffaaGreatDoor
open Go.RowKit
variable [dK] [iK]

structure Ln.ok (l : Ln) : Prop where
  kd : soundM l.kd l.x l.y
  x : 0 ≤ l.x ∧ l.x ≤ 18446744073709551615
  y : 0 ≤ l.y ∧ l.y ≤ 18446744073709551615
  at_ : 0 ≤ l.at_ ∧ l.at_ ≤ 18446744073709551615
  in_ : 0 ≤ l.in_ ∧ l.in_ ≤ 18446744073709551615
theorem Ln.ok.yp {l : Ln} (h : l.ok) (hk : ¬ l.kd = 1) : 1 ≤ l.y := by rcases h.kd with h | h; exact absurd h.1 hk; exact h.2

/-- A line's cells. -/
structure LnAt (w : World) (g i : Nat) (l : Ln) : Prop where
  c0 : w.cell? ⟨g, i * 13, none⟩ = some (.int .u8 l.k.k0)
  c1 : w.cell? ⟨g, i * 13 + 1, none⟩ = some (.int .u8 l.k.k1)
  c2 : w.cell? ⟨g, i * 13 + 2, none⟩ = some (.int .u8 l.k.k2)
  c3 : w.cell? ⟨g, i * 13 + 3, none⟩ = some (.int .u8 l.k.k3)
  c4 : w.cell? ⟨g, i * 13 + 4, none⟩ = some (.int .u8 l.k.k4)
  c5 : w.cell? ⟨g, i * 13 + 5, none⟩ = some (.int .u8 l.k.k5)
  c6 : w.cell? ⟨g, i * 13 + 6, none⟩ = some (.int .u8 l.k.k6)
  c7 : w.cell? ⟨g, i * 13 + 7, none⟩ = some (.int .u8 l.k.k7)
  c8 : w.cell? ⟨g, i * 13 + 8, none⟩ = some (.int .u8 l.kd)
  c9 : w.cell? ⟨g, i * 13 + 9, none⟩ = some (.int .u64 l.x)
  c10 : w.cell? ⟨g, i * 13 + 10, none⟩ = some (.int .u64 l.y)
  c11 : w.cell? ⟨g, i * 13 + 11, none⟩ = some (.int .u64 l.at_)
  c12 : w.cell? ⟨g, i * 13 + 12, none⟩ = some (.int .u64 l.in_)
theorem BookAt.line {w : World} {bb base g cap n : Nat} {B : Bk} (h : BookAt w bb base (.slice (some ⟨g, 0, none⟩) n cap) B) {i : Nat} {l : Ln} (hi : B.ls[i]? = some l) : LnAt w g i l := by
  obtain ⟨hlt, rfl⟩ := List.getElem?_eq_some_iff.1 hi
  have c := h.cells i hlt
  exact ⟨c 0 (by omega), c 1 (by omega), c 2 (by omega), c 3 (by omega), c 4 (by omega), c 5 (by omega), c 6 (by omega), c 7 (by omega), c 8 (by omega), c 9 (by omega), c 10 (by omega), c 11 (by omega), c 12 (by omega)⟩
theorem BookAt.open {w : World} {bb base : Nat} {lv : Value} {B : Bk} (h : BookAt w bb base lv B) {i : Nat} {l : Ln} (hi : B.ls[i]? = some l) : ∃ g cap, lv = .slice (some ⟨g, 0, none⟩) B.ls.length cap ∧ base ≤ g ∧ g < w.heap.size ∧ LnAt w g i l ∧ i < B.ls.length := by
  have hlt := (List.getElem?_eq_some_iff.1 hi).1
  obtain ⟨g, cap, hv, hg, hgl⟩ := h.ho.form (by omega)
  subst hv
  exact ⟨g, cap, rfl, hg, hgl, h.line hi, hlt⟩

set_option maxRecDepth 100000 in
set_option maxHeartbeats 2000000 in
theorem stands85 (bb base : Nat) (lv : Value) (B : Bk) (i : Nat) (l : Ln) (w : World) (h : BookAt w bb base lv B) (hi : B.ls[i]? = some l) (hl : B.ls.length ≤ 12) (ho : l.ok) (hT : 0 ≤ B.time ∧ B.time ≤ 18446744073709551615) :
    Calls Tryz.prog 85 #[.pointer (some ⟨bb, 0, none⟩), .int .i64 i] w fun e w' => e = .returned (.tuple #[.int .u64 (standsM B.time l).1, .int .u64 (standsM B.time l).2]) ∧ Below w.heap.size w w' := by
  obtain ⟨g, cap, rfl, _, hgl, L, hlt⟩ := h.open hi
  obtain ⟨d0, d1, d2, d3, d4, d5, d6, d7, d8, d9, d10, d11, d12⟩ := L
  have a1 := cellB h.hb
  have hbl := ltB h.hb
  have hlt' : (i : Int) < (B.ls.length : Int) := by omega
  have hl' : (B.ls.length : Int) ≤ 12 := by omega
  have hi0 : (0 : Int) ≤ (i : Int) := by omega
  obtain ⟨n, hn⟩ : ∃ n, n = B.ls.length := ⟨_, rfl⟩
  have b1 := fun o => upC h.hb o 1
  rw [← hn] at hlt' hl' a1 b1
  have HH := hide h
  have HO := hide ho
  clear h hl hi hn hlt
  by_cases hk : l.kd = 1
  · have e : standsM B.time l = (l.at_, 0) := by unfold standsM; rw [if_pos hk]
    rw [e]
    rw [hk] at d8
    clear e
    go_enter Tryz.func85, Tryz.ntmps85
    go_wp2_with fail
    go_ret2
    exact ⟨rfl, (Below.refl _ w).alloc (Nat.le_refl _) _⟩
  · have hy := HO.out.yp hk
    have hyr := HO.out.y
    have hkb : (l.kd == 1) = false := by simpa using hk
    have hdt : B.time.tdiv l.y = B.time / l.y := Int.tdiv_eq_ediv_of_nonneg (by omega)
    have hd0 : 0 ≤ B.time / l.y := Int.ediv_nonneg (by omega) (by omega)
    have hd1 : B.time / l.y ≤ B.time := Int.ediv_le_self _ (by omega)
    have hdw : IntKind.u64.wrap (B.time / l.y) = B.time / l.y := by rw [IntKind.wrap_u64]; omega
    have hyn : ¬ l.y = 0 := by omega
    obtain ⟨q, hq⟩ : ∃ q, q = B.time / l.y := ⟨_, rfl⟩
    by_cases hin : l.in_ = B.time / l.y
    · have e : standsM B.time l = (l.at_, q) := by unfold standsM; rw [if_neg hk, if_pos hin, hq]
      rw [e]
      rw [← hq] at hdt hdw hin
      have hinb : (l.in_ == q) = true := by simpa using hin
      clear e hd0 hd1 hin hq
      go_enter Tryz.func85, Tryz.ntmps85
      go_wp2_with fail
      go_region
      all_goals go_wp2
      all_goals go_ret2
      all_goals exact ⟨rfl, ((Below.refl _ w).alloc (Nat.le_refl _) _).drew⟩
    · have e : standsM B.time l = (0, q) := by unfold standsM; rw [if_neg hk, if_neg hin, hq]
      rw [e]
      rw [← hq] at hdt hdw hin
      have hinb : (l.in_ == q) = false := by simpa using hin
      clear e hd0 hd1 hin hq
      go_enter Tryz.func85, Tryz.ntmps85
      go_wp2_with fail
      go_region
      all_goals go_wp2
      all_goals go_ret2
      all_goals exact ⟨rfl, ((Below.refl _ w).alloc (Nat.le_refl _) _).drew⟩

theorem BookAt.kept {w w' : World} {bb base : Nat} {lv : Value} {B : Bk} (h : BookAt w bb base lv B) (hk : ∀ k, k = bb ∨ lv.ownBlock = some k → w'.heap[k]? = w.heap[k]?) : BookAt w' bb base lv B :=
  ⟨(hk bb (Or.inl rfl)).trans h.hb, own_keptE h.ho (fun g hg => hk g (Or.inr hg))⟩
theorem BookAt.below {w w' : World} {bb base : Nat} {lv : Value} {B : Bk} (h : BookAt w bb base lv B) {N : Nat} (hb : Below N w w') (hN : w.heap.size ≤ N) : BookAt w' bb base lv B :=
  h.kept (fun k hk => hb.block k (Nat.lt_of_lt_of_le (by rcases hk with rfl | hk; exact ltB h.hb; exact (own_ltE h.ho hk).2) hN))

/-- Time goes on. -/
def tellM (B : Bk) (now : Int) : Bk := ⟨if B.time < now then now else B.time, B.ls⟩
set_option maxRecDepth 100000 in
theorem tell50 (bb base : Nat) (lv : Value) (B : Bk) (now : Int) (w : World) (h : BookAt w bb base lv B) :
    Calls Tryz.prog 50 #[.pointer (some ⟨bb, 0, none⟩), .int .u64 now] w fun e w' => e = .returned (.tuple #[]) ∧ BookAt w' bb base lv (tellM B now) ∧ Keep (fun b => b = bb) w w' := by
  have a1 := cellB h.hb
  have a2 := frozenB h.hb
  have hne : ∀ g, lv.ownBlock = some g → g ≠ bb := fun g hg => own_neE h.ho hg h.hb (by decide)
  obtain ⟨a, c, rfl⟩ := own_sliceE h.ho
  by_cases ht : B.time < now
  · have e : tellM B now = ⟨now, B.ls⟩ := by unfold tellM; rw [if_pos ht]
    rw [e]
    have HH := hide h
    have HN := hide hne
    clear h hne e
    go_enter Tryz.func50, Tryz.ntmps50
    go_wp2
    go_end0
    refine ⟨rfl, ⟨by simpa using heapSet HH.out.hb 1 (.int .u64 now), own_keptE HH.out.ho (fun g hg => heapSetO (HN.out g hg) _ _)⟩, ?_⟩
    exact Keep.set (S := fun b => b = bb) (b := bb) (Keep.refl _ w) (Or.inl rfl) _ _
  · have e : tellM B now = B := by unfold tellM; rw [if_neg ht]
    rw [e]
    have HH := hide h
    clear h hne e
    go_enter Tryz.func50, Tryz.ntmps50
    go_wp2
    go_end0
    exact ⟨rfl, HH.out, Keep.refl _ _⟩
end Go.Proofs.YtlamgpeiolfffaaGreatDoor

namespace Go.Proofs.YtlamgpeiolfffaaGreatDoor
open Go.RowKit
variable [dK] [iK]

structure Bk.ok (B : Bk) : Prop where
  time : 0 ≤ B.time ∧ B.time ≤ 18446744073709551615
  len : B.ls.length ≤ 12
  ln : ∀ l ∈ B.ls, l.ok
/-- A request's cells. -/
abbrev rqv (q : Rq) : Value := .agg #[.int .u8 q.op, .int .u8 q.k0, .int .u8 q.k1, .int .u8 q.k2, .int .u8 q.k3, .int .u8 q.k4, .int .u8 q.k5, .int .u8 q.k6, .int .u8 q.k7, .int .u8 q.kd, .int .u64 q.x, .int .u64 q.y, .int .u64 q.n]
/-- What Ask leaves. -/
def AskPost (bb base : Nat) (lv : Value) (B : Bk) (q : Rq) (w : World) (e : Ending) (w' : World) : Prop :=
  ∃ lv', e = .returned (.agg #[.int .u8 (askM B q).2.c, .int .u64 (askM B q).2.a, .int .u64 (askM B q).2.b]) ∧ BookAt w' bb base lv' (askM B q).1 ∧ Keep (fun b => b = bb ∨ lv.ownBlock = some b) w w' ∧ (∀ g, lv'.ownBlock = some g → lv.ownBlock = some g ∨ w.heap.size ≤ g)

theorem AskPost.mk' {w u : World} {bb base : Nat} {lv lv' : Value} {B B' : Bk} {q : Rq} {c a b : Int} {R : Nat} (h : BookAt u bb base lv' B') (he : askM B q = (B', ⟨c, a, b⟩)) (hR : w.heap.size ≤ R) (h1 : bb ≠ R) (h2 : ∀ g, lv'.ownBlock = some g → g ≠ R) (hk : Keep (fun b => b = bb ∨ lv.ownBlock = some b) w u) (hl : ∀ g, lv'.ownBlock = some g → lv.ownBlock = some g ∨ w.heap.size ≤ g) :
    AskPost bb base lv B q w (.returned (.agg #[.int .u8 c, .int .u64 a, .int .u64 b])) (((u.setCell ⟨R, 0, none⟩ (.int .u8 c)).setCell ⟨R, 1, none⟩ (.int .u64 a)).setCell ⟨R, 2, none⟩ (.int .u64 b)) := by
  refine ⟨lv', by rw [he], ?_, ((hk.set (Or.inr hR) _ _).set (Or.inr hR) _ _).set (Or.inr hR) _ _, hl⟩
  rw [he]
  refine h.kept (fun k hk => ?_)
  have hne : k ≠ R := by
    rcases hk with rfl | hk
    · exact h1
    · exact h2 k hk
  rw [heapSetO hne, heapSetO hne, heapSetO hne]

set_option maxRecDepth 100000 in
set_option maxHeartbeats 2000000 in
/-- Ask: Snapshot. -/
theorem ask57_5 (bb base : Nat) (lv : Value) (B : Bk) (q : Rq) (w : World) (h : BookAt w bb base lv B) (hB : B.ok) (_hq : q.ok) (ho : q.op = 5) :
    Calls Tryz.prog 57 #[.pointer (some ⟨bb, 0, none⟩), rqv q] w (AskPost bb base lv B q w) := by
  obtain ⟨W, hW⟩ : ∃ W, W = (w.alloc (.cells #[.int .u8 q.op, .int .u8 q.k0, .int .u8 q.k1, .int .u8 q.k2, .int .u8 q.k3, .int .u8 q.k4, .int .u8 q.k5, .int .u8 q.k6, .int .u8 q.k7, .int .u8 q.kd, .int .u64 q.x, .int .u64 q.y, .int .u64 q.n] 58)).alloc (.cells #[.int .u8 0, .int .u64 0, .int .u64 0] 40) := ⟨_, rfl⟩
  have hq0 : W.heap[w.heap.size]? = some (.cells #[.int .u8 q.op, .int .u8 q.k0, .int .u8 q.k1, .int .u8 q.k2, .int .u8 q.k3, .int .u8 q.k4, .int .u8 q.k5, .int .u8 q.k6, .int .u8 q.k7, .int .u8 q.kd, .int .u64 q.x, .int .u64 q.y, .int .u64 q.n] 58) := hW ▸ upB (heapNew _ _) _
  have hr0 : W.heap[w.heap.size + 1]? = some (.cells #[.int .u8 0, .int .u64 0, .int .u64 0] 40) := hW ▸ heapN (by simp)
  have hBW : Below w.heap.size w W := hW ▸ ((Below.refl _ w).alloc (Nat.le_refl _) _).alloc (by simp) _
  have hAW := h.below hBW (Nat.le_refl _)
  have hbl := ltB h.hb
  have hgl : ∀ g, lv.ownBlock = some g → g < w.heap.size := fun g hg => (own_ltE h.ho hg).2
  have h84 := find84 bb base lv B q.key W hAW hB.len
  have hl12 := hB.len
  have hTm := hB.time
  have em : askM B q = (B, ⟨1, 0, 0⟩) := by unfold askM; rw [if_neg (by omega), if_pos ho]
  have HE := hide em
  clear em
  have H84 := hide h84
  have HAW := hide hAW
  have HQ0 := hide hq0
  have HR0 := hide hr0
  have HBW := hide hBW
  have HGL := hide hgl
  have HB := hide hB
  have HH := hide h
  clear h84 hAW hq0 hr0 hBW hgl hB h
  have HO := hide ho
  clear ho
  go_enter Tryz.func57, Tryz.ntmps57
  go_wp2_with fail
  have h84 := H84.out
  rw [hW] at h84
  refine h84.mono ?_
  rw [← hW]
  rintro e w1 ⟨rfl, hb1⟩
  have hA1 := HAW.out.below hb1 (Nat.le_refl _)
  have hq1 := (hb1.block _ (ltB HQ0.out)).trans HQ0.out
  have hr1 := (hb1.block _ (ltB HR0.out)).trans HR0.out
  have x0 := cellB hq1
  have x1 := cellB hr1
  have x2 := frozenB hr1
  have y1 := cellB hA1.hb
  have HA1 := hide hA1
  have HR1 := hide hr1
  have HQ1 := hide hq1
  have HBE := hide (HBW.out.trans (hb1.mono HBW.out.size))
  have hbR : bb ≠ w.heap.size + 1 := by omega
  have hbR' : w.heap.size + 1 ≠ bb := by omega
  clear h84 hW hA1 hq1 hr1 hb1
  have ho := HO.out
  obtain ⟨ii, hii⟩ : ∃ ii, ii = idxI q.key B.ls := ⟨_, rfl⟩
  rw [← hii]
  clear hii
  go_wp2_with fail
  exact bodyPost_ret (v := .agg #[.int .u8 1, .int .u64 0, .int .u64 0]) (by simp [results, Tryz.results57, go_sem, x1]) rfl (AskPost.mk' HA1.out HE.out (Nat.le_succ _) hbR (fun g hg => by have := HGL.out g hg; omega) (Keep.of_below HBE.out) (fun g hg => Or.inl hg))
set_option maxRecDepth 100000 in
set_option maxHeartbeats 2000000 in
/-- Ask: Clock. -/
theorem ask57_6 (bb base : Nat) (lv : Value) (B : Bk) (q : Rq) (w : World) (h : BookAt w bb base lv B) (hB : B.ok) (_hq : q.ok) (ho : q.op = 6) :
    Calls Tryz.prog 57 #[.pointer (some ⟨bb, 0, none⟩), rqv q] w (AskPost bb base lv B q w) := by
  obtain ⟨W, hW⟩ : ∃ W, W = (w.alloc (.cells #[.int .u8 q.op, .int .u8 q.k0, .int .u8 q.k1, .int .u8 q.k2, .int .u8 q.k3, .int .u8 q.k4, .int .u8 q.k5, .int .u8 q.k6, .int .u8 q.k7, .int .u8 q.kd, .int .u64 q.x, .int .u64 q.y, .int .u64 q.n] 58)).alloc (.cells #[.int .u8 0, .int .u64 0, .int .u64 0] 40) := ⟨_, rfl⟩
  have hq0 : W.heap[w.heap.size]? = some (.cells #[.int .u8 q.op, .int .u8 q.k0, .int .u8 q.k1, .int .u8 q.k2, .int .u8 q.k3, .int .u8 q.k4, .int .u8 q.k5, .int .u8 q.k6, .int .u8 q.k7, .int .u8 q.kd, .int .u64 q.x, .int .u64 q.y, .int .u64 q.n] 58) := hW ▸ upB (heapNew _ _) _
  have hr0 : W.heap[w.heap.size + 1]? = some (.cells #[.int .u8 0, .int .u64 0, .int .u64 0] 40) := hW ▸ heapN (by simp)
  have hBW : Below w.heap.size w W := hW ▸ ((Below.refl _ w).alloc (Nat.le_refl _) _).alloc (by simp) _
  have hAW := h.below hBW (Nat.le_refl _)
  have hbl := ltB h.hb
  have hgl : ∀ g, lv.ownBlock = some g → g < w.heap.size := fun g hg => (own_ltE h.ho hg).2
  have h84 := find84 bb base lv B q.key W hAW hB.len
  have hl12 := hB.len
  have hTm := hB.time
  have em : askM B q = (B, ⟨1, B.time, 0⟩) := by unfold askM; rw [if_neg (by omega), if_neg (by omega), if_pos ho]
  have HE := hide em
  clear em
  have H84 := hide h84
  have HAW := hide hAW
  have HQ0 := hide hq0
  have HR0 := hide hr0
  have HBW := hide hBW
  have HGL := hide hgl
  have HB := hide hB
  have HH := hide h
  clear h84 hAW hq0 hr0 hBW hgl hB h
  have HO := hide ho
  clear ho
  go_enter Tryz.func57, Tryz.ntmps57
  go_wp2_with fail
  have h84 := H84.out
  rw [hW] at h84
  refine h84.mono ?_
  rw [← hW]
  rintro e w1 ⟨rfl, hb1⟩
  have hA1 := HAW.out.below hb1 (Nat.le_refl _)
  have hq1 := (hb1.block _ (ltB HQ0.out)).trans HQ0.out
  have hr1 := (hb1.block _ (ltB HR0.out)).trans HR0.out
  have x0 := cellB hq1
  have x1 := cellB hr1
  have x2 := frozenB hr1
  have y1 := cellB hA1.hb
  have HA1 := hide hA1
  have HR1 := hide hr1
  have HQ1 := hide hq1
  have HBE := hide (HBW.out.trans (hb1.mono HBW.out.size))
  have hbR : bb ≠ w.heap.size + 1 := by omega
  have hbR' : w.heap.size + 1 ≠ bb := by omega
  clear h84 hW hA1 hq1 hr1 hb1
  have ho := HO.out
  obtain ⟨ii, hii⟩ : ∃ ii, ii = idxI q.key B.ls := ⟨_, rfl⟩
  rw [← hii]
  clear hii
  go_wp2_with fail
  exact bodyPost_ret (v := .agg #[.int .u8 1, .int .u64 B.time, .int .u64 0]) (by simp [results, Tryz.results57, go_sem, x1]) rfl (AskPost.mk' HA1.out HE.out (Nat.le_succ _) hbR (fun g hg => by have := HGL.out g hg; omega) (Keep.of_below HBE.out) (fun g hg => Or.inl hg))
set_option maxRecDepth 100000 in
set_option maxHeartbeats 2000000 in
/-- Ask: the key is not there. -/
theorem ask57_no (bb base : Nat) (lv : Value) (B : Bk) (q : Rq) (w : World) (h : BookAt w bb base lv B) (hB : B.ok) (_hq : q.ok) (ho : q.op = 2 ∨ q.op = 3 ∨ q.op = 4) (hi : idx q.key B.ls = none) :
    Calls Tryz.prog 57 #[.pointer (some ⟨bb, 0, none⟩), rqv q] w (AskPost bb base lv B q w) := by
  obtain ⟨W, hW⟩ : ∃ W, W = (w.alloc (.cells #[.int .u8 q.op, .int .u8 q.k0, .int .u8 q.k1, .int .u8 q.k2, .int .u8 q.k3, .int .u8 q.k4, .int .u8 q.k5, .int .u8 q.k6, .int .u8 q.k7, .int .u8 q.kd, .int .u64 q.x, .int .u64 q.y, .int .u64 q.n] 58)).alloc (.cells #[.int .u8 0, .int .u64 0, .int .u64 0] 40) := ⟨_, rfl⟩
  have hq0 : W.heap[w.heap.size]? = some (.cells #[.int .u8 q.op, .int .u8 q.k0, .int .u8 q.k1, .int .u8 q.k2, .int .u8 q.k3, .int .u8 q.k4, .int .u8 q.k5, .int .u8 q.k6, .int .u8 q.k7, .int .u8 q.kd, .int .u64 q.x, .int .u64 q.y, .int .u64 q.n] 58) := hW ▸ upB (heapNew _ _) _
  have hr0 : W.heap[w.heap.size + 1]? = some (.cells #[.int .u8 0, .int .u64 0, .int .u64 0] 40) := hW ▸ heapN (by simp)
  have hBW : Below w.heap.size w W := hW ▸ ((Below.refl _ w).alloc (Nat.le_refl _) _).alloc (by simp) _
  have hAW := h.below hBW (Nat.le_refl _)
  have hbl := ltB h.hb
  have hgl : ∀ g, lv.ownBlock = some g → g < w.heap.size := fun g hg => (own_ltE h.ho hg).2
  have h84 := find84 bb base lv B q.key W hAW hB.len
  have hl12 := hB.len
  have hTm := hB.time
  have em : askM B q = (B, ⟨4, 0, 0⟩) := by unfold askM; rw [if_neg (by omega), if_neg (by omega), if_neg (by omega), hi]
  have hii : idxI q.key B.ls = -1 := by unfold idxI; rw [hi]
  rw [hii] at h84
  have HE := hide em
  have o1 : (q.op == 1) = false := by simp; omega
  have o5 : (q.op == 5) = false := by simp; omega
  have o6 : (q.op == 6) = false := by simp; omega
  have p1 : ¬ q.op = 1 := by omega
  have p5 : ¬ q.op = 5 := by omega
  have p6 : ¬ q.op = 6 := by omega
  clear em hi hii ho
  have H84 := hide h84
  have HAW := hide hAW
  have HQ0 := hide hq0
  have HR0 := hide hr0
  have HBW := hide hBW
  have HGL := hide hgl
  have HB := hide hB
  have HH := hide h
  clear h84 hAW hq0 hr0 hBW hgl hB h
  go_enter Tryz.func57, Tryz.ntmps57
  go_wp2_with fail
  have h84 := H84.out
  rw [hW] at h84
  refine h84.mono ?_
  rw [← hW]
  rintro e w1 ⟨rfl, hb1⟩
  have hA1 := HAW.out.below hb1 (Nat.le_refl _)
  have hq1 := (hb1.block _ (ltB HQ0.out)).trans HQ0.out
  have hr1 := (hb1.block _ (ltB HR0.out)).trans HR0.out
  have x0 := cellB hq1
  have x1 := cellB hr1
  have x2 := frozenB hr1
  have y1 := cellB hA1.hb
  have HA1 := hide hA1
  have HR1 := hide hr1
  have HQ1 := hide hq1
  have HBE := hide (HBW.out.trans (hb1.mono HBW.out.size))
  have hbR : bb ≠ w.heap.size + 1 := by omega
  have hbR' : w.heap.size + 1 ≠ bb := by omega
  clear h84 hW hA1 hq1 hr1 hb1
  go_wp2_with fail
  exact bodyPost_ret (v := .agg #[.int .u8 4, .int .u64 0, .int .u64 0]) (by simp [results, Tryz.results57, go_sem, x1]) rfl (AskPost.mk' HA1.out HE.out (Nat.le_succ _) hbR (fun g hg => by have := HGL.out g hg; omega) (Keep.of_below HBE.out) (fun g hg => Or.inl hg))
set_option maxRecDepth 100000 in
set_option maxHeartbeats 2000000 in
/-- Ask: Query. -/
theorem ask57_3 (bb base : Nat) (lv : Value) (B : Bk) (q : Rq) (w : World) (h : BookAt w bb base lv B) (hB : B.ok) (_hq : q.ok) (ho : q.op = 3) (i : Nat) (hi : idx q.key B.ls = some i) :
    Calls Tryz.prog 57 #[.pointer (some ⟨bb, 0, none⟩), rqv q] w (AskPost bb base lv B q w) := by
  obtain ⟨W, hW⟩ : ∃ W, W = (w.alloc (.cells #[.int .u8 q.op, .int .u8 q.k0, .int .u8 q.k1, .int .u8 q.k2, .int .u8 q.k3, .int .u8 q.k4, .int .u8 q.k5, .int .u8 q.k6, .int .u8 q.k7, .int .u8 q.kd, .int .u64 q.x, .int .u64 q.y, .int .u64 q.n] 58)).alloc (.cells #[.int .u8 0, .int .u64 0, .int .u64 0] 40) := ⟨_, rfl⟩
  have hq0 : W.heap[w.heap.size]? = some (.cells #[.int .u8 q.op, .int .u8 q.k0, .int .u8 q.k1, .int .u8 q.k2, .int .u8 q.k3, .int .u8 q.k4, .int .u8 q.k5, .int .u8 q.k6, .int .u8 q.k7, .int .u8 q.kd, .int .u64 q.x, .int .u64 q.y, .int .u64 q.n] 58) := hW ▸ upB (heapNew _ _) _
  have hr0 : W.heap[w.heap.size + 1]? = some (.cells #[.int .u8 0, .int .u64 0, .int .u64 0] 40) := hW ▸ heapN (by simp)
  have hBW : Below w.heap.size w W := hW ▸ ((Below.refl _ w).alloc (Nat.le_refl _) _).alloc (by simp) _
  have hAW := h.below hBW (Nat.le_refl _)
  have hbl := ltB h.hb
  have hgl : ∀ g, lv.ownBlock = some g → g < w.heap.size := fun g hg => (own_ltE h.ho hg).2
  have h84 := find84 bb base lv B q.key W hAW hB.len
  have hl12 := hB.len
  have hTm := hB.time
  obtain ⟨l, hl⟩ : ∃ l, B.ls[i]? = some l := ⟨_, List.getElem?_eq_getElem (idx_lt hi)⟩
  have hgd : B.ls.getD i ⟨q.key, 0, 0, 0, 0, 0⟩ = l := by simp [List.getD, hl]
  have em : askM B q = (B, ⟨1, (standsM B.time l).1, (standsM B.time l).2⟩) := by unfold askM; rw [if_neg (by omega), if_neg (by omega), if_neg (by omega), hi]; dsimp only; rw [if_pos ho, hgd]
  have hii : idxI q.key B.ls = (i : Int) := by unfold idxI; rw [hi]
  rw [hii] at h84
  have hi12 : (i : Int) ≤ 12 := by have := idx_lt hi; omega
  have hi0 : (0 : Int) ≤ (i : Int) := by omega
  have hin : ¬ (i : Int) < 0 := by omega
  have hlo := hB.ln l (List.mem_of_getElem? hl)
  have HE := hide em
  have HL := hide hl
  have HLO := hide hlo
  clear em hi hii hgd hl hlo
  have H84 := hide h84
  have HAW := hide hAW
  have HQ0 := hide hq0
  have HR0 := hide hr0
  have HBW := hide hBW
  have HGL := hide hgl
  have HB := hide hB
  have HH := hide h
  clear h84 hAW hq0 hr0 hBW hgl hB h
  have HO := hide ho
  clear ho
  go_enter Tryz.func57, Tryz.ntmps57
  go_wp2_with fail
  have h84 := H84.out
  rw [hW] at h84
  refine h84.mono ?_
  rw [← hW]
  rintro e w1 ⟨rfl, hb1⟩
  have hA1 := HAW.out.below hb1 (Nat.le_refl _)
  have hq1 := (hb1.block _ (ltB HQ0.out)).trans HQ0.out
  have hr1 := (hb1.block _ (ltB HR0.out)).trans HR0.out
  have x0 := cellB hq1
  have x1 := cellB hr1
  have x2 := frozenB hr1
  have y1 := cellB hA1.hb
  have HA1 := hide hA1
  have HR1 := hide hr1
  have HQ1 := hide hq1
  have HBE := hide (HBW.out.trans (hb1.mono HBW.out.size))
  have hbR : bb ≠ w.heap.size + 1 := by omega
  have hbR' : w.heap.size + 1 ≠ bb := by omega
  clear h84 hW hA1 hq1 hr1 hb1
  have ho := HO.out
  go_wp2_with fail
  refine (stands85 bb base lv B i l _ HA1.out HL.out hl12 HLO.out hTm).mono ?_
  rintro e w2 ⟨rfl, hb2⟩
  obtain ⟨s1, hs1⟩ : ∃ s1, s1 = (standsM B.time l).1 := ⟨_, rfl⟩
  obtain ⟨s2, hs2⟩ : ∃ s2, s2 = (standsM B.time l).2 := ⟨_, rfl⟩
  have HE2 := HE.out
  rw [← hs1, ← hs2] at HE2 ⊢
  have HE3 := hide HE2
  have hlr : w.heap.size + 1 < w1.heap.size := ltB HR1.out
  have hr2 := (hb2.block _ hlr).trans HR1.out
  have z1 := cellB hr2
  have z2 := frozenB hr2
  have HA2 := hide (HA1.out.below hb2 (Nat.le_refl _))
  have HBE2 := hide (HBE.out.trans (hb2.mono HBE.out.size))
  clear x0 x1 x2 y1 HE2 hs1 hs2 hb2 hr2
  go_wp2_with fail
  exact bodyPost_ret (v := .agg #[.int .u8 1, .int .u64 s1, .int .u64 s2]) (by simp [results, Tryz.results57, go_sem, z1]) rfl (AskPost.mk' HA2.out HE3.out (Nat.le_succ _) hbR (fun g hg => by have := HGL.out g hg; omega) (Keep.of_below HBE2.out) (fun g hg => Or.inl hg))
end Go.Proofs.YtlamgpeiolfffaaGreatDoor
