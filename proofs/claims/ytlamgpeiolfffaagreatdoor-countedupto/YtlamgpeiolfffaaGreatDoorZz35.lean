import Derived.Test.YtlamgpeiolfffaaGreatDoorZz33
import Derived.Test.YtlamgpeiolfffaaGreatDoorZz34
import Derived.Test.YtlamgpeiolfffaaGreatDoorZz23
namespace Go.Proofs.YtlamgpeiolfffaaGreatDoor
open Go.RowKit

theorem rdErr_1 (bs : List Int) (h : rdErr bs = 1) : bs.length ≤ 26 := by
  cases bs with
  | nil => simp
  | cons b0 t =>
    cases t with
    | nil => simp
    | cons b1 t =>
      simp only [rdErr] at h
      split at h
      · omega
      · split at h
        · rename_i h1 h2
          split at h
          · rename_i h3
            have : reqLen b1 ≤ 26 := by unfold reqLen; repeat' split
                                        all_goals omega
            omega
          · omega
        · omega
theorem rqL_left : ∀ (n : Nat) (bs : List Int), bs.length ≤ n → Bytes bs → 2 * (rqL bs).1.length ≤ bs.length ∧ ((rqL bs).2.2 ≠ 2 → (rqL bs).2.1.length ≤ 26) ∧ Bytes (rqL bs).2.1 := by
  intro n
  induction n with
  | zero =>
    intro bs h _
    have e : bs = [] := List.length_eq_zero_iff.1 (by omega)
    subst e
    rw [rqL_stop [] (by simp [rdErr])]
    exact ⟨by simp, fun _ => by simp, fun x hx => by cases hx⟩
  | succ n ih =>
    intro bs h hb
    by_cases h0 : rdErr bs = 0
    · obtain ⟨r1, r2, _, _⟩ := rdN_ok bs h0
      rw [rqL_step bs h0]
      obtain ⟨i1, i2, i3⟩ := ih (bs.drop (rdN bs).toNat) (by rw [List.length_drop]; omega) (hb.drop _)
      refine ⟨?_, i2, i3⟩
      rw [List.length_drop] at i1
      simp only [List.length_cons]
      omega
    · rw [rqL_stop bs h0]
      refine ⟨by simp, fun h2 => ?_, hb⟩
      rcases rdErr_cases bs with e | e | e
      · exact absurd e h0
      · exact rdErr_1 bs e
      · exact absurd e h2

/-- The law's own blocks in memory. -/
structure LawAt (w : World) (base hb wb bb kb kc : Nat) (blk : Int) (tb : Nat → Nat) (rv : Nat → Value) (lv : Value) (L : Ld) (B : Bk) (c : Nat → Cn) : Prop where
  blk : ∃ least, w.heap[wb]? = some (.cells #[.pointer (some ⟨hb, 0, none⟩), .pointer (some ⟨bb, 0, none⟩), .slice (some ⟨kb, 0, none⟩) 3 kc, .int .u64 blk, .bool false, .bool false, .int .u8 0, .int .u8 0, .int .u8 0, .int .u8 0, .int .u8 0, .int .u8 0, .int .u8 0, .int .u8 0, .int .u8 0, .int .u8 0, .int .u64 0, .int .u64 0, .int .u64 0, .int .u64 0, .int .u64 0, least, .int .u64 L.adm] 60)
  book : BookAt w bb base lv B
  sim : Sim L B
  cs : w.ownsRow base 92 1 (.slice (some ⟨kb, 0, none⟩) 3 kc) 3 (ptrs tb 3)
  st : ∀ i, i < 3 → w.heap[tb i]? = some (.cells #[rv i, .bool (c i).bad] 94)
  sl : ∀ i, i < 3 → Sl w (rv i) (c i).waits
  inj : ∀ i j, i < 3 → j < 3 → tb i = tb j → i = j
  dis : ∀ i, i < 3 → (c i).waits ≠ [] → ∀ g o n d, rv i = .slice (some ⟨g, o, none⟩) n d → base ≤ g ∧ g ≠ bb ∧ g ≠ wb ∧ g ≠ kb ∧ lv.ownBlock ≠ some g ∧ ∀ j, j < 3 → g ≠ tb j
  lo : base ≤ wb ∧ base ≤ bb ∧ ∀ i, i < 3 → base ≤ tb i
  bw : ∀ i, i < 3 → Bytes (c i).waits ∧ (c i).waits.length ≤ 26 ∧ ((c i).bad = true → (c i).waits = [])
  bs : base ≤ w.heap.size
/-- The blocks that the law reads. -/
def LG (wb bb kb : Nat) (tb : Nat → Nat) (rv : Nat → Value) (lv : Value) (c : Nat → Cn) (b : Nat) : Prop := b = wb ∨ b = bb ∨ b = kb ∨ lv.ownBlock = some b ∨ (∃ i, i < 3 ∧ b = tb i) ∨ ∃ i, i < 3 ∧ (c i).waits ≠ [] ∧ ∃ o n d, rv i = .slice (some ⟨b, o, none⟩) n d
/-- The blocks that the law writes into. -/
def LW (wb bb : Nat) (tb : Nat → Nat) (lv : Value) (b : Nat) : Prop := b = bb ∨ b = wb ∨ lv.ownBlock = some b ∨ ∃ i, i < 3 ∧ b = tb i
theorem LW.lg {wb bb kb : Nat} {tb : Nat → Nat} {rv : Nat → Value} {lv : Value} {c : Nat → Cn} {b : Nat} (h : LW wb bb tb lv b) : LG wb bb kb tb rv lv c b := by
  rcases h with h | h | h | h
  · exact Or.inr (Or.inl h)
  · exact Or.inl h
  · exact Or.inr (Or.inr (Or.inr (Or.inl h)))
  · exact Or.inr (Or.inr (Or.inr (Or.inr (Or.inl h))))
theorem LawAt.kbB {w : World} {base hb wb bb kb kc : Nat} {blk : Int} {tb : Nat → Nat} {rv : Nat → Value} {lv : Value} {L : Ld} {B : Bk} {c : Nat → Cn} (H : LawAt w base hb wb bb kb kc blk tb rv lv L B c) : base ≤ kb ∧ kb < w.heap.size ∧ ∃ a fr, w.heap[kb]? = some (.cells a 92 fr) := by
  have h := own_ltE H.cs (g := kb) rfl
  exact ⟨h.1, h.2, own_type H.cs rfl⟩
theorem LawAt.low {w : World} {base hb wb bb kb kc : Nat} {blk : Int} {tb : Nat → Nat} {rv : Nat → Value} {lv : Value} {L : Ld} {B : Bk} {c : Nat → Cn} (H : LawAt w base hb wb bb kb kc blk tb rv lv L B c) (b : Nat) (h : LG wb bb kb tb rv lv c b) : base ≤ b ∧ b < w.heap.size := by
  obtain ⟨least, hw⟩ := H.blk
  rcases h with rfl | rfl | rfl | h | ⟨i, hi, rfl⟩ | ⟨i, hi, hne, o, n, d, h⟩
  · exact ⟨H.lo.1, ltB hw⟩
  · exact ⟨H.lo.2.1, ltB H.book.hb⟩
  · exact ⟨H.kbB.1, H.kbB.2.1⟩
  · exact own_ltE H.book.ho h
  · exact ⟨H.lo.2.2 i hi, ltB (H.st i hi)⟩
  · exact ⟨(H.dis i hi hne _ _ _ _ h).1, (H.sl i hi).lt hne h⟩
theorem LawAt.kept {w w' : World} {base hb wb bb kb kc : Nat} {blk : Int} {tb : Nat → Nat} {rv : Nat → Value} {lv : Value} {L : Ld} {B : Bk} {c : Nat → Cn} (H : LawAt w base hb wb bb kb kc blk tb rv lv L B c) (hs : w.heap.size ≤ w'.heap.size) (hk : ∀ b, LG wb bb kb tb rv lv c b → w'.heap[b]? = w.heap[b]?) : LawAt w' base hb wb bb kb kc blk tb rv lv L B c := by
  obtain ⟨least, hw⟩ := H.blk
  refine ⟨⟨least, (hk wb (Or.inl rfl)).trans hw⟩, ⟨(hk bb (Or.inr (Or.inl rfl))).trans H.book.hb, own_keptE H.book.ho (fun g hg => hk g (Or.inr (Or.inr (Or.inr (Or.inl hg)))))⟩, H.sim, own_keptE H.cs (fun g hg => hk g (by simp [Value.ownBlock] at hg; subst hg; exact Or.inr (Or.inr (Or.inl rfl)))), fun i hi => (hk _ (Or.inr (Or.inr (Or.inr (Or.inr (Or.inl ⟨i, hi, rfl⟩)))))).trans (H.st i hi), fun i hi => (H.sl i hi).keptN hs (fun hne g o n d e _ => hk g (Or.inr (Or.inr (Or.inr (Or.inr (Or.inr ⟨i, hi, hne, o, n, d, e⟩)))))), H.inj, H.dis, H.lo, H.bw, Nat.le_trans H.bs hs⟩

theorem LawAt.fed {w w' : World} {base hb wb bb kb kc : Nat} {blk : Int} {tb : Nat → Nat} {rv : Nat → Value} {lv : Value} {L L2 : Ld} {B : Bk} {c : Nat → Cn} (H : LawAt w base hb wb bb kb kc blk tb rv lv L B c) {i : Nat} (hi : i < 3) {b1 : Bool} {lf : List Int} (hlb : Bytes lf) (hll : lf.length ≤ 26) (hbl : b1 = true → lf = [])
    (P : FedPost wb bb base kb kc (tb i) (rv i) lv (.pointer (some ⟨hb, 0, none⟩)) (.int .u64 blk) (.int .u8 0) (.int .u8 0) (.int .u8 0) (.int .u8 0) (.int .u8 0) (.int .u8 0) (.int .u8 0) (.int .u8 0) (.int .u8 0) (.int .u8 0) (.int .u64 0) (.int .u64 0) (.int .u64 0) (.int .u64 0) (.int .u64 0) L2 b1 lf w w') :
    ∃ lv' B' rv', LawAt w' base hb wb bb kb kc blk tb (fun j => if j = i then rv' else rv j) lv' L2 B' (fun j => if j = i then ⟨lf, b1⟩ else c j) ∧ Keep (LW wb bb tb lv) w w' ∧ ∀ b, LG wb bb kb tb (fun j => if j = i then rv' else rv j) lv' (fun j => if j = i then ⟨lf, b1⟩ else c j) b → LG wb bb kb tb rv lv c b ∨ w.heap.size ≤ b := by
  obtain ⟨lv', B', least', rv', p1, p2, p3, p4, p5, p6, p7, p8⟩ := P
  obtain ⟨least, hw⟩ := H.blk
  obtain ⟨kl1, kl2, ka, kfr, hkb⟩ := H.kbB
  have hsz := p8.size
  have hnk : kb ≠ bb ∧ kb ≠ wb ∧ lv.ownBlock ≠ some kb ∧ ∀ j, j < 3 → kb ≠ tb j := by
    refine ⟨fun e => ?_, fun e => ?_, fun e => own_neE H.book.ho e hkb (by decide) rfl, fun j hj e => ?_⟩
    · rw [e, H.book.hb] at hkb; simp at hkb
    · rw [e, hw] at hkb; simp at hkb
    · rw [e, H.st j hj] at hkb; simp at hkb
  have hnt : ∀ j, j < 3 → tb j ≠ bb ∧ tb j ≠ wb ∧ lv.ownBlock ≠ some (tb j) := fun j hj => by
    refine ⟨fun e => ?_, fun e => ?_, fun e => own_neE H.book.ho e (H.st j hj) (by decide) rfl⟩
    · have := H.st j hj; rw [e, H.book.hb] at this; simp at this
    · have := H.st j hj; rw [e, hw] at this; simp at this
  have hst : ∀ j, j < 3 → j ≠ i → w'.heap[tb j]? = w.heap[tb j]? := fun j hj hne => p8.block _ (ltB (H.st j hj)) (fun e => by
    obtain ⟨h1, h2, h3⟩ := hnt j hj
    rcases e with e | e | e | e
    · exact h1 e
    · exact h2 e
    · exact h3 e
    · exact hne (H.inj j i hj hi e))
  refine ⟨lv', B', rv', ⟨⟨least', p3⟩, p1, p2, own_keptE H.cs (fun g hg => ?_), fun j hj => ?_, fun j hj => ?_, H.inj, fun j hj => ?_, H.lo, fun j hj => ?_, by have := H.bs; omega⟩, p8.mono (fun b h _ => ?_), fun b h => ?_⟩
  · simp [Value.ownBlock] at hg
    subst hg
    exact p8.block _ kl2 (fun e => by
      rcases e with e | e | e | e
      · exact hnk.1 e
      · exact hnk.2.1 e
      · exact hnk.2.2.1 e
      · exact hnk.2.2.2 i hi e)
  · by_cases e : j = i
    · rw [if_pos e, if_pos e, e]; exact p4
    · rw [if_neg e, if_neg e]; exact (hst j hj e).trans (H.st j hj)
  · by_cases e : j = i
    · rw [if_pos e, if_pos e]; exact p5
    · rw [if_neg e, if_neg e]
      refine (H.sl j hj).keptN hsz (fun hne g o n d hv hg => p8.block g hg (fun e' => ?_))
      obtain ⟨_, d1, d2, _, d3, d4⟩ := H.dis j hj hne g o n d hv
      rcases e' with e' | e' | e' | e'
      · exact d1 e'
      · exact d2 e'
      · exact d3 e'
      · exact d4 i hi e'
  · by_cases e : j = i
    · rw [if_pos e, if_pos e]
      intro hne g o n d hv
      obtain ⟨q1, q2⟩ := p6 hne g o n d hv
      have h1 := ltB hw
      have h2 := ltB H.book.hb
      have h3 := H.bs
      exact ⟨by omega, by omega, by omega, by omega, q2, fun x hx => by have := ltB (H.st x hx); omega⟩
    · rw [if_neg e, if_neg e]
      intro hne g o n d hv
      obtain ⟨d0, d1, d2, dk, d3, d4⟩ := H.dis j hj hne g o n d hv
      refine ⟨d0, d1, d2, dk, fun e' => ?_, d4⟩
      have hg := (H.sl j hj).lt hne hv
      rcases p7 g e' with h | h
      · exact d3 h
      · omega
  · by_cases e : j = i
    · rw [if_pos e]; exact ⟨hlb, hll, hbl⟩
    · rw [if_neg e]; exact H.bw j hj
  · rcases h with h | h | h | h
    · exact Or.inl h
    · exact Or.inr (Or.inl h)
    · exact Or.inr (Or.inr (Or.inl h))
    · exact Or.inr (Or.inr (Or.inr ⟨i, hi, h⟩))
  · rcases h with h | h | h | h | h | ⟨j, hj, hne, o, n, d, h⟩
    · exact Or.inl (Or.inl h)
    · exact Or.inl (Or.inr (Or.inl h))
    · exact Or.inl (Or.inr (Or.inr (Or.inl h)))
    · rcases p7 b h with h | h
      · exact Or.inl (Or.inr (Or.inr (Or.inr (Or.inl h))))
      · exact Or.inr h
    · exact Or.inl (Or.inr (Or.inr (Or.inr (Or.inr (Or.inl h)))))
    · dsimp only at hne h
      by_cases e : j = i
      · rw [if_pos e] at hne h
        exact Or.inr (p6 hne b o n d h).1
      · rw [if_neg e] at hne h
        exact Or.inl (Or.inr (Or.inr (Or.inr (Or.inr (Or.inr ⟨j, hj, hne, o, n, d, h⟩)))))

theorem encs_app (a b : List Rp) : encs (a ++ b) = encs a ++ encs b := by unfold encs; rw [List.flatMap_append]
set_option maxRecDepth 100000 in
/-- The law's fed, of a host that answers as the model does. -/
theorem fed33_at (base hb wb bb kb kc : Nat) (blk : Int) (tb : Nat → Nat) (rv : Nat → Value) (lv : Value) (L : Ld) (B : Bk) (c : Nat → Cn) (k now : Int) (i : Nat) (s : ByteArray) (w : World) (H : LawAt w base hb wb bb kb kc blk tb rv lv L B c) (hi : pickM k 3 = (i : Int)) (hi3 : i < 3) (k0 : -9223372036854775808 ≤ k) (k1 : k ≤ 9223372036854775807) (hn0 : 0 ≤ now) (hn1 : now ≤ 18446744073709551615) (hlen : s.size ≤ 60000)
    (rp : ByteArray) (hrp : rp = strOfNums (encs (feedM L (c i) now (numsOf s)).2.2)) :
    Calls Tryz.prog 33 #[.pointer (some ⟨wb, 0, none⟩), .int .i64 k, .int .u64 now, .string s, .string rp, .bool false] w fun e w' => e = .returned (.bool true) ∧ ∃ lv' B' rv', LawAt w' base hb wb bb kb kc blk tb (fun j => if j = i then rv' else rv j) lv' (feedM L (c i) now (numsOf s)).1 B' (fun j => if j = i then (feedM L (c i) now (numsOf s)).2.1 else c j) ∧ Keep (LW wb bb tb lv) w w' ∧ ∀ b, LG wb bb kb tb (fun j => if j = i then rv' else rv j) lv' (fun j => if j = i then (feedM L (c i) now (numsOf s)).2.1 else c j) b → LG wb bb kb tb rv lv c b ∨ w.heap.size ≤ b := by
  obtain ⟨least, hw⟩ := H.blk
  obtain ⟨kl1, kl2, ka, kfr, hkb⟩ := H.kbB
  obtain ⟨hbw, hwl, hbd0⟩ := H.bw i hi3
  have hkw : kb ≠ wb := fun e => by rw [e, hw] at hkb; simp at hkb
  have hkt : kb ≠ bb := fun e => by rw [e, H.book.hb] at hkb; simp at hkb
  have hcell : w.cell? ⟨kb, i, none⟩ = some (.pointer (some ⟨tb i, 0, none⟩)) := by
    rw [H.cs.cellAt i (by omega)]
    unfold ptrs
    rw [List.getElem?_map, List.getElem?_range (by omega)]
    rfl
  have hdis : (c i).waits ≠ [] → ∀ g o n d, rv i = .slice (some ⟨g, o, none⟩) n d → g ≠ bb ∧ g ≠ wb := fun hne g o n d e => ⟨(H.dis i hi3 hne g o n d e).2.1, (H.dis i hi3 hne g o n d e).2.2.1⟩
  have hst := H.st i hi3
  have hbase := H.bs
  cases hbad : (c i).bad with
  | true =>
    have hwe := hbd0 hbad
    have hci : c i = ⟨[], true⟩ := by rw [← hwe, ← hbad]
    have hf := feedM_end L (c i) now (numsOf s) hbad
    rw [hf] at hrp ⊢
    rw [hbad] at hst
    have hse : ∀ U, Sl U (rv i) [] := fun U => by
      rcases H.sl i hi3 with h | h
      · exact Or.inl ⟨rfl, h.2⟩
      · have h1 := h.1
        rw [hwe] at h1
        simp at h1
    have hrp' : numsOf rp = encs (doL (passM L now) []).2 ++ [] := by
      rw [hrp]
      exact numsOf_str [] (fun x hx => by cases hx)
    refine (fed33 wb bb base kb kc (tb i) i (rv i) lv _ _ (.int .u8 0) (.int .u8 0) (.int .u8 0) (.int .u8 0) (.int .u8 0) (.int .u8 0) (.int .u8 0) (.int .u8 0) (.int .u8 0) (.int .u8 0) (.int .u64 0) (.int .u64 0) (.int .u64 0) _ _ least L B k now H.sim hn0 hn1 s rp w hw H.book hi hi3 k0 k1 hcell kl2 hkw hkt true true false hst (c i).waits [] [] (H.sl i hi3) (fun U hU _ => ?_) (fun q hq => by cases hq) (by simp) [] rfl hrp' hdis hbase).mono ?_
    · refine (sfeed51_end (tb i) (rv i) s U hU).mono ?_
      rintro e w' ⟨rfl, rfl⟩
      exact ⟨_, rv i, rfl, World.ownsRow_nil _ _ _ _, Keep.refl _ _, hU, hse _, fun h => absurd rfl h⟩
    · rintro e w' ⟨rfl, P⟩
      obtain ⟨lv', B', rv', q1, q2, q3⟩ := H.fed hi3 (fun x hx => by cases hx) (by simp) (fun _ => rfl) P
      have e1 : (⟨[], true⟩ : Cn) = c i := hci.symm
      rw [e1] at q1 q3
      exact ⟨rfl, lv', B', rv', q1, q2, q3⟩
  | false =>
    rw [hbad] at hst
    obtain ⟨bs0, hbs⟩ : ∃ bs0, bs0 = (c i).waits ++ numsOf s := ⟨_, rfl⟩
    have hb0 : Bytes bs0 := by rw [hbs]; exact hbw.app (numsOf_bytes s)
    have hl0 : bs0.length ≤ 61000 := by rw [hbs, List.length_append, numsOf_length]; omega
    obtain ⟨r1, r2, r3⟩ := rqL_left _ bs0 (Nat.le_refl _) hb0
    obtain ⟨l, hl⟩ : ∃ l, l = (rqL bs0).1 := ⟨_, rfl⟩
    obtain ⟨bd, hbd⟩ : ∃ bd, bd = decide ((rqL bs0).2.2 = 2) := ⟨_, rfl⟩
    obtain ⟨lf, hlf⟩ : ∃ lf, lf = if (rqL bs0).2.2 = 2 then [] else (rqL bs0).2.1 := ⟨_, rfl⟩
    have hf := feedM_rq L (c i) now (numsOf s) hbad
    rw [← hbs, ← hl] at hf
    have hf' : feedM L (c i) now (numsOf s) = ((doL (passM L now) l).1, ⟨lf, bd⟩, (doL (passM L now) l).2 ++ if bd then [⟨6, 0, 0⟩] else []) := by
      rw [hf]
      by_cases h2 : (rqL bs0).2.2 = 2
      · rw [if_pos h2, hlf, hbd, if_pos h2]; simp [h2]
      · rw [if_neg h2, hlf, hbd, if_neg h2]; simp [h2]
    have hgood : ∀ q ∈ l, q.ok ∧ q.op ∈ [1, 2, 3, 4, 5, 6] := by rw [hl]; exact rqL_good _ bs0 (Nat.le_refl _) hb0
    have hpok := passM_okd L now H.sim.lok hn0 hn1
    have htold : ∀ r ∈ (doL (passM L now) l).2 ++ (if bd then [⟨6, 0, 0⟩] else []), r.told := fun r hr => by
      rcases List.mem_append.1 hr with h | h
      · exact doL_told _ _ hpok (fun q hq => (hgood q hq).1) r h
      · split at h
        · rw [List.mem_singleton.1 h]; exact ⟨by decide, by decide, by decide, by decide⟩
        · cases h
    have hrp' : numsOf rp = encs (doL (passM L now) l).2 ++ (if bd then encRep 6 0 0 else []) := by
      rw [hrp, hf', numsOf_str _ (encs_bytes _ htold), encs_app]
      congr 1
      split
      · unfold encs; simp
      · rfl
    rw [hf']
    have hlfb : Bytes lf := by
      rw [hlf]
      split
      · exact fun x hx => by cases hx
      · exact r3
    have hlfl : lf.length ≤ 26 := by
      rw [hlf]
      split
      · simp
      · exact r2 (by assumption)
    have hlfe : bd = true → lf = [] := fun h => by
      rw [hbd] at h
      rw [hlf, if_pos (of_decide_eq_true h)]
    refine (fed33 wb bb base kb kc (tb i) i (rv i) lv _ _ (.int .u8 0) (.int .u8 0) (.int .u8 0) (.int .u8 0) (.int .u8 0) (.int .u8 0) (.int .u8 0) (.int .u8 0) (.int .u8 0) (.int .u8 0) (.int .u64 0) (.int .u64 0) (.int .u64 0) _ _ least L B k now H.sim hn0 hn1 s rp w hw H.book hi hi3 k0 k1 hcell kl2 hkw hkt false bd bd hst (c i).waits l lf (H.sl i hi3) (fun U hU hS => ?_) hgood (by rw [hl]; omega) _ rfl hrp' hdis hbase).mono ?_
    · refine (sfeed51 (tb i) (rv i) (c i).waits s U hU hS hbw (by omega) bs0 hbs l hl bd hbd lf hlf).mono ?_
      rintro e w' ⟨ov, rv', rfl, q1, q2, q3, q4, q5⟩
      exact ⟨ov, rv', rfl, q1, q2, q3, q4, fun _ => q5⟩
    · rintro e w' ⟨rfl, P⟩
      obtain ⟨lv', B', rv', q1, q2, q3⟩ := H.fed hi3 hlfb hlfl hlfe P
      exact ⟨rfl, lv', B', rv', q1, q2, q3⟩
end Go.Proofs.YtlamgpeiolfffaaGreatDoor

namespace Go.Proofs.YtlamgpeiolfffaaGreatDoor
open Go.RowKit

theorem HostAt.keptS {w w' : World} {hb db nb sb : Nat} {mb : Option Nat} {blk : Int} {L : Ld} {F : Nat → Prop} {B : Nat} {cv : Value} {m : Nat} {cb : Nat → Nat} {c : Nat → Cn} (H : HostAt w hb db nb sb mb blk L F B cv m cb c) {S : Nat → Prop} (hn : ∀ k, S k → ¬ HG hb db F cv m cb k) (hw : ∀ k, S k → WaitN w sb m cb c k) (hK : Keep S w w') : HostAt w' hb db nb sb mb blk L F B cv m cb c := by
  have hs := hK.size
  have hk : ∀ k, k < w.heap.size → ¬ S k → w'.heap[k]? = w.heap[k]? := hK.block
  have hne : ∀ k, HG hb db F cv m cb k → ¬ S k := fun k h e => hn k e h
  refine ⟨(hk hb (ltB H.hh) (hne hb (Or.inl rfl))).trans H.hh, (hk db (ltB H.hd) (hne db (Or.inr (Or.inl rfl)))).trans H.hd, H.hs.kept hs (fun b hF => hk b (H.hs.lt b hF) (hne b (Or.inr (Or.inr (Or.inl hF))))), fun i hi => ?_, H.hi, own_keptE H.ho (fun g hg => hk g (own_ltE H.ho hg).2 (hne g (Or.inr (Or.inr (Or.inr (Or.inl hg)))))), H.hF, H.lo, H.fr⟩
  obtain ⟨⟨cw, g1, g2, g3⟩, g4⟩ := H.hc i hi
  exact ⟨⟨cw, (hk _ (ltB g1) (hne _ (Or.inr (Or.inr (Or.inr (Or.inr ⟨i, hi, rfl⟩)))))).trans g1, g2.kept hs (fun g o n d e hg => hk g hg (fun e' => hw g e' i hi cw g1 (by rw [e]; rfl))), fun g o n d h => ⟨(g3 g o n d h).1, (g3 g o n d h).2.1, Nat.lt_of_lt_of_le (g3 g o n d h).2.2 hs⟩⟩, g4⟩

/-- A host and the law that asks it, in one memory. -/
structure Both (w : World) (base hb db nb sb wb bb kb kc : Nat) (mb : Option Nat) (blk : Int) (tb : Nat → Nat) (rv : Nat → Value) (lv : Value) (Lh : Ld) (F : Nat → Prop) (cv : Value) (m : Nat) (cb : Nat → Nat) (ch : Nat → Cn) (Ll : Ld) (B : Bk) (cl : Nat → Cn) : Prop where
  host : HostAt w hb db nb sb mb blk Lh F base cv m cb ch
  law : LawAt w base hb wb bb kb kc blk tb rv lv Ll B cl
  dis : ∀ b, LG wb bb kb tb rv lv cl b → ¬ HG hb db F cv m cb b
  wait : ∀ b, LG wb bb kb tb rv lv cl b → WaitN w sb m cb ch b
theorem Both.kept {w w' : World} {base hb db nb sb wb bb kb kc : Nat} {mb : Option Nat} {blk : Int} {tb : Nat → Nat} {rv : Nat → Value} {lv : Value} {Lh Ll : Ld} {F : Nat → Prop} {cv : Value} {m : Nat} {cb : Nat → Nat} {ch cl : Nat → Cn} {B : Bk} (H : Both w base hb db nb sb wb bb kb kc mb blk tb rv lv Lh F cv m cb ch Ll B cl) (hb' : Below w.heap.size w w') : Both w' base hb db nb sb wb bb kb kc mb blk tb rv lv Lh F cv m cb ch Ll B cl :=
  ⟨H.host.kept hb'.size (fun k hk => hb'.block k hk), H.law.kept hb'.size (fun b h => hb'.block b (H.law.low b h).2), H.dis, fun b h => (H.wait b h).kept (fun j hj => hb'.block _ (ltB (H.host.hc j hj).mem.choose_spec.1))⟩
/-- The host is fed. -/
theorem Both.fedh {w w' : World} {base hb db nb sb wb bb kb kc : Nat} {mb : Option Nat} {blk : Int} {tb : Nat → Nat} {rv : Nat → Value} {lv : Value} {Lh Ll : Ld} {F : Nat → Prop} {cv : Value} {m : Nat} {cb : Nat → Nat} {ch cl : Nat → Cn} {B : Bk} (H : Both w base hb db nb sb wb bb kb kc mb blk tb rv lv Lh F cv m cb ch Ll B cl) {Lh' : Ld} {F' : Nat → Prop} {cv' : Value} {m' : Nat} {cb' : Nat → Nat} {ch' : Nat → Cn} (h1 : HostAt w' hb db nb sb mb blk Lh' F' base cv' m' cb' ch') (h2 : Keep (HG hb db F cv m cb) w w') (h3 : ∀ b, HG hb db F' cv' m' cb' b → HG hb db F cv m cb b ∨ w.heap.size ≤ b) (h4 : ∀ g, g < w.heap.size → WaitN w sb m cb ch g → WaitN w' sb m' cb' ch' g) : Both w' base hb db nb sb wb bb kb kc mb blk tb rv lv Lh' F' cv' m' cb' ch' Ll B cl ∧ Below base w w' := by
  refine ⟨⟨h1, H.law.kept h2.size (fun b h => h2.block b (H.law.low b h).2 (H.dis b h)), fun b h e => ?_, fun b h => h4 b (H.law.low b h).2 (H.wait b h)⟩, h2.below H.law.bs (fun b h => H.host.lo b h)⟩
  have := (H.law.low b h).2
  rcases h3 b e with h' | h'
  · exact H.dis b h h'
  · omega
/-- The law is fed. -/
theorem Both.fedl {w w' : World} {base hb db nb sb wb bb kb kc : Nat} {mb : Option Nat} {blk : Int} {tb : Nat → Nat} {rv : Nat → Value} {lv : Value} {Lh Ll : Ld} {F : Nat → Prop} {cv : Value} {m : Nat} {cb : Nat → Nat} {ch cl : Nat → Cn} {B : Bk} (H : Both w base hb db nb sb wb bb kb kc mb blk tb rv lv Lh F cv m cb ch Ll B cl) {Ll' : Ld} {lv' : Value} {B' : Bk} {rv' : Nat → Value} {cl' : Nat → Cn} (h1 : LawAt w' base hb wb bb kb kc blk tb rv' lv' Ll' B' cl') (h2 : Keep (LW wb bb tb lv) w w') (h3 : ∀ b, LG wb bb kb tb rv' lv' cl' b → LG wb bb kb tb rv lv cl b ∨ w.heap.size ≤ b) : Both w' base hb db nb sb wb bb kb kc mb blk tb rv' lv' Lh F cv m cb ch Ll' B' cl' ∧ Below base w w' := by
  have hw' : ∀ b, LG wb bb kb tb rv lv cl b → WaitN w' sb m cb ch b := fun b h => (H.wait b h).kept (fun j hj => h2.block _ (ltB (H.host.hc j hj).mem.choose_spec.1) (fun e => H.dis _ e.lg (Or.inr (Or.inr (Or.inr (Or.inr ⟨j, hj, rfl⟩))))))
  refine ⟨⟨H.host.keptS (fun k h => H.dis k h.lg) (fun k h => H.wait k h.lg) h2, h1, fun b h e => ?_, fun b h => ?_⟩, h2.below H.law.bs (fun b h => (H.law.low b h.lg).1)⟩
  · rcases h3 b h with h' | h'
    · exact H.dis b h' e
    · have := H.host.lt b e
      omega
  · rcases h3 b h with h' | h'
    · exact hw' b h'
    · intro j hj cw hcw e
      have h5 : w.heap[cb j]? = some (.cells #[.pointer (some ⟨sb, 0, none⟩), cw, .bool (ch j).bad] 103) := (h2.block _ (ltB (H.host.hc j hj).mem.choose_spec.1) (fun e => H.dis _ e.lg (Or.inr (Or.inr (Or.inr (Or.inr ⟨j, hj, rfl⟩)))))).symm.trans hcw
      have := (H.host.hc j hj).waits_lt h5 e
      omega
theorem pick20n (k : Int) (m i : Nat) (w : World) (hm0 : 0 < m) (hm1 : m ≤ 1000000) (h0 : -9223372036854775808 ≤ k) (h1 : k ≤ 9223372036854775807) (h : pickM k m = (i : Int)) :
    Calls Tryz.prog 20 #[.int .i64 k, .int .i64 m] w fun e w' => e = .returned (.int .i64 i) ∧ w' = w := by
  rw [← h]
  exact pick20 k m w (by omega) (by omega) h0 h1

theorem callFunc11 (vs : Array Value) (w : World) : Sem.run Tryz.prog (callFunc 11 vs) w = .ok (.enter 11 vs) w := by simp [go_sem]
theorem callFunc33 (vs : Array Value) (w : World) : Sem.run Tryz.prog (callFunc 33 vs) w = .ok (.enter 33 vs) w := by simp [go_sem]
/-- What holds behind a step. -/
def StepPost (base hb db nb sb wb bb kb kc : Nat) (mb : Option Nat) (blk : Int) (tb : Nat → Nat) (w w' : World) : Prop :=
  ∃ L' F' cv' cb' c' lv' B' rv', Both w' base hb db nb sb wb bb kb kc mb blk tb rv' lv' L' F' cv' 3 cb' c' L' B' c' ∧ Below base w w'

set_option maxRecDepth 100000 in
set_option maxHeartbeats 8000000 in
theorem feed19 (base hb db nb sb wb bb kb kc : Nat) (mb : Option Nat) (blk : Int) (tb : Nat → Nat) (rv : Nat → Value) (lv : Value) (L : Ld) (F : Nat → Prop) (cv : Value) (m : Nat) (cb : Nat → Nat) (c : Nat → Cn) (B : Bk) (p : Sp) (vq : Value) (w : World) (H : Both w base hb db nb sb wb bb kb kc mb blk tb rv lv L F cv m cb c L B c) (hm : m ≤ 3) (hq : m < 3 → ∀ i, c i = ⟨[], false⟩) (hr : RqAt w vq p.qs) (hql : p.qs.length ≤ 1000) (hqo : ∀ q ∈ p.qs, q.ok) (hraw : p.raw.size ≤ 20000) (c0 : -9223372036854775808 ≤ p.conn) (c1 : p.conn ≤ 9223372036854775807) (n0 : 0 ≤ p.now) (n1 : p.now ≤ 18446744073709551615) (u0 : -9223372036854775808 ≤ p.cut) (u1 : p.cut ≤ 9223372036854775807) :
    Calls Tryz.prog 19 #[.pointer (some ⟨wb, 0, none⟩), .agg #[.int .i64 p.kind, .int .i64 p.conn, .int .u64 p.now, vq, .string p.raw, .int .i64 p.cut, .int .i64 p.left, .int .i64 p.full, .int .i64 p.kept, .int .i64 p.part], .bool false] w fun e w' => e = .returned (.bool true) ∧ StepPost base hb db nb sb wb bb kb kc mb blk tb w w' := by
  obtain ⟨least, hw⟩ := H.law.blk
  obtain ⟨ra, rc, rfl, hrc, hrcell⟩ := hr
  obtain ⟨ql, hqe⟩ : ∃ ql, ql = p.qs.length := ⟨_, rfl⟩
  rw [← hqe] at hrc hql ⊢
  obtain ⟨V, hV⟩ : ∃ V, V = w.alloc (.cells #[.int .i64 p.kind, .int .i64 p.conn, .int .u64 p.now, .slice ra ql rc, .string p.raw, .int .i64 p.cut, .int .i64 p.left, .int .i64 p.full, .int .i64 p.kept, .int .i64 p.part] 62) := ⟨_, rfl⟩
  obtain ⟨P, hP⟩ : ∃ P, P = w.heap.size := ⟨_, rfl⟩
  have hVP : V.heap[P]? = some (.cells #[.int .i64 p.kind, .int .i64 p.conn, .int .u64 p.now, .slice ra ql rc, .string p.raw, .int .i64 p.cut, .int .i64 p.left, .int .i64 p.full, .int .i64 p.kept, .int .i64 p.part] 62) := by rw [hV, hP]; exact heapNew _ _
  have hbV : Below w.heap.size w V := by rw [hV]; exact (Below.refl _ w).alloc (Nat.le_refl _) _
  have HV := H.kept hbV
  have hVs : V.heap.size = P + 1 := by rw [hV, hP]; simp
  have hwV := (hbV.block wb (ltB hw)).trans hw
  have hbase := H.law.bs
  have hBV : Below base w V := hbV.mono hbase
  have hc32 : 0 < ql → ∃ A o, ra = some ⟨A, o, none⟩ ∧ A < V.heap.size ∧ ∀ i (h : i < p.qs.length) j, j < 13 → V.cell? ⟨A, o + i * 13 + j, none⟩ = (#[.int .u8 p.qs[i].op, .int .u8 p.qs[i].k0, .int .u8 p.qs[i].k1, .int .u8 p.qs[i].k2, .int .u8 p.qs[i].k3, .int .u8 p.qs[i].k4, .int .u8 p.qs[i].k5, .int .u8 p.qs[i].k6, .int .u8 p.qs[i].k7, .int .u8 p.qs[i].kd, .int .u64 p.qs[i].x, .int .u64 p.qs[i].y, .int .u64 p.qs[i].n] : Array Value)[j]? := fun h => by
    obtain ⟨A, o, e, hA, hc⟩ := hrcell (by omega)
    refine ⟨A, o, e, by omega, fun i hi j hj => ?_⟩
    rw [hbV.cell (p := ⟨A, o + i * 13 + j, none⟩) hA, hc i hi j hj]
    simp
  have H32 := hide (written32 ra ql rc p.qs p.raw V hqe.symm hrc hql hraw hqo hc32)
  have hi3 := pickM_ok p.conn 3 (by omega)
  obtain ⟨i, hi⟩ : ∃ i : Nat, pickM p.conn 3 = (i : Int) := ⟨(pickM p.conn 3).toNat, by omega⟩
  have hi3 : i < 3 := by omega
  have HVH := hide HV
  have HBV := hide hBV
  have HVB := hide hVP
  have HWV := hide hwV
  have HQ := hide hq
  have HPV : Hid (P = w.heap.size) := hide hP
  have HQE := hide hqe
  have HQO := hide hqo
  have a0 := cellB hwV 0
  have HGP : Hid (∀ b, HG hb db F cv m cb b → b ≠ P) := hide (fun b h => by have := H.host.lt b h; omega)
  have HLP : Hid (∀ b, LG wb bb kb tb rv lv c b → b ≠ P) := hide (fun b h => by have := (H.law.low b h).2; omega)
  clear H hrcell hc32 hbV HV hq hqe hqo hP hBV
  go_enter Tryz.func19, Tryz.ntmps19
  rw [hV] at a0
  go_wp2_with fail
  rw [← hV] at a0 ⊢
  clear hV
  rw [← HPV.out]
  refine (is17 hb sb _ _ _ V HVH.out.host.hh).mono ?_
  rintro e w1 ⟨rfl, he1⟩
  rw [he1]
  clear he1
  have a2 := cellB hVP
  clear a0
  go_wp2_with fail
  refine H32.out.mono ?_
  rintro e w1 ⟨rfl, hb1⟩
  obtain ⟨S, hS⟩ : ∃ S, S = strOfNums (encQs p.qs) ++ p.raw := ⟨_, rfl⟩
  rw [← hS]
  have hSs : S.size ≤ 47000 := by
    have e1 := encQs_len p.qs
    have e2 := HQE.out
    rw [hS, ByteArray.size_append, strOfNums_size]
    omega
  have HS := hide hS
  have hn3 := pickM_ok p.cut ((S.size : Int) + 1) (by omega)
  obtain ⟨n, hn⟩ : ∃ n : Nat, pickM p.cut ((S.size : Int) + 1) = (n : Int) := ⟨(pickM p.cut ((S.size : Int) + 1)).toNat, by omega⟩
  have hnS : n ≤ S.size := by omega
  have hpk : ∀ w, Calls Tryz.prog 20 #[.int .i64 p.cut, .int .i64 ((S.size : Int) + 1)] w fun e w' => e = .returned (.int .i64 n) ∧ w' = w := fun w => by
    rw [← hn]
    exact pick20 p.cut ((S.size : Int) + 1) w (by omega) (by omega) u0 u1
  have HPK := hide hpk
  have hbl1 := (hb1.block P (by omega)).trans hVP
  have hw1 := (hb1.block wb (ltB hwV)).trans hwV
  have H1 := HVH.out.kept hb1
  have hs1 := hb1.size
  have HB1 := hide (HBV.out.trans (hb1.mono (Nat.le_trans hbase HBV.out.size)))
  have a3 := cellB hbl1
  clear a2 hS hn hn3 hpk hb1
  go_wp2_with fail
  refine (HPK.out _).mono ?_
  rintro e w2 ⟨rfl, he2⟩
  rw [he2]
  clear he2
  go_upto_region 5 with fail
  have HH1 := hide (H1.kept (Below.refl _ w1).drew)
  have hcw := HVH.out.law.bw i hi3
  have hsz1 : (S.extract 0 n).size ≤ 47000 := by rw [ByteArray.size_extract]; omega
  obtain ⟨M1, hM1⟩ : ∃ M1, M1 = feedM L (c i) p.now (numsOf (S.extract 0 n)) := ⟨_, rfl⟩
  obtain ⟨r1, hr1⟩ : ∃ r1, r1 = strOfNums (encs M1.2.2) := ⟨_, rfl⟩
  have H11 := feed11w 0 0 hb db nb sb mb blk L F base cv m cb c p.conn p.now (S.extract 0 n) w1.drew HH1.out.host hm HH1.out.law.bs HQ.out i hi c0 c1 HVH.out.law.sim.lok n0 n1 hcw.1 (by rw [numsOf_length]; omega)
  rw [← hM1, ← hr1] at H11
  have HC11 := hide H11
  have b0 := cellB hw1 0
  have b1 := a3 1
  have b2 := a3 2
  have HBL1 := hide hbl1
  have HM1 := hide hM1
  have HR1 := hide hr1
  have HS1 : Hid (P < w1.drew.heap.size) := hide (by show P < w1.heap.size; omega)
  have hnSI : (n : Int) ≤ (S.size : Int) := by omega
  have hn0' : (0 : Int) ≤ (n : Int) := by omega
  clear H11 a3 hM1 hr1 hbl1 H1 hw1 hVP hwV
  go_cut [9, 10] (fun s9 s10 wx => s9 = .string r1 ∧ s10 = .bool false ∧ ∃ F1 cv1 cb1, Both wx base hb db nb sb wb bb kb kc mb blk tb rv lv M1.1 F1 cv1 3 cb1 (fun j => if j = i then M1.2.1 else c j) L B c ∧ Below base w1 wx ∧ wx.heap[P]? = some (.cells #[.int .i64 p.kind, .int .i64 p.conn, .int .u64 p.now, .slice ra ql rc, .string p.raw, .int .i64 p.cut, .int .i64 p.left, .int .i64 p.full, .int .i64 p.kept, .int .i64 p.part] 62) ∧ (∀ b, HG hb db F1 cv1 3 cb1 b → b ≠ P))
  case first =>
    go_region_law (refine step_fn (by rfl) 11 callFunc11 _ _ (by rfl) #[.pointer (some ⟨hb, 0, none⟩), .int .i64 p.conn, .int .u64 p.now, .string (S.extract 0 n), .int .i64 (-1), .int .i64 (-1), .int .i64 0, .int .i64 0] (by simp only [List.map_toArray, List.map_cons, List.map_nil]; rfl) HC11.out ?_; rintro e wx ⟨F1, cv1, cb1, rfl, h1, h2, h3, h4⟩; refine ⟨_, rfl, ?_⟩)
    all_goals (go_wp2_with fail; go_meet)
    all_goals (obtain ⟨g1, g2⟩ := HH1.out.fedh h1 h2 h3 h4; exact ⟨rfl, rfl, F1, cv1, cb1, g1, ⟨g2.os, g2.tape, g2.output, g2.size, g2.block⟩, (h2.block P HS1.out (fun h => HGP.out P h rfl)).trans HBL1.out, fun b h => (h3 b h).elim (HGP.out b) (fun h => by have := HS1.out; omega)⟩)
  case rest =>
    obtain ⟨rfl, rfl, F1, cv1, cb1, hB, hbel, hbx, hgp⟩ := hcut
    obtain ⟨w2, hw2e⟩ : ∃ w2, w2 = wc := ⟨_, rfl⟩
    rw [← hw2e] at hB hbel hbx ⊢
    clear hw2e b0 b1 b2
    have HH2 := hide (hB.kept (Below.refl _ w2).drew)
    obtain ⟨least2, hw2⟩ := hB.law.blk
    have b0 := cellB hbx 1
    have b1 := cellB hbx 2
    have HB2 := hide (HB1.out.trans (hbel.mono (Nat.le_refl _)))
    have HBX := hide hbx
    have HG2 := hide hgp
    have HC33 := hide (fed33_at base hb wb bb kb kc blk tb rv lv L B c p.conn p.now i (S.extract 0 n) w2.drew HH2.out.law hi hi3 c0 c1 n0 n1 (by omega) r1 (by rw [HR1.out, HM1.out]))
    have HS2 : Hid (P < w2.drew.heap.size) := hide (ltB hbx)
    clear hB hbel hbx hgp hw2
    go_upto_region 6 with fail
    go_cut [11] (fun s11 wx => s11 = .bool true ∧ ∃ lv1 B1 rv1, Both wx base hb db nb sb wb bb kb kc mb blk tb rv1 lv1 M1.1 F1 cv1 3 cb1 (fun j => if j = i then M1.2.1 else c j) M1.1 B1 (fun j => if j = i then M1.2.1 else c j) ∧ Below base w2 wx ∧ wx.heap[P]? = some (.cells #[.int .i64 p.kind, .int .i64 p.conn, .int .u64 p.now, .slice ra ql rc, .string p.raw, .int .i64 p.cut, .int .i64 p.left, .int .i64 p.full, .int .i64 p.kept, .int .i64 p.part] 62) ∧ (∀ b, LG wb bb kb tb rv1 lv1 (fun j => if j = i then M1.2.1 else c j) b → b ≠ P))
    case first =>
      go_region_law (refine step_fn (by rfl) 33 callFunc33 _ _ (by rfl) #[.pointer (some ⟨wb, 0, none⟩), .int .i64 p.conn, .int .u64 p.now, .string (S.extract 0 n), .string r1, .bool false] (by simp only [List.map_toArray, List.map_cons, List.map_nil]; rfl) HC33.out ?_; rintro e wx ⟨rfl, lv1, B1, rv1, h1, h2, h3⟩; refine ⟨_, rfl, ?_⟩)
      all_goals (go_wp2_with fail; go_meet)
      all_goals (rw [← HM1.out] at h1 h3; obtain ⟨g1, g2⟩ := HH2.out.fedl h1 h2 h3; exact ⟨rfl, lv1, B1, _, g1, ⟨g2.os, g2.tape, g2.output, g2.size, g2.block⟩, (h2.block P HS2.out (fun h => HLP.out P h.lg rfl)).trans HBX.out, fun b h => (h3 b h).elim (HLP.out b) (fun h => by have := HS2.out; omega)⟩)
    case rest =>
      obtain ⟨rfl, lv1, B1, rv1, hB, hbel, hbx, hlp⟩ := hcut
      obtain ⟨w3, hw3e⟩ : ∃ w3, w3 = wc := ⟨_, rfl⟩
      rw [← hw3e] at hB hbel hbx ⊢
      clear hw3e b0 b1
      have HH3 := hide (hB.kept (Below.refl _ w3).drew)
      obtain ⟨least3, hw3⟩ := hB.law.blk
      have HB3 := hide (HB2.out.trans (hbel.mono (Nat.le_refl _)))
      have HBX3 := hide hbx
      have HLP3 := hide hlp
      obtain ⟨d1, hd1⟩ : ∃ d1 : Nat → Cn, d1 = fun j => if j = i then M1.2.1 else c j := ⟨_, rfl⟩
      have HH3' : Hid (Both w3.drew base hb db nb sb wb bb kb kc mb blk tb rv1 lv1 M1.1 F1 cv1 3 cb1 d1 M1.1 B1 d1) := hide (by rw [hd1]; exact HH3.out)
      have HLP3' : Hid (∀ b, LG wb bb kb tb rv1 lv1 d1 b → b ≠ P) := hide (by rw [hd1]; exact hlp)
      have hcw3 := HH3'.out.law.bw i hi3
      have hsz2 : (S.extract n S.size).size ≤ 47000 := by rw [ByteArray.size_extract]; omega
      obtain ⟨M2, hM2⟩ : ∃ M2, M2 = feedM M1.1 (d1 i) p.now (numsOf (S.extract n S.size)) := ⟨_, rfl⟩
      obtain ⟨r2, hr2⟩ : ∃ r2, r2 = strOfNums (encs M2.2.2) := ⟨_, rfl⟩
      have H11 := feed11w p.kept p.part hb db nb sb mb blk M1.1 F1 base cv1 3 cb1 d1 p.conn p.now (S.extract n S.size) w3.drew HH3'.out.host (Nat.le_refl _) HH3'.out.law.bs (fun h => absurd h (by omega)) i hi c0 c1 HH3'.out.law.sim.lok n0 n1 hcw3.1 (by rw [numsOf_length]; omega)
      rw [← hM2, ← hr2] at H11
      have HC12 := hide H11
      have HM2 := hide hM2
      have HR2 := hide hr2
      have HS3 : Hid (P < w3.drew.heap.size) := hide (ltB hbx)
      have HW3 : Hid (w3.drew.heap[wb]? = _) := hide hw3
      have b0 := cellB hw3 0
      have b1 := cellB hbx 1
      have b2 := cellB hbx 2
      have b8 := cellB hbx 8
      have b9 := cellB hbx 9
      clear hB hbel hbx hlp hw3 hd1 hM2 hr2 H11 HH3 HLP3 HC11 HC33 HLP HVH HPK H32
      go_upto_region 14 with fail
      go_cut [14, 15] (fun s9 s10 wx => s9 = .string r2 ∧ s10 = .bool false ∧ ∃ F2 cv2 cb2, Both wx base hb db nb sb wb bb kb kc mb blk tb rv1 lv1 M2.1 F2 cv2 3 cb2 (fun j => if j = i then M2.2.1 else d1 j) M1.1 B1 d1 ∧ Below base w3 wx ∧ wx.heap[P]? = some (.cells #[.int .i64 p.kind, .int .i64 p.conn, .int .u64 p.now, .slice ra ql rc, .string p.raw, .int .i64 p.cut, .int .i64 p.left, .int .i64 p.full, .int .i64 p.kept, .int .i64 p.part] 62))
      case first =>
        go_region_held3 (fun w' => w'.cell? ⟨wb, 0, none⟩ = some (.pointer (some ⟨hb, 0, none⟩)) ∧ w'.cell? ⟨P, 1, none⟩ = some (.int .i64 p.conn) ∧ w'.cell? ⟨P, 2, none⟩ = some (.int .u64 p.now) ∧ w'.cell? ⟨P, 8, none⟩ = some (.int .i64 p.kept) ∧ w'.cell? ⟨P, 9, none⟩ = some (.int .i64 p.part)) (first | go_keep | (exact ⟨e0, e1, e2, e8, e9⟩)) (first | (go_at_call 11; refine HC12.out.mono ?_; rintro e wx ⟨F2, cv2, cb2, rfl, h1, h2, h3, h4⟩; have hx := (h2.block P HS3.out (fun h => HG2.out P h rfl)).trans HBX3.out; have e0 := cellB ((h2.block wb (ltB HW3.out) (HH3'.out.dis wb (Or.inl rfl))).trans HW3.out) 0; have e1 := cellB hx 1; have e2 := cellB hx 2; have e8 := cellB hx 8; have e9 := cellB hx 9))
        all_goals (go_wp2_with fail; go_meet)
        all_goals (obtain ⟨g1, g2⟩ := HH3'.out.fedh h1 h2 h3 h4; exact ⟨rfl, rfl, F2, cv2, cb2, g1, ⟨g2.os, g2.tape, g2.output, g2.size, g2.block⟩, (h2.block P HS3.out (fun h => HG2.out P h rfl)).trans HBX3.out⟩)
      case rest =>
        obtain ⟨rfl, rfl, F2, cv2, cb2, hB, hbel, hbx⟩ := hcut
        obtain ⟨w4, hw4e⟩ : ∃ w4, w4 = wc := ⟨_, rfl⟩
        rw [← hw4e] at hB hbel hbx ⊢
        clear hw4e b0 b1 b2 b8 b9
        have HH4 := hide (hB.kept (Below.refl _ w4).drew)
        have b0 := cellB hbx 1
        have b1 := cellB hbx 2
        have HBX4 : Hid (w4.drew.heap[P]? = _) := hide hbx
        have HS4 : Hid (P < w4.drew.heap.size) := hide (ltB hbx)
        have HB4 := hide (HB3.out.trans (hbel.mono (Nat.le_refl _)))
        have HC34 := hide (fed33_at base hb wb bb kb kc blk tb rv1 lv1 M1.1 B1 d1 p.conn p.now i (S.extract n S.size) w4.drew HH4.out.law hi hi3 c0 c1 n0 n1 (by omega) r2 (by rw [HR2.out, HM2.out]))
        clear hB hbel hbx HC12 HH3' HG2
        go_upto_region 15 with fail
        go_cut [11] (fun s11 wx => s11 = .bool true ∧ ∃ lv2 B2 rv2, Both wx base hb db nb sb wb bb kb kc mb blk tb rv2 lv2 M2.1 F2 cv2 3 cb2 (fun j => if j = i then M2.2.1 else d1 j) M2.1 B2 (fun j => if j = i then M2.2.1 else d1 j) ∧ Below base w4 wx)
        case first =>
          go_region_held3 (fun w' => w'.cell? ⟨P, 1, none⟩ = some (.int .i64 p.conn) ∧ w'.cell? ⟨P, 2, none⟩ = some (.int .u64 p.now)) (first | go_keep | (exact ⟨e1, e2⟩)) (first | (go_at_call 33; refine HC34.out.mono ?_; rintro e wx ⟨rfl, lv2, B2, rv2, h1, h2, h3⟩; have hx := (h2.block P HS4.out (fun h => HLP3'.out P h.lg rfl)).trans HBX4.out; have e1 := cellB hx 1; have e2 := cellB hx 2))
          all_goals (go_wp2_with fail; go_meet)
          all_goals (rw [← HM2.out] at h1 h3; obtain ⟨g1, g2⟩ := HH4.out.fedl h1 h2 h3; exact ⟨rfl, lv2, B2, _, g1, ⟨g2.os, g2.tape, g2.output, g2.size, g2.block⟩⟩)
        case rest =>
          obtain ⟨rfl, lv2, B2, rv2, hB, hbel⟩ := hcut
          obtain ⟨w5, hw5e⟩ : ∃ w5, w5 = wc := ⟨_, rfl⟩
          rw [← hw5e] at hB hbel ⊢
          clear hw5e b0 b1
          obtain ⟨least5, hw5⟩ := hB.law.blk
          obtain ⟨mp, hsv, _, _⟩ := hB.host.hs.mem
          have HH5 := hide hB
          have HB5 := hide (HB4.out.trans (hbel.mono (Nat.le_refl _)))
          have H34 := hide (hostadmitted34 hb sb _ _ _ _ _ _ _ _ w5 hB.host.hh hsv)
          have b0 := cellB hw5 0
          have b10 := cellB hw5 22
          clear hB hbel hw5 hsv HC34 HH4
          go_wp2_with fail
          refine H34.out.mono ?_
          rintro e w6 ⟨rfl, he6⟩
          rw [he6]
          clear he6
          go_wp2
          go_ret
          exact ⟨rfl, _, _, _, _, _, _, _, _, HH5.out, HB5.out⟩
end Go.Proofs.YtlamgpeiolfffaaGreatDoor

namespace Go.Proofs.YtlamgpeiolfffaaGreatDoor
open Go.RowKit

/-- How much the first steps hold, in all. -/
def totM (rl rs : Nat → Nat) : Nat → Nat
  | 0 => 0
  | i + 1 => totM rl rs i + 26 * rl i + rs i

def SmallP (n : Nat) (rl rs : Nat → Nat) (e : Ending) : Prop := ∃ b, e = .returned (.bool b) ∧ (b = true → n + totM rl rs n ≤ 16384)

set_option maxRecDepth 100000 in
set_option maxHeartbeats 2000000 in
/-- quotaledgerlaw.small: what is claimed of is small. -/
theorem small14 (ao : Option Addr) (n cap : Nat) (rl rs : Nat → Nat) (w : World) (hnc : n ≤ cap) (hn1 : n ≤ 2000000) (hrl : ∀ i, i < n → rl i ≤ 2000000) (hrs : ∀ i, i < n → rs i ≤ 2000000)
    (hc : 0 < n → ∃ A o, ao = some ⟨A, o, none⟩ ∧ A < w.heap.size ∧ ∀ i, i < n → (∃ la lc, w.cell? ⟨A, o + i * 10 + 3, none⟩ = some (.slice la (rl i) lc)) ∧ ∃ raw : ByteArray, w.cell? ⟨A, o + i * 10 + 4, none⟩ = some (.string raw) ∧ raw.size = rs i) :
    Calls Tryz.prog 14 #[.slice ao n cap] w fun e w' => SmallP n rl rs e ∧ Below w.heap.size w w' := by
  have HC := hide hc
  have HRL := hide hrl
  have HRS := hide hrs
  clear hc hrl hrs
  go_enter Tryz.func14, Tryz.ntmps14
  go_wp2
  go_loopw [3, 4] (fun s3 s4 wr => ∃ i : Nat, i ≤ n ∧ s4 = .int .i64 i ∧ s3 = .int .i64 ((n + totM rl rs i : Nat) : Int) ∧ n + totM rl rs i ≤ 60000000 ∧ Below w.heap.size w wr) (fun _ s4 _ => n - (intOf s4).toNat)
  case atStart => exact ⟨0, by omega, rfl, by simp [totM], by simp [totM]; omega, Below.refl _ _⟩
  case round =>
    obtain ⟨i, hi, rfl, rfl, ht, hb⟩ := hrel
    obtain ⟨t, het⟩ : ∃ t, t = n + totM rl rs i := ⟨_, rfl⟩
    rw [← het] at ht ⊢
    have HT := hide het
    clear het
    by_cases hlt : i < n
    · by_cases hsm : t ≤ 16384
      · obtain ⟨A, o, rfl, hA, hcc⟩ := HC.out (by omega)
        obtain ⟨⟨la, lc, k3⟩, raw, k4, hraw⟩ := hcc i hlt
        have e3 : wr.cell? ⟨A, o + i * 10 + 3, none⟩ = some (.slice la (rl i) lc) := (hb.cell (p := ⟨A, o + i * 10 + 3, none⟩) hA).trans k3
        have e4 : wr.cell? ⟨A, o + i * 10 + 4, none⟩ = some (.string raw) := (hb.cell (p := ⟨A, o + i * 10 + 4, none⟩) hA).trans k4
        obtain ⟨x, hx⟩ : ∃ x, x = rl i := ⟨_, rfl⟩
        rw [← hx] at e3
        have hx1 : x ≤ 2000000 := hx ▸ HRL.out i hlt
        have hr1 : raw.size ≤ 2000000 := hraw ▸ HRS.out i hlt
        have HX := hide hx
        have HRAW := hide hraw
        have hin : (i : Int) < (n : Int) := by omega
        have hi0 : (0 : Int) ≤ (i : Int) := by omega
        have hsi : (t : Int) ≤ 16384 := by omega
        have w1 : IntKind.i64.wrap (26 * (x : Int)) = 26 * (x : Int) := by rw [IntKind.wrap_i64]; omega
        have w2 : IntKind.i64.wrap ((t : Int) + 26 * (x : Int)) = (t : Int) + 26 * (x : Int) := by rw [IntKind.wrap_i64]; omega
        have w3 : IntKind.i64.wrap ((t : Int) + 26 * (x : Int) + (raw.size : Int)) = (t : Int) + 26 * (x : Int) + (raw.size : Int) := by rw [IntKind.wrap_i64]; omega
        clear k3 k4 hcc hx hraw
        go_upto_region 5 with fail
        go_region
        all_goals go_wp2
        all_goals go_roundw
        · have e5 : n + totM rl rs (i + 1) = t + 26 * x + raw.size := by
            have := HT.out
            have := HX.out
            have := HRAW.out
            unfold totM
            omega
          refine ⟨i + 1, by omega, by go_num, ?_, by omega, hb.drew⟩
          rw [e5]
          simp
        · simp [intOf]; omega
      · have hsi : ¬ (t : Int) ≤ 16384 := by omega
        have hin : (i : Int) < (n : Int) := by omega
        go_wp2
        go_ret
        exact ⟨⟨false, rfl, fun h => by simp at h⟩, hb⟩
    · obtain rfl : i = n := by omega
      go_wp2
      go_ret
      refine ⟨⟨_, rfl, fun h => ?_⟩, hb⟩
      have := HT.out
      simp at h
      omega
end Go.Proofs.YtlamgpeiolfffaaGreatDoor
