import Derived.Test.YtlamgpeiolfffaaGreatDoorZy43
import Derived.Test.YtlamgpeiolfffaaGreatDoorZy35
import Derived.Test.YtlamgpeiolfffaaGreatDoorZy41
import Derived.Test.YtlamgpeiolfffaaGreatDoorZy42
set_option linter.unusedSectionVars false
namespace Go.Proofs.YtlamgpeiolfffaaGreatDoor
open Go.RowKit
variable [dK] [iK]

theorem rdErr_1 (bs : List Int) (h : rdErr bs = 1) : bs.length ≤ 26 := by
  cases bs with
  | nil => simp
  | cons b0 t =>
    cases t with
    | nil => simp
    | cons b1 t =>
      simp only [rdErr] at h
      split at h
      · omega
      · split at h
        · rename_i h1 h2
          split at h
          · rename_i h3
            have : reqLen b1 ≤ 26 := by unfold reqLen; repeat' split
                                        all_goals omega
            omega
          · omega
        · omega
theorem rqL_left : ∀ (n : Nat) (bs : List Int), bs.length ≤ n → Bytes bs → 2 * (rqL bs).1.length ≤ bs.length ∧ ((rqL bs).2.2 ≠ 2 → (rqL bs).2.1.length ≤ 26) ∧ Bytes (rqL bs).2.1 := by
  intro n
  induction n with
  | zero =>
    intro bs h _
    have e : bs = [] := List.length_eq_zero_iff.1 (by omega)
    subst e
    rw [rqL_stop [] (by simp [rdErr])]
    exact ⟨by simp, fun _ => by simp, fun x hx => by cases hx⟩
  | succ n ih =>
    intro bs h hb
    by_cases h0 : rdErr bs = 0
    · obtain ⟨r1, r2, _, _⟩ := rdN_ok bs h0
      rw [rqL_step bs h0]
      obtain ⟨i1, i2, i3⟩ := ih (bs.drop (rdN bs).toNat) (by rw [List.length_drop]; omega) (hb.drop _)
      refine ⟨?_, i2, i3⟩
      rw [List.length_drop] at i1
      simp only [List.length_cons]
      omega
    · rw [rqL_stop bs h0]
      refine ⟨by simp, fun h2 => ?_, hb⟩
      rcases rdErr_cases bs with e | e | e
      · exact absurd e h0
      · exact rdErr_1 bs e
      · exact absurd e h2

/-- The law's own blocks in memory. -/
structure LawAt (w : World) (base hb wb bb kb kc : Nat) (blk : Int) (tb : Nat → Nat) (rv : Nat → Value) (lv : Value) (L : Ld) (B : Bk) (c : Nat → Cn) : Prop where
  blk : ∃ least, w.heap[wb]? = some (.cells #[.pointer (some ⟨hb, 0, none⟩), .pointer (some ⟨bb, 0, none⟩), .slice (some ⟨kb, 0, none⟩) 3 kc, .int .u64 blk, .bool false, .bool false, .int .u8 0, .int .u8 0, .int .u8 0, .int .u8 0, .int .u8 0, .int .u8 0, .int .u8 0, .int .u8 0, .int .u8 0, .int .u8 0, .int .u64 0, .int .u64 0, .int .u64 0, .int .u64 0, .int .u64 0, least, .int .u64 L.adm] 60)
  book : BookAt w bb base lv B
  sim : Sim L B
  cs : w.ownsRow base 92 1 (.slice (some ⟨kb, 0, none⟩) 3 kc) 3 (ptrs tb 3)
  st : ∀ i, i < 3 → w.heap[tb i]? = some (.cells #[rv i, .bool (c i).bad] 94)
  sl : ∀ i, i < 3 → Sl w (rv i) (c i).waits
  inj : ∀ i j, i < 3 → j < 3 → tb i = tb j → i = j
  dis : ∀ i, i < 3 → (c i).waits ≠ [] → ∀ g o n d, rv i = .slice (some ⟨g, o, none⟩) n d → base ≤ g ∧ g ≠ bb ∧ g ≠ wb ∧ g ≠ kb ∧ lv.ownBlock ≠ some g ∧ ∀ j, j < 3 → g ≠ tb j
  lo : base ≤ wb ∧ base ≤ bb ∧ ∀ i, i < 3 → base ≤ tb i
  bw : ∀ i, i < 3 → Bytes (c i).waits ∧ (c i).waits.length ≤ 26 ∧ ((c i).bad = true → (c i).waits = [])
  bs : base ≤ w.heap.size
/-- The blocks that the law reads. -/
def LG (wb bb kb : Nat) (tb : Nat → Nat) (rv : Nat → Value) (lv : Value) (c : Nat → Cn) (b : Nat) : Prop := b = wb ∨ b = bb ∨ b = kb ∨ lv.ownBlock = some b ∨ (∃ i, i < 3 ∧ b = tb i) ∨ ∃ i, i < 3 ∧ (c i).waits ≠ [] ∧ ∃ o n d, rv i = .slice (some ⟨b, o, none⟩) n d
/-- The blocks that the law writes into. -/
def LW (wb bb : Nat) (tb : Nat → Nat) (lv : Value) (b : Nat) : Prop := b = bb ∨ b = wb ∨ lv.ownBlock = some b ∨ ∃ i, i < 3 ∧ b = tb i
theorem LW.lg {wb bb kb : Nat} {tb : Nat → Nat} {rv : Nat → Value} {lv : Value} {c : Nat → Cn} {b : Nat} (h : LW wb bb tb lv b) : LG wb bb kb tb rv lv c b := by
  rcases h with h | h | h | h
  · exact Or.inr (Or.inl h)
  · exact Or.inl h
  · exact Or.inr (Or.inr (Or.inr (Or.inl h)))
  · exact Or.inr (Or.inr (Or.inr (Or.inr (Or.inl h))))
theorem LawAt.kbB {w : World} {base hb wb bb kb kc : Nat} {blk : Int} {tb : Nat → Nat} {rv : Nat → Value} {lv : Value} {L : Ld} {B : Bk} {c : Nat → Cn} (H : LawAt w base hb wb bb kb kc blk tb rv lv L B c) : base ≤ kb ∧ kb < w.heap.size ∧ ∃ a fr, w.heap[kb]? = some (.cells a 92 fr) := by
  have h := own_ltE H.cs (g := kb) rfl
  exact ⟨h.1, h.2, own_type H.cs rfl⟩
theorem LawAt.low {w : World} {base hb wb bb kb kc : Nat} {blk : Int} {tb : Nat → Nat} {rv : Nat → Value} {lv : Value} {L : Ld} {B : Bk} {c : Nat → Cn} (H : LawAt w base hb wb bb kb kc blk tb rv lv L B c) (b : Nat) (h : LG wb bb kb tb rv lv c b) : base ≤ b ∧ b < w.heap.size := by
  obtain ⟨least, hw⟩ := H.blk
  rcases h with rfl | rfl | rfl | h | ⟨i, hi, rfl⟩ | ⟨i, hi, hne, o, n, d, h⟩
  · exact ⟨H.lo.1, ltB hw⟩
  · exact ⟨H.lo.2.1, ltB H.book.hb⟩
  · exact ⟨H.kbB.1, H.kbB.2.1⟩
  · exact own_ltE H.book.ho h
  · exact ⟨H.lo.2.2 i hi, ltB (H.st i hi)⟩
  · exact ⟨(H.dis i hi hne _ _ _ _ h).1, (H.sl i hi).lt hne h⟩
theorem LawAt.kept {w w' : World} {base hb wb bb kb kc : Nat} {blk : Int} {tb : Nat → Nat} {rv : Nat → Value} {lv : Value} {L : Ld} {B : Bk} {c : Nat → Cn} (H : LawAt w base hb wb bb kb kc blk tb rv lv L B c) (hs : w.heap.size ≤ w'.heap.size) (hk : ∀ b, LG wb bb kb tb rv lv c b → w'.heap[b]? = w.heap[b]?) : LawAt w' base hb wb bb kb kc blk tb rv lv L B c := by
  obtain ⟨least, hw⟩ := H.blk
  refine ⟨⟨least, (hk wb (Or.inl rfl)).trans hw⟩, ⟨(hk bb (Or.inr (Or.inl rfl))).trans H.book.hb, own_keptE H.book.ho (fun g hg => hk g (Or.inr (Or.inr (Or.inr (Or.inl hg)))))⟩, H.sim, own_keptE H.cs (fun g hg => hk g (by simp [Value.ownBlock] at hg; subst hg; exact Or.inr (Or.inr (Or.inl rfl)))), fun i hi => (hk _ (Or.inr (Or.inr (Or.inr (Or.inr (Or.inl ⟨i, hi, rfl⟩)))))).trans (H.st i hi), fun i hi => (H.sl i hi).keptN hs (fun hne g o n d e _ => hk g (Or.inr (Or.inr (Or.inr (Or.inr (Or.inr ⟨i, hi, hne, o, n, d, e⟩)))))), H.inj, H.dis, H.lo, H.bw, Nat.le_trans H.bs hs⟩

theorem LawAt.fed {w w' : World} {base hb wb bb kb kc : Nat} {blk : Int} {tb : Nat → Nat} {rv : Nat → Value} {lv : Value} {L L2 : Ld} {B : Bk} {c : Nat → Cn} (H : LawAt w base hb wb bb kb kc blk tb rv lv L B c) {i : Nat} (hi : i < 3) {b1 : Bool} {lf : List Int} (hlb : Bytes lf) (hll : lf.length ≤ 26) (hbl : b1 = true → lf = [])
    (P : FedPost wb bb base kb kc (tb i) (rv i) lv (.pointer (some ⟨hb, 0, none⟩)) (.int .u64 blk) (.int .u8 0) (.int .u8 0) (.int .u8 0) (.int .u8 0) (.int .u8 0) (.int .u8 0) (.int .u8 0) (.int .u8 0) (.int .u8 0) (.int .u8 0) (.int .u64 0) (.int .u64 0) (.int .u64 0) (.int .u64 0) (.int .u64 0) L2 b1 lf w w') :
    ∃ lv' B' rv', LawAt w' base hb wb bb kb kc blk tb (fun j => if j = i then rv' else rv j) lv' L2 B' (fun j => if j = i then ⟨lf, b1⟩ else c j) ∧ Keep (LW wb bb tb lv) w w' ∧ ∀ b, LG wb bb kb tb (fun j => if j = i then rv' else rv j) lv' (fun j => if j = i then ⟨lf, b1⟩ else c j) b → LG wb bb kb tb rv lv c b ∨ w.heap.size ≤ b := by
  obtain ⟨lv', B', least', rv', p1, p2, p3, p4, p5, p6, p7, p8⟩ := P
  obtain ⟨least, hw⟩ := H.blk
  obtain ⟨kl1, kl2, ka, kfr, hkb⟩ := H.kbB
  have hsz := p8.size
  have hnk : kb ≠ bb ∧ kb ≠ wb ∧ lv.ownBlock ≠ some kb ∧ ∀ j, j < 3 → kb ≠ tb j := by
    refine ⟨fun e => ?_, fun e => ?_, fun e => own_neE H.book.ho e hkb (by decide) rfl, fun j hj e => ?_⟩
    · rw [e, H.book.hb] at hkb; simp at hkb
    · rw [e, hw] at hkb; simp at hkb
    · rw [e, H.st j hj] at hkb; simp at hkb
  have hnt : ∀ j, j < 3 → tb j ≠ bb ∧ tb j ≠ wb ∧ lv.ownBlock ≠ some (tb j) := fun j hj => by
    refine ⟨fun e => ?_, fun e => ?_, fun e => own_neE H.book.ho e (H.st j hj) (by decide) rfl⟩
    · have := H.st j hj; rw [e, H.book.hb] at this; simp at this
    · have := H.st j hj; rw [e, hw] at this; simp at this
  have hst : ∀ j, j < 3 → j ≠ i → w'.heap[tb j]? = w.heap[tb j]? := fun j hj hne => p8.block _ (ltB (H.st j hj)) (fun e => by
    obtain ⟨h1, h2, h3⟩ := hnt j hj
    rcases e with e | e | e | e
    · exact h1 e
    · exact h2 e
    · exact h3 e
    · exact hne (H.inj j i hj hi e))
  refine ⟨lv', B', rv', ⟨⟨least', p3⟩, p1, p2, own_keptE H.cs (fun g hg => ?_), fun j hj => ?_, fun j hj => ?_, H.inj, fun j hj => ?_, H.lo, fun j hj => ?_, by have := H.bs; omega⟩, p8.mono (fun b h _ => ?_), fun b h => ?_⟩
  · simp [Value.ownBlock] at hg
    subst hg
    exact p8.block _ kl2 (fun e => by
      rcases e with e | e | e | e
      · exact hnk.1 e
      · exact hnk.2.1 e
      · exact hnk.2.2.1 e
      · exact hnk.2.2.2 i hi e)
  · by_cases e : j = i
    · rw [if_pos e, if_pos e, e]; exact p4
    · rw [if_neg e, if_neg e]; exact (hst j hj e).trans (H.st j hj)
  · by_cases e : j = i
    · rw [if_pos e, if_pos e]; exact p5
    · rw [if_neg e, if_neg e]
      refine (H.sl j hj).keptN hsz (fun hne g o n d hv hg => p8.block g hg (fun e' => ?_))
      obtain ⟨_, d1, d2, _, d3, d4⟩ := H.dis j hj hne g o n d hv
      rcases e' with e' | e' | e' | e'
      · exact d1 e'
      · exact d2 e'
      · exact d3 e'
      · exact d4 i hi e'
  · by_cases e : j = i
    · rw [if_pos e, if_pos e]
      intro hne g o n d hv
      obtain ⟨q1, q2⟩ := p6 hne g o n d hv
      have h1 := ltB hw
      have h2 := ltB H.book.hb
      have h3 := H.bs
      exact ⟨by omega, by omega, by omega, by omega, q2, fun x hx => by have := ltB (H.st x hx); omega⟩
    · rw [if_neg e, if_neg e]
      intro hne g o n d hv
      obtain ⟨d0, d1, d2, dk, d3, d4⟩ := H.dis j hj hne g o n d hv
      refine ⟨d0, d1, d2, dk, fun e' => ?_, d4⟩
      have hg := (H.sl j hj).lt hne hv
      rcases p7 g e' with h | h
      · exact d3 h
      · omega
  · by_cases e : j = i
    · rw [if_pos e]; exact ⟨hlb, hll, hbl⟩
    · rw [if_neg e]; exact H.bw j hj
  · rcases h with h | h | h | h
    · exact Or.inl h
    · exact Or.inr (Or.inl h)
    · exact Or.inr (Or.inr (Or.inl h))
    · exact Or.inr (Or.inr (Or.inr ⟨i, hi, h⟩))
  · rcases h with h | h | h | h | h | ⟨j, hj, hne, o, n, d, h⟩
    · exact Or.inl (Or.inl h)
    · exact Or.inl (Or.inr (Or.inl h))
    · exact Or.inl (Or.inr (Or.inr (Or.inl h)))
    · rcases p7 b h with h | h
      · exact Or.inl (Or.inr (Or.inr (Or.inr (Or.inl h))))
      · exact Or.inr h
    · exact Or.inl (Or.inr (Or.inr (Or.inr (Or.inr (Or.inl h)))))
    · dsimp only at hne h
      by_cases e : j = i
      · rw [if_pos e] at hne h
        exact Or.inr (p6 hne b o n d h).1
      · rw [if_neg e] at hne h
        exact Or.inl (Or.inr (Or.inr (Or.inr (Or.inr (Or.inr ⟨j, hj, hne, o, n, d, h⟩)))))

theorem encs_app (a b : List Rp) : encs (a ++ b) = encs a ++ encs b := by unfold encs; rw [List.flatMap_append]
set_option maxRecDepth 100000 in
/-- The law's fed, of a host that answers as the model does. -/
theorem fed33_at (base hb wb bb kb kc : Nat) (blk : Int) (tb : Nat → Nat) (rv : Nat → Value) (lv : Value) (L : Ld) (B : Bk) (c : Nat → Cn) (k now : Int) (i : Nat) (s : ByteArray) (w : World) (H : LawAt w base hb wb bb kb kc blk tb rv lv L B c) (hi : pickM k 3 = (i : Int)) (hi3 : i < 3) (k0 : -9223372036854775808 ≤ k) (k1 : k ≤ 9223372036854775807) (hn0 : 0 ≤ now) (hn1 : now ≤ 18446744073709551615) (hlen : s.size ≤ 60000)
    (rp : ByteArray) (hrp : rp = strOfNums (encs (feedM L (c i) now (numsOf s)).2.2)) :
    Calls Tryz.prog 33 #[.pointer (some ⟨wb, 0, none⟩), .int .i64 k, .int .u64 now, .string s, .string rp, .bool false] w fun e w' => e = .returned (.bool true) ∧ ∃ lv' B' rv', LawAt w' base hb wb bb kb kc blk tb (fun j => if j = i then rv' else rv j) lv' (feedM L (c i) now (numsOf s)).1 B' (fun j => if j = i then (feedM L (c i) now (numsOf s)).2.1 else c j) ∧ Keep (LW wb bb tb lv) w w' ∧ ∀ b, LG wb bb kb tb (fun j => if j = i then rv' else rv j) lv' (fun j => if j = i then (feedM L (c i) now (numsOf s)).2.1 else c j) b → LG wb bb kb tb rv lv c b ∨ w.heap.size ≤ b := by
  obtain ⟨least, hw⟩ := H.blk
  obtain ⟨kl1, kl2, ka, kfr, hkb⟩ := H.kbB
  obtain ⟨hbw, hwl, hbd0⟩ := H.bw i hi3
  have hkw : kb ≠ wb := fun e => by rw [e, hw] at hkb; simp at hkb
  have hkt : kb ≠ bb := fun e => by rw [e, H.book.hb] at hkb; simp at hkb
  have hcell : w.cell? ⟨kb, i, none⟩ = some (.pointer (some ⟨tb i, 0, none⟩)) := by
    rw [H.cs.cellAt i (by omega)]
    unfold ptrs
    rw [List.getElem?_map, List.getElem?_range (by omega)]
    rfl
  have hdis : (c i).waits ≠ [] → ∀ g o n d, rv i = .slice (some ⟨g, o, none⟩) n d → g ≠ bb ∧ g ≠ wb := fun hne g o n d e => ⟨(H.dis i hi3 hne g o n d e).2.1, (H.dis i hi3 hne g o n d e).2.2.1⟩
  have hst := H.st i hi3
  have hbase := H.bs
  cases hbad : (c i).bad with
  | true =>
    have hwe := hbd0 hbad
    have hci : c i = ⟨[], true⟩ := by rw [← hwe, ← hbad]
    have hf := feedM_end L (c i) now (numsOf s) hbad
    rw [hf] at hrp ⊢
    rw [hbad] at hst
    have hse : ∀ U, Sl U (rv i) [] := fun U => by
      rcases H.sl i hi3 with h | h
      · exact Or.inl ⟨rfl, h.2⟩
      · have h1 := h.1
        rw [hwe] at h1
        simp at h1
    have hrp' : numsOf rp = encs (doL (passM L now) []).2 ++ [] := by
      rw [hrp]
      exact numsOf_str [] (fun x hx => by cases hx)
    refine (fed33 wb bb base kb kc (tb i) i (rv i) lv _ _ (.int .u8 0) (.int .u8 0) (.int .u8 0) (.int .u8 0) (.int .u8 0) (.int .u8 0) (.int .u8 0) (.int .u8 0) (.int .u8 0) (.int .u8 0) (.int .u64 0) (.int .u64 0) (.int .u64 0) _ _ least L B k now H.sim hn0 hn1 s rp w hw H.book hi hi3 k0 k1 hcell kl2 hkw hkt true true false hst (c i).waits [] [] (H.sl i hi3) (fun U hU _ => ?_) (fun q hq => by cases hq) (by simp) [] rfl hrp' hdis hbase).mono ?_
    · refine (sfeed51_end (tb i) (rv i) s U hU).mono ?_
      rintro e w' ⟨rfl, rfl⟩
      exact ⟨_, rv i, rfl, World.ownsRow_nil _ _ _ _, Keep.refl _ _, hU, hse _, fun h => absurd rfl h⟩
    · rintro e w' ⟨rfl, P⟩
      obtain ⟨lv', B', rv', q1, q2, q3⟩ := H.fed hi3 (fun x hx => by cases hx) (by simp) (fun _ => rfl) P
      have e1 : (⟨[], true⟩ : Cn) = c i := hci.symm
      rw [e1] at q1 q3
      exact ⟨rfl, lv', B', rv', q1, q2, q3⟩
  | false =>
    rw [hbad] at hst
    obtain ⟨bs0, hbs⟩ : ∃ bs0, bs0 = (c i).waits ++ numsOf s := ⟨_, rfl⟩
    have hb0 : Bytes bs0 := by rw [hbs]; exact hbw.app (numsOf_bytes s)
    have hl0 : bs0.length ≤ 61000 := by rw [hbs, List.length_append, numsOf_length]; omega
    obtain ⟨r1, r2, r3⟩ := rqL_left _ bs0 (Nat.le_refl _) hb0
    obtain ⟨l, hl⟩ : ∃ l, l = (rqL bs0).1 := ⟨_, rfl⟩
    obtain ⟨bd, hbd⟩ : ∃ bd, bd = decide ((rqL bs0).2.2 = 2) := ⟨_, rfl⟩
    obtain ⟨lf, hlf⟩ : ∃ lf, lf = if (rqL bs0).2.2 = 2 then [] else (rqL bs0).2.1 := ⟨_, rfl⟩
    have hf := feedM_rq L (c i) now (numsOf s) hbad
    rw [← hbs, ← hl] at hf
    have hf' : feedM L (c i) now (numsOf s) = ((doL (passM L now) l).1, ⟨lf, bd⟩, (doL (passM L now) l).2 ++ if bd then [⟨6, 0, 0⟩] else []) := by
      rw [hf]
      by_cases h2 : (rqL bs0).2.2 = 2
      · rw [if_pos h2, hlf, hbd, if_pos h2]; simp [h2]
      · rw [if_neg h2, hlf, hbd, if_neg h2]; simp [h2]
    have hgood : ∀ q ∈ l, q.ok ∧ q.op ∈ [1, 2, 3, 4, 5, 6] := by rw [hl]; exact rqL_good _ bs0 (Nat.le_refl _) hb0
    have hpok := passM_okd L now H.sim.lok hn0 hn1
    have htold : ∀ r ∈ (doL (passM L now) l).2 ++ (if bd then [⟨6, 0, 0⟩] else []), r.told := fun r hr => by
      rcases List.mem_append.1 hr with h | h
      · exact doL_told _ _ hpok (fun q hq => (hgood q hq).1) r h
      · split at h
        · rw [List.mem_singleton.1 h]; exact ⟨by decide, by decide, by decide, by decide⟩
        · cases h
    have hrp' : numsOf rp = encs (doL (passM L now) l).2 ++ (if bd then encRep 6 0 0 else []) := by
      rw [hrp, hf', numsOf_str _ (encs_bytes _ htold), encs_app]
      congr 1
      split
      · unfold encs; simp
      · rfl
    rw [hf']
    have hlfb : Bytes lf := by
      rw [hlf]
      split
      · exact fun x hx => by cases hx
      · exact r3
    have hlfl : lf.length ≤ 26 := by
      rw [hlf]
      split
      · simp
      · exact r2 (by assumption)
    have hlfe : bd = true → lf = [] := fun h => by
      rw [hbd] at h
      rw [hlf, if_pos (of_decide_eq_true h)]
    refine (fed33 wb bb base kb kc (tb i) i (rv i) lv _ _ (.int .u8 0) (.int .u8 0) (.int .u8 0) (.int .u8 0) (.int .u8 0) (.int .u8 0) (.int .u8 0) (.int .u8 0) (.int .u8 0) (.int .u8 0) (.int .u64 0) (.int .u64 0) (.int .u64 0) _ _ least L B k now H.sim hn0 hn1 s rp w hw H.book hi hi3 k0 k1 hcell kl2 hkw hkt false bd bd hst (c i).waits l lf (H.sl i hi3) (fun U hU hS => ?_) hgood (by rw [hl]; omega) _ rfl hrp' hdis hbase).mono ?_
    · refine (sfeed51 (tb i) (rv i) (c i).waits s U hU hS hbw (by omega) bs0 hbs l hl bd hbd lf hlf).mono ?_
      rintro e w' ⟨ov, rv', rfl, q1, q2, q3, q4, q5⟩
      exact ⟨ov, rv', rfl, q1, q2, q3, q4, fun _ => q5⟩
    · rintro e w' ⟨rfl, P⟩
      obtain ⟨lv', B', rv', q1, q2, q3⟩ := H.fed hi3 hlfb hlfl hlfe P
      exact ⟨rfl, lv', B', rv', q1, q2, q3⟩
end Go.Proofs.YtlamgpeiolfffaaGreatDoor
