import Derived.Test.YtnlgndpcddngoaaGreatDoorZb13
import Derived.Test.YtnlgndpcddngoaaGreatDoorZb00
import Derived.Test.YtnlgndpcddngoaaGreatDoorZb10
import Derived.Test.YtnlgndpcddngoaaGreatDoorZb12
import Derived.Test.YtnlgndpcddngoaaGreatDoorOpl
namespace Go.Proofs.YtnlgndpcddngoaaGreatDoor
open Go.RowKit

theorem rdErr_1 (bs : List Int) (h : rdErr bs = 1) : bs.length ≤ 26 := by
  cases bs with
  | nil => simp
  | cons b0 t =>
    cases t with
    | nil => simp
    | cons b1 t =>
      simp only [rdErr] at h
      split at h
      · omega
      · split at h
        · rename_i h1 h2
          split at h
          · rename_i h3
            have : reqLen b1 ≤ 26 := by unfold reqLen; repeat' split
                                        all_goals omega
            omega
          · omega
        · omega
theorem rqL_left : ∀ (n : Nat) (bs : List Int), bs.length ≤ n → Bytes bs → 2 * (rqL bs).1.length ≤ bs.length ∧ ((rqL bs).2.2 ≠ 2 → (rqL bs).2.1.length ≤ 26) ∧ Bytes (rqL bs).2.1 := by
  intro n
  induction n with
  | zero =>
    intro bs h _
    have e : bs = [] := List.length_eq_zero_iff.1 (by omega)
    subst e
    rw [rqL_stop [] (by simp [rdErr])]
    exact ⟨by simp, fun _ => by simp, fun x hx => by cases hx⟩
  | succ n ih =>
    intro bs h hb
    by_cases h0 : rdErr bs = 0
    · obtain ⟨r1, r2, _, _⟩ := rdN_ok bs h0
      rw [rqL_step bs h0]
      obtain ⟨i1, i2, i3⟩ := ih (bs.drop (rdN bs).toNat) (by rw [List.length_drop]; omega) (hb.drop _)
      refine ⟨?_, i2, i3⟩
      rw [List.length_drop] at i1
      simp only [List.length_cons]
      omega
    · rw [rqL_stop bs h0]
      refine ⟨by simp, fun h2 => ?_, hb⟩
      rcases rdErr_cases bs with e | e | e
      · exact absurd e h0
      · exact rdErr_1 bs e
      · exact absurd e h2

/-- The law's own blocks in memory. -/
structure LawAt (w : World) (base hb wb bb kb kc : Nat) (blk : Int) (tb : Nat → Nat) (rv : Nat → Value) (lv : Value) (L : Ld) (B : Bk) (c : Nat → Cn) : Prop where
  blk : ∃ least, w.heap[wb]? = some (.cells #[.pointer (some ⟨hb, 0, none⟩), .pointer (some ⟨bb, 0, none⟩), .slice (some ⟨kb, 0, none⟩) 3 kc, .int .u64 blk, .bool false, .bool false, .int .u8 0, .int .u8 0, .int .u8 0, .int .u8 0, .int .u8 0, .int .u8 0, .int .u8 0, .int .u8 0, .int .u8 0, .int .u8 0, .int .u64 0, .int .u64 0, .int .u64 0, .int .u64 0, .int .u64 0, least, .int .u64 L.adm] 67)
  book : BookAt w bb base lv B
  sim : Sim L B
  cs : w.ownsRow base 101 1 (.slice (some ⟨kb, 0, none⟩) 3 kc) 3 (ptrs tb 3)
  st : ∀ i, i < 3 → w.heap[tb i]? = some (.cells #[rv i, .bool (c i).bad] 103)
  sl : ∀ i, i < 3 → Sl w (rv i) (c i).waits
  inj : ∀ i j, i < 3 → j < 3 → tb i = tb j → i = j
  dis : ∀ i, i < 3 → (c i).waits ≠ [] → ∀ g o n d, rv i = .slice (some ⟨g, o, none⟩) n d → base ≤ g ∧ g ≠ bb ∧ g ≠ wb ∧ g ≠ kb ∧ lv.ownBlock ≠ some g ∧ ∀ j, j < 3 → g ≠ tb j
  lo : base ≤ wb ∧ base ≤ bb ∧ ∀ i, i < 3 → base ≤ tb i
  bw : ∀ i, i < 3 → Bytes (c i).waits ∧ (c i).waits.length ≤ 26 ∧ ((c i).bad = true → (c i).waits = [])
  bs : base ≤ w.heap.size
/-- The blocks that the law reads. -/
def LG (wb bb kb : Nat) (tb : Nat → Nat) (rv : Nat → Value) (lv : Value) (c : Nat → Cn) (b : Nat) : Prop := b = wb ∨ b = bb ∨ b = kb ∨ lv.ownBlock = some b ∨ (∃ i, i < 3 ∧ b = tb i) ∨ ∃ i, i < 3 ∧ (c i).waits ≠ [] ∧ ∃ o n d, rv i = .slice (some ⟨b, o, none⟩) n d
/-- The blocks that the law writes into. -/
def LW (wb bb : Nat) (tb : Nat → Nat) (lv : Value) (b : Nat) : Prop := b = bb ∨ b = wb ∨ lv.ownBlock = some b ∨ ∃ i, i < 3 ∧ b = tb i
theorem LW.lg {wb bb kb : Nat} {tb : Nat → Nat} {rv : Nat → Value} {lv : Value} {c : Nat → Cn} {b : Nat} (h : LW wb bb tb lv b) : LG wb bb kb tb rv lv c b := by
  rcases h with h | h | h | h
  · exact Or.inr (Or.inl h)
  · exact Or.inl h
  · exact Or.inr (Or.inr (Or.inr (Or.inl h)))
  · exact Or.inr (Or.inr (Or.inr (Or.inr (Or.inl h))))
theorem LawAt.kbB {w : World} {base hb wb bb kb kc : Nat} {blk : Int} {tb : Nat → Nat} {rv : Nat → Value} {lv : Value} {L : Ld} {B : Bk} {c : Nat → Cn} (H : LawAt w base hb wb bb kb kc blk tb rv lv L B c) : base ≤ kb ∧ kb < w.heap.size ∧ ∃ a fr, w.heap[kb]? = some (.cells a 101 fr) := by
  have h := own_ltE H.cs (g := kb) rfl
  exact ⟨h.1, h.2, own_type H.cs rfl⟩
theorem LawAt.low {w : World} {base hb wb bb kb kc : Nat} {blk : Int} {tb : Nat → Nat} {rv : Nat → Value} {lv : Value} {L : Ld} {B : Bk} {c : Nat → Cn} (H : LawAt w base hb wb bb kb kc blk tb rv lv L B c) (b : Nat) (h : LG wb bb kb tb rv lv c b) : base ≤ b ∧ b < w.heap.size := by
  obtain ⟨least, hw⟩ := H.blk
  rcases h with rfl | rfl | rfl | h | ⟨i, hi, rfl⟩ | ⟨i, hi, hne, o, n, d, h⟩
  · exact ⟨H.lo.1, ltB hw⟩
  · exact ⟨H.lo.2.1, ltB H.book.hb⟩
  · exact ⟨H.kbB.1, H.kbB.2.1⟩
  · exact own_ltE H.book.ho h
  · exact ⟨H.lo.2.2 i hi, ltB (H.st i hi)⟩
  · exact ⟨(H.dis i hi hne _ _ _ _ h).1, (H.sl i hi).lt hne h⟩
theorem LawAt.kept {w w' : World} {base hb wb bb kb kc : Nat} {blk : Int} {tb : Nat → Nat} {rv : Nat → Value} {lv : Value} {L : Ld} {B : Bk} {c : Nat → Cn} (H : LawAt w base hb wb bb kb kc blk tb rv lv L B c) (hs : w.heap.size ≤ w'.heap.size) (hk : ∀ b, LG wb bb kb tb rv lv c b → w'.heap[b]? = w.heap[b]?) : LawAt w' base hb wb bb kb kc blk tb rv lv L B c := by
  obtain ⟨least, hw⟩ := H.blk
  refine ⟨⟨least, (hk wb (Or.inl rfl)).trans hw⟩, ⟨(hk bb (Or.inr (Or.inl rfl))).trans H.book.hb, own_keptE H.book.ho (fun g hg => hk g (Or.inr (Or.inr (Or.inr (Or.inl hg)))))⟩, H.sim, own_keptE H.cs (fun g hg => hk g (by simp [Value.ownBlock] at hg; subst hg; exact Or.inr (Or.inr (Or.inl rfl)))), fun i hi => (hk _ (Or.inr (Or.inr (Or.inr (Or.inr (Or.inl ⟨i, hi, rfl⟩)))))).trans (H.st i hi), fun i hi => (H.sl i hi).keptN hs (fun hne g o n d e _ => hk g (Or.inr (Or.inr (Or.inr (Or.inr (Or.inr ⟨i, hi, hne, o, n, d, e⟩)))))), H.inj, H.dis, H.lo, H.bw, Nat.le_trans H.bs hs⟩

theorem LawAt.fed {w w' : World} {base hb wb bb kb kc : Nat} {blk : Int} {tb : Nat → Nat} {rv : Nat → Value} {lv : Value} {L L2 : Ld} {B : Bk} {c : Nat → Cn} (H : LawAt w base hb wb bb kb kc blk tb rv lv L B c) {i : Nat} (hi : i < 3) {b1 : Bool} {lf : List Int} (hlb : Bytes lf) (hll : lf.length ≤ 26) (hbl : b1 = true → lf = [])
    (P : FedPost wb bb base kb kc (tb i) (rv i) lv (.pointer (some ⟨hb, 0, none⟩)) (.int .u64 blk) (.int .u8 0) (.int .u8 0) (.int .u8 0) (.int .u8 0) (.int .u8 0) (.int .u8 0) (.int .u8 0) (.int .u8 0) (.int .u8 0) (.int .u8 0) (.int .u64 0) (.int .u64 0) (.int .u64 0) (.int .u64 0) (.int .u64 0) L2 b1 lf w w') :
    ∃ lv' B' rv', LawAt w' base hb wb bb kb kc blk tb (fun j => if j = i then rv' else rv j) lv' L2 B' (fun j => if j = i then ⟨lf, b1⟩ else c j) ∧ Keep (LW wb bb tb lv) w w' ∧ ∀ b, LG wb bb kb tb (fun j => if j = i then rv' else rv j) lv' (fun j => if j = i then ⟨lf, b1⟩ else c j) b → LG wb bb kb tb rv lv c b ∨ w.heap.size ≤ b := by
  obtain ⟨lv', B', least', rv', p1, p2, p3, p4, p5, p6, p7, p8⟩ := P
  obtain ⟨least, hw⟩ := H.blk
  obtain ⟨kl1, kl2, ka, kfr, hkb⟩ := H.kbB
  have hsz := p8.size
  have hnk : kb ≠ bb ∧ kb ≠ wb ∧ lv.ownBlock ≠ some kb ∧ ∀ j, j < 3 → kb ≠ tb j := by
    refine ⟨fun e => ?_, fun e => ?_, fun e => own_neE H.book.ho e hkb (by decide) rfl, fun j hj e => ?_⟩
    · rw [e, H.book.hb] at hkb; simp at hkb
    · rw [e, hw] at hkb; simp at hkb
    · rw [e, H.st j hj] at hkb; simp at hkb
  have hnt : ∀ j, j < 3 → tb j ≠ bb ∧ tb j ≠ wb ∧ lv.ownBlock ≠ some (tb j) := fun j hj => by
    refine ⟨fun e => ?_, fun e => ?_, fun e => own_neE H.book.ho e (H.st j hj) (by decide) rfl⟩
    · have := H.st j hj; rw [e, H.book.hb] at this; simp at this
    · have := H.st j hj; rw [e, hw] at this; simp at this
  have hst : ∀ j, j < 3 → j ≠ i → w'.heap[tb j]? = w.heap[tb j]? := fun j hj hne => p8.block _ (ltB (H.st j hj)) (fun e => by
    obtain ⟨h1, h2, h3⟩ := hnt j hj
    rcases e with e | e | e | e
    · exact h1 e
    · exact h2 e
    · exact h3 e
    · exact hne (H.inj j i hj hi e))
  refine ⟨lv', B', rv', ⟨⟨least', p3⟩, p1, p2, own_keptE H.cs (fun g hg => ?_), fun j hj => ?_, fun j hj => ?_, H.inj, fun j hj => ?_, H.lo, fun j hj => ?_, by have := H.bs; omega⟩, p8.mono (fun b h _ => ?_), fun b h => ?_⟩
  · simp [Value.ownBlock] at hg
    subst hg
    exact p8.block _ kl2 (fun e => by
      rcases e with e | e | e | e
      · exact hnk.1 e
      · exact hnk.2.1 e
      · exact hnk.2.2.1 e
      · exact hnk.2.2.2 i hi e)
  · by_cases e : j = i
    · rw [if_pos e, if_pos e, e]; exact p4
    · rw [if_neg e, if_neg e]; exact (hst j hj e).trans (H.st j hj)
  · by_cases e : j = i
    · rw [if_pos e, if_pos e]; exact p5
    · rw [if_neg e, if_neg e]
      refine (H.sl j hj).keptN hsz (fun hne g o n d hv hg => p8.block g hg (fun e' => ?_))
      obtain ⟨_, d1, d2, _, d3, d4⟩ := H.dis j hj hne g o n d hv
      rcases e' with e' | e' | e' | e'
      · exact d1 e'
      · exact d2 e'
      · exact d3 e'
      · exact d4 i hi e'
  · by_cases e : j = i
    · rw [if_pos e, if_pos e]
      intro hne g o n d hv
      obtain ⟨q1, q2⟩ := p6 hne g o n d hv
      have h1 := ltB hw
      have h2 := ltB H.book.hb
      have h3 := H.bs
      exact ⟨by omega, by omega, by omega, by omega, q2, fun x hx => by have := ltB (H.st x hx); omega⟩
    · rw [if_neg e, if_neg e]
      intro hne g o n d hv
      obtain ⟨d0, d1, d2, dk, d3, d4⟩ := H.dis j hj hne g o n d hv
      refine ⟨d0, d1, d2, dk, fun e' => ?_, d4⟩
      have hg := (H.sl j hj).lt hne hv
      rcases p7 g e' with h | h
      · exact d3 h
      · omega
  · by_cases e : j = i
    · rw [if_pos e]; exact ⟨hlb, hll, hbl⟩
    · rw [if_neg e]; exact H.bw j hj
  · rcases h with h | h | h | h
    · exact Or.inl h
    · exact Or.inr (Or.inl h)
    · exact Or.inr (Or.inr (Or.inl h))
    · exact Or.inr (Or.inr (Or.inr ⟨i, hi, h⟩))
  · rcases h with h | h | h | h | h | ⟨j, hj, hne, o, n, d, h⟩
    · exact Or.inl (Or.inl h)
    · exact Or.inl (Or.inr (Or.inl h))
    · exact Or.inl (Or.inr (Or.inr (Or.inl h)))
    · rcases p7 b h with h | h
      · exact Or.inl (Or.inr (Or.inr (Or.inr (Or.inl h))))
      · exact Or.inr h
    · exact Or.inl (Or.inr (Or.inr (Or.inr (Or.inr (Or.inl h)))))
    · dsimp only at hne h
      by_cases e : j = i
      · rw [if_pos e] at hne h
        exact Or.inr (p6 hne b o n d h).1
      · rw [if_neg e] at hne h
        exact Or.inl (Or.inr (Or.inr (Or.inr (Or.inr (Or.inr ⟨j, hj, hne, o, n, d, h⟩)))))

theorem encs_app (a b : List Rp) : encs (a ++ b) = encs a ++ encs b := by unfold encs; rw [List.flatMap_append]
set_option maxRecDepth 100000 in
/-- The law's fed, of a host that answers as the model does. -/
theorem fed33_at (base hb wb bb kb kc : Nat) (blk : Int) (tb : Nat → Nat) (rv : Nat → Value) (lv : Value) (L : Ld) (B : Bk) (c : Nat → Cn) (k now : Int) (i : Nat) (s : ByteArray) (w : World) (H : LawAt w base hb wb bb kb kc blk tb rv lv L B c) (hi : pickM k 3 = (i : Int)) (hi3 : i < 3) (k0 : -9223372036854775808 ≤ k) (k1 : k ≤ 9223372036854775807) (hn0 : 0 ≤ now) (hn1 : now ≤ 18446744073709551615) (hlen : s.size ≤ 60000)
    (rp : ByteArray) (hrp : rp = strOfNums (encs (feedM L (c i) now (numsOf s)).2.2)) :
    Calls Tryz.prog 37 #[.pointer (some ⟨wb, 0, none⟩), .int .i64 k, .int .u64 now, .string s, .string rp, .bool false] w fun e w' => e = .returned (.bool true) ∧ ∃ lv' B' rv', LawAt w' base hb wb bb kb kc blk tb (fun j => if j = i then rv' else rv j) lv' (feedM L (c i) now (numsOf s)).1 B' (fun j => if j = i then (feedM L (c i) now (numsOf s)).2.1 else c j) ∧ Keep (LW wb bb tb lv) w w' ∧ ∀ b, LG wb bb kb tb (fun j => if j = i then rv' else rv j) lv' (fun j => if j = i then (feedM L (c i) now (numsOf s)).2.1 else c j) b → LG wb bb kb tb rv lv c b ∨ w.heap.size ≤ b := by
  obtain ⟨least, hw⟩ := H.blk
  obtain ⟨kl1, kl2, ka, kfr, hkb⟩ := H.kbB
  obtain ⟨hbw, hwl, hbd0⟩ := H.bw i hi3
  have hkw : kb ≠ wb := fun e => by rw [e, hw] at hkb; simp at hkb
  have hkt : kb ≠ bb := fun e => by rw [e, H.book.hb] at hkb; simp at hkb
  have hcell : w.cell? ⟨kb, i, none⟩ = some (.pointer (some ⟨tb i, 0, none⟩)) := by
    rw [H.cs.cellAt i (by omega)]
    unfold ptrs
    rw [List.getElem?_map, List.getElem?_range (by omega)]
    rfl
  have hdis : (c i).waits ≠ [] → ∀ g o n d, rv i = .slice (some ⟨g, o, none⟩) n d → g ≠ bb ∧ g ≠ wb := fun hne g o n d e => ⟨(H.dis i hi3 hne g o n d e).2.1, (H.dis i hi3 hne g o n d e).2.2.1⟩
  have hst := H.st i hi3
  have hbase := H.bs
  cases hbad : (c i).bad with
  | true =>
    have hwe := hbd0 hbad
    have hci : c i = ⟨[], true⟩ := by rw [← hwe, ← hbad]
    have hf := feedM_end L (c i) now (numsOf s) hbad
    rw [hf] at hrp ⊢
    rw [hbad] at hst
    have hse : ∀ U, Sl U (rv i) [] := fun U => by
      rcases H.sl i hi3 with h | h
      · exact Or.inl ⟨rfl, h.2⟩
      · have h1 := h.1
        rw [hwe] at h1
        simp at h1
    have hrp' : numsOf rp = encs (doL (passM L now) []).2 ++ [] := by
      rw [hrp]
      exact numsOf_str [] (fun x hx => by cases hx)
    refine (fed33 wb bb base kb kc (tb i) i (rv i) lv _ _ (.int .u8 0) (.int .u8 0) (.int .u8 0) (.int .u8 0) (.int .u8 0) (.int .u8 0) (.int .u8 0) (.int .u8 0) (.int .u8 0) (.int .u8 0) (.int .u64 0) (.int .u64 0) (.int .u64 0) _ _ least L B k now H.sim hn0 hn1 s rp w hw H.book hi hi3 k0 k1 hcell kl2 hkw hkt true true false hst (c i).waits [] [] (H.sl i hi3) (fun U hU _ => ?_) (fun q hq => by cases hq) (by simp) [] rfl hrp' hdis hbase).mono ?_
    · refine (sfeed51_end (tb i) (rv i) s U hU).mono ?_
      rintro e w' ⟨rfl, rfl⟩
      exact ⟨_, rv i, rfl, World.ownsRow_nil _ _ _ _, Keep.refl _ _, hU, hse _, fun h => absurd rfl h⟩
    · rintro e w' ⟨rfl, P⟩
      obtain ⟨lv', B', rv', q1, q2, q3⟩ := H.fed hi3 (fun x hx => by cases hx) (by simp) (fun _ => rfl) P
      have e1 : (⟨[], true⟩ : Cn) = c i := hci.symm
      rw [e1] at q1 q3
      exact ⟨rfl, lv', B', rv', q1, q2, q3⟩
  | false =>
    rw [hbad] at hst
    obtain ⟨bs0, hbs⟩ : ∃ bs0, bs0 = (c i).waits ++ numsOf s := ⟨_, rfl⟩
    have hb0 : Bytes bs0 := by rw [hbs]; exact hbw.app (numsOf_bytes s)
    have hl0 : bs0.length ≤ 61000 := by rw [hbs, List.length_append, numsOf_length]; omega
    obtain ⟨r1, r2, r3⟩ := rqL_left _ bs0 (Nat.le_refl _) hb0
    obtain ⟨l, hl⟩ : ∃ l, l = (rqL bs0).1 := ⟨_, rfl⟩
    obtain ⟨bd, hbd⟩ : ∃ bd, bd = decide ((rqL bs0).2.2 = 2) := ⟨_, rfl⟩
    obtain ⟨lf, hlf⟩ : ∃ lf, lf = if (rqL bs0).2.2 = 2 then [] else (rqL bs0).2.1 := ⟨_, rfl⟩
    have hf := feedM_rq L (c i) now (numsOf s) hbad
    rw [← hbs, ← hl] at hf
    have hf' : feedM L (c i) now (numsOf s) = ((doL (passM L now) l).1, ⟨lf, bd⟩, (doL (passM L now) l).2 ++ if bd then [⟨6, 0, 0⟩] else []) := by
      rw [hf]
      by_cases h2 : (rqL bs0).2.2 = 2
      · rw [if_pos h2, hlf, hbd, if_pos h2]; simp [h2]
      · rw [if_neg h2, hlf, hbd, if_neg h2]; simp [h2]
    have hgood : ∀ q ∈ l, q.ok ∧ q.op ∈ [1, 2, 3, 4, 5, 6] := by rw [hl]; exact rqL_good _ bs0 (Nat.le_refl _) hb0
    have hpok := passM_okd L now H.sim.lok hn0 hn1
    have htold : ∀ r ∈ (doL (passM L now) l).2 ++ (if bd then [⟨6, 0, 0⟩] else []), r.told := fun r hr => by
      rcases List.mem_append.1 hr with h | h
      · exact doL_told _ _ hpok (fun q hq => (hgood q hq).1) r h
      · split at h
        · rw [List.mem_singleton.1 h]; exact ⟨by decide, by decide, by decide, by decide⟩
        · cases h
    have hrp' : numsOf rp = encs (doL (passM L now) l).2 ++ (if bd then encRep 6 0 0 else []) := by
      rw [hrp, hf', numsOf_str _ (encs_bytes _ htold), encs_app]
      congr 1
      split
      · unfold encs; simp
      · rfl
    rw [hf']
    have hlfb : Bytes lf := by
      rw [hlf]
      split
      · exact fun x hx => by cases hx
      · exact r3
    have hlfl : lf.length ≤ 26 := by
      rw [hlf]
      split
      · simp
      · exact r2 (by assumption)
    have hlfe : bd = true → lf = [] := fun h => by
      rw [hbd] at h
      rw [hlf, if_pos (of_decide_eq_true h)]
    refine (fed33 wb bb base kb kc (tb i) i (rv i) lv _ _ (.int .u8 0) (.int .u8 0) (.int .u8 0) (.int .u8 0) (.int .u8 0) (.int .u8 0) (.int .u8 0) (.int .u8 0) (.int .u8 0) (.int .u8 0) (.int .u64 0) (.int .u64 0) (.int .u64 0) _ _ least L B k now H.sim hn0 hn1 s rp w hw H.book hi hi3 k0 k1 hcell kl2 hkw hkt false bd bd hst (c i).waits l lf (H.sl i hi3) (fun U hU hS => ?_) hgood (by rw [hl]; omega) _ rfl hrp' hdis hbase).mono ?_
    · refine (sfeed51 (tb i) (rv i) (c i).waits s U hU hS hbw (by omega) bs0 hbs l hl bd hbd lf hlf).mono ?_
      rintro e w' ⟨ov, rv', rfl, q1, q2, q3, q4, q5⟩
      exact ⟨ov, rv', rfl, q1, q2, q3, q4, fun _ => q5⟩
    · rintro e w' ⟨rfl, P⟩
      obtain ⟨lv', B', rv', q1, q2, q3⟩ := H.fed hi3 hlfb hlfl hlfe P
      exact ⟨rfl, lv', B', rv', q1, q2, q3⟩
end Go.Proofs.YtnlgndpcddngoaaGreatDoor

namespace Go.Proofs.YtnlgndpcddngoaaGreatDoor
open Go.RowKit

theorem HostAt.keptS {w w' : World} {hb db nb sb : Nat} {mb : Option Nat} {blk : Int} {L : Ld} {F : Nat → Prop} {B : Nat} {cv : Value} {m : Nat} {cb : Nat → Nat} {c : Nat → Cn} (H : HostAt w hb db nb sb mb blk L F B cv m cb c) {S : Nat → Prop} (hn : ∀ k, S k → ¬ HG hb db F cv m cb k) (hw : ∀ k, S k → WaitN w sb m cb c k) (hK : Keep S w w') : HostAt w' hb db nb sb mb blk L F B cv m cb c := by
  have hs := hK.size
  have hk : ∀ k, k < w.heap.size → ¬ S k → w'.heap[k]? = w.heap[k]? := hK.block
  have hne : ∀ k, HG hb db F cv m cb k → ¬ S k := fun k h e => hn k e h
  refine ⟨(hk hb (ltB H.hh) (hne hb (Or.inl rfl))).trans H.hh, H.hd, H.hs.kept hs (fun b hF => hk b (H.hs.lt b hF) (hne b (Or.inr (Or.inr (Or.inl hF))))), fun i hi => ?_, H.hi, own_keptE H.ho (fun g hg => hk g (own_ltE H.ho hg).2 (hne g (Or.inr (Or.inr (Or.inr (Or.inl hg)))))), H.hF, H.lo, H.fr⟩
  obtain ⟨⟨cw, g1, g2, g3⟩, g4⟩ := H.hc i hi
  exact ⟨⟨cw, (hk _ (ltB g1) (hne _ (Or.inr (Or.inr (Or.inr (Or.inr ⟨i, hi, rfl⟩)))))).trans g1, g2.kept hs (fun g o n d e hg => hk g hg (fun e' => hw g e' i hi cw g1 (by rw [e]; rfl))), fun g o n d h => ⟨(g3 g o n d h).1, (g3 g o n d h).2.1, Nat.lt_of_lt_of_le (g3 g o n d h).2.2 hs⟩⟩, g4⟩

/-- A host and the law that asks it, in one memory. -/
structure Both (w : World) (base hb db nb sb wb bb kb kc : Nat) (mb : Option Nat) (blk : Int) (tb : Nat → Nat) (rv : Nat → Value) (lv : Value) (Lh : Ld) (F : Nat → Prop) (cv : Value) (m : Nat) (cb : Nat → Nat) (ch : Nat → Cn) (Ll : Ld) (B : Bk) (cl : Nat → Cn) : Prop where
  host : HostAt w hb db nb sb mb blk Lh F base cv m cb ch
  law : LawAt w base hb wb bb kb kc blk tb rv lv Ll B cl
  dis : ∀ b, LG wb bb kb tb rv lv cl b → ¬ HG hb db F cv m cb b
  wait : ∀ b, LG wb bb kb tb rv lv cl b → WaitN w sb m cb ch b
theorem Both.kept {w w' : World} {base hb db nb sb wb bb kb kc : Nat} {mb : Option Nat} {blk : Int} {tb : Nat → Nat} {rv : Nat → Value} {lv : Value} {Lh Ll : Ld} {F : Nat → Prop} {cv : Value} {m : Nat} {cb : Nat → Nat} {ch cl : Nat → Cn} {B : Bk} (H : Both w base hb db nb sb wb bb kb kc mb blk tb rv lv Lh F cv m cb ch Ll B cl) (hb' : Below w.heap.size w w') : Both w' base hb db nb sb wb bb kb kc mb blk tb rv lv Lh F cv m cb ch Ll B cl :=
  ⟨H.host.kept hb'.size (fun k hk => hb'.block k hk), H.law.kept hb'.size (fun b h => hb'.block b (H.law.low b h).2), H.dis, fun b h => (H.wait b h).kept (fun j hj => hb'.block _ (ltB (H.host.hc j hj).mem.choose_spec.1))⟩
/-- The host is fed. -/
theorem Both.fedh {w w' : World} {base hb db nb sb wb bb kb kc : Nat} {mb : Option Nat} {blk : Int} {tb : Nat → Nat} {rv : Nat → Value} {lv : Value} {Lh Ll : Ld} {F : Nat → Prop} {cv : Value} {m : Nat} {cb : Nat → Nat} {ch cl : Nat → Cn} {B : Bk} (H : Both w base hb db nb sb wb bb kb kc mb blk tb rv lv Lh F cv m cb ch Ll B cl) {Lh' : Ld} {F' : Nat → Prop} {cv' : Value} {m' : Nat} {cb' : Nat → Nat} {ch' : Nat → Cn} (h1 : HostAt w' hb db nb sb mb blk Lh' F' base cv' m' cb' ch') (h2 : Keep (HG hb db F cv m cb) w w') (h3 : ∀ b, HG hb db F' cv' m' cb' b → HG hb db F cv m cb b ∨ w.heap.size ≤ b) (h4 : ∀ g, g < w.heap.size → WaitN w sb m cb ch g → WaitN w' sb m' cb' ch' g) : Both w' base hb db nb sb wb bb kb kc mb blk tb rv lv Lh' F' cv' m' cb' ch' Ll B cl ∧ Below base w w' := by
  refine ⟨⟨h1, H.law.kept h2.size (fun b h => h2.block b (H.law.low b h).2 (H.dis b h)), fun b h e => ?_, fun b h => h4 b (H.law.low b h).2 (H.wait b h)⟩, h2.below H.law.bs (fun b h => H.host.lo b h)⟩
  have := (H.law.low b h).2
  rcases h3 b e with h' | h'
  · exact H.dis b h h'
  · omega
/-- The law is fed. -/
theorem Both.fedl {w w' : World} {base hb db nb sb wb bb kb kc : Nat} {mb : Option Nat} {blk : Int} {tb : Nat → Nat} {rv : Nat → Value} {lv : Value} {Lh Ll : Ld} {F : Nat → Prop} {cv : Value} {m : Nat} {cb : Nat → Nat} {ch cl : Nat → Cn} {B : Bk} (H : Both w base hb db nb sb wb bb kb kc mb blk tb rv lv Lh F cv m cb ch Ll B cl) {Ll' : Ld} {lv' : Value} {B' : Bk} {rv' : Nat → Value} {cl' : Nat → Cn} (h1 : LawAt w' base hb wb bb kb kc blk tb rv' lv' Ll' B' cl') (h2 : Keep (LW wb bb tb lv) w w') (h3 : ∀ b, LG wb bb kb tb rv' lv' cl' b → LG wb bb kb tb rv lv cl b ∨ w.heap.size ≤ b) : Both w' base hb db nb sb wb bb kb kc mb blk tb rv' lv' Lh F cv m cb ch Ll' B' cl' ∧ Below base w w' := by
  have hw' : ∀ b, LG wb bb kb tb rv lv cl b → WaitN w' sb m cb ch b := fun b h => (H.wait b h).kept (fun j hj => h2.block _ (ltB (H.host.hc j hj).mem.choose_spec.1) (fun e => H.dis _ e.lg (Or.inr (Or.inr (Or.inr (Or.inr ⟨j, hj, rfl⟩))))))
  refine ⟨⟨H.host.keptS (fun k h => H.dis k h.lg) (fun k h => H.wait k h.lg) h2, h1, fun b h e => ?_, fun b h => ?_⟩, h2.below H.law.bs (fun b h => (H.law.low b h.lg).1)⟩
  · rcases h3 b h with h' | h'
    · exact H.dis b h' e
    · have := H.host.lt b e
      omega
  · rcases h3 b h with h' | h'
    · exact hw' b h'
    · intro j hj cw hcw e
      have h5 : w.heap[cb j]? = some (.cells #[.pointer (some ⟨sb, 0, none⟩), cw, .bool (ch j).bad] 112) := (h2.block _ (ltB (H.host.hc j hj).mem.choose_spec.1) (fun e => H.dis _ e.lg (Or.inr (Or.inr (Or.inr (Or.inr ⟨j, hj, rfl⟩)))))).symm.trans hcw
      have := (H.host.hc j hj).waits_lt h5 e
      omega
theorem pick20n (k : Int) (m i : Nat) (w : World) (hm0 : 0 < m) (hm1 : m ≤ 1000000) (h0 : -9223372036854775808 ≤ k) (h1 : k ≤ 9223372036854775807) (h : pickM k m = (i : Int)) :
    Calls Tryz.prog 24 #[.int .i64 k, .int .i64 m] w fun e w' => e = .returned (.int .i64 i) ∧ w' = w := by
  rw [← h]
  exact pick20 k m w (by omega) (by omega) h0 h1

theorem callFunc11 (vs : Array Value) (w : World) : Sem.run Tryz.prog (callFunc 14 vs) w = .ok (.enter 14 vs) w := by simp [go_sem]
theorem callFunc33 (vs : Array Value) (w : World) : Sem.run Tryz.prog (callFunc 37 vs) w = .ok (.enter 37 vs) w := by simp [go_sem]
/-- What holds behind a step. -/
def StepPost (base hb db nb sb wb bb kb kc : Nat) (mb : Option Nat) (blk : Int) (tb : Nat → Nat) (w w' : World) : Prop :=
  ∃ L' F' cv' cb' c' lv' B' rv', Both w' base hb db nb sb wb bb kb kc mb blk tb rv' lv' L' F' cv' 3 cb' c' L' B' c' ∧ Below base w w'

set_option maxRecDepth 100000 in
set_option maxHeartbeats 8000000 in
theorem feed19 (base hb db nb sb wb bb kb kc : Nat) (mb : Option Nat) (blk : Int) (tb : Nat → Nat) (rv : Nat → Value) (lv : Value) (L : Ld) (F : Nat → Prop) (cv : Value) (m : Nat) (cb : Nat → Nat) (c : Nat → Cn) (B : Bk) (p : Sp) (vq : Value) (w : World) (H : Both w base hb db nb sb wb bb kb kc mb blk tb rv lv L F cv m cb c L B c) (hm : m ≤ 3) (hq : m < 3 → ∀ i, c i = ⟨[], false⟩) (hr : RqAt w vq p.qs) (hql : p.qs.length ≤ 1000) (hqo : ∀ q ∈ p.qs, q.ok) (hraw : p.raw.size ≤ 20000) (c0 : -9223372036854775808 ≤ p.conn) (c1 : p.conn ≤ 9223372036854775807) (n0 : 0 ≤ p.now) (n1 : p.now ≤ 18446744073709551615) (u0 : -9223372036854775808 ≤ p.cut) (u1 : p.cut ≤ 9223372036854775807) :
    Calls Tryz.prog 23 #[.pointer (some ⟨wb, 0, none⟩), .agg #[.int .i64 p.kind, .int .i64 p.conn, .int .u64 p.now, vq, .string p.raw, .int .i64 p.cut, .int .i64 p.left, .int .i64 p.full, .int .i64 p.kept, .int .i64 p.part], .bool false] w fun e w' => e = .returned (.bool true) ∧ StepPost base hb db nb sb wb bb kb kc mb blk tb w w' := by
  obtain ⟨least, hw⟩ := H.law.blk
  obtain ⟨ra, rc, rfl, hrc, hrcell⟩ := hr
  obtain ⟨ql, hqe⟩ : ∃ ql, ql = p.qs.length := ⟨_, rfl⟩
  rw [← hqe] at hrc hql ⊢
  obtain ⟨V, hV⟩ : ∃ V, V = w.alloc (.cells #[.int .i64 p.kind, .int .i64 p.conn, .int .u64 p.now, .slice ra ql rc, .string p.raw, .int .i64 p.cut, .int .i64 p.left, .int .i64 p.full, .int .i64 p.kept, .int .i64 p.part] 69) := ⟨_, rfl⟩
  obtain ⟨P, hP⟩ : ∃ P, P = w.heap.size := ⟨_, rfl⟩
  have hVP : V.heap[P]? = some (.cells #[.int .i64 p.kind, .int .i64 p.conn, .int .u64 p.now, .slice ra ql rc, .string p.raw, .int .i64 p.cut, .int .i64 p.left, .int .i64 p.full, .int .i64 p.kept, .int .i64 p.part] 69) := by rw [hV, hP]; exact heapNew _ _
  have hbV : Below w.heap.size w V := by rw [hV]; exact (Below.refl _ w).alloc (Nat.le_refl _) _
  have HV := H.kept hbV
  have hVs : V.heap.size = P + 1 := by rw [hV, hP]; simp
  have hwV := (hbV.block wb (ltB hw)).trans hw
  have hbase := H.law.bs
  have hBV : Below base w V := hbV.mono hbase
  have hc32 : 0 < ql → ∃ A o, ra = some ⟨A, o, none⟩ ∧ A < V.heap.size ∧ ∀ i (h : i < p.qs.length) j, j < 13 → V.cell? ⟨A, o + i * 13 + j, none⟩ = (#[.int .u8 p.qs[i].op, .int .u8 p.qs[i].k0, .int .u8 p.qs[i].k1, .int .u8 p.qs[i].k2, .int .u8 p.qs[i].k3, .int .u8 p.qs[i].k4, .int .u8 p.qs[i].k5, .int .u8 p.qs[i].k6, .int .u8 p.qs[i].k7, .int .u8 p.qs[i].kd, .int .u64 p.qs[i].x, .int .u64 p.qs[i].y, .int .u64 p.qs[i].n] : Array Value)[j]? := fun h => by
    obtain ⟨A, o, e, hA, hc⟩ := hrcell (by omega)
    refine ⟨A, o, e, by omega, fun i hi j hj => ?_⟩
    rw [hbV.cell (p := ⟨A, o + i * 13 + j, none⟩) hA, hc i hi j hj]
    simp
  have H32 := hide (written32 ra ql rc p.qs p.raw V hqe.symm hrc hql hraw hqo hc32)
  have hi3 := pickM_ok p.conn 3 (by omega)
  obtain ⟨i, hi⟩ : ∃ i : Nat, pickM p.conn 3 = (i : Int) := ⟨(pickM p.conn 3).toNat, by omega⟩
  have hi3 : i < 3 := by omega
  have HVH := hide HV
  have HBV := hide hBV
  have HVB := hide hVP
  have HWV := hide hwV
  have HQ := hide hq
  have HPV : Hid (P = w.heap.size) := hide hP
  have HQE := hide hqe
  have HQO := hide hqo
  have a0 := cellB hwV 0
  have HGP : Hid (∀ b, HG hb db F cv m cb b → b ≠ P) := hide (fun b h => by have := H.host.lt b h; omega)
  have HLP : Hid (∀ b, LG wb bb kb tb rv lv c b → b ≠ P) := hide (fun b h => by have := (H.law.low b h).2; omega)
  clear H hrcell hc32 hbV HV hq hqe hqo hP hBV
  go_enter Tryz.func23, Tryz.ntmps23
  rw [hV] at a0
  go_wp2_with fail
  rw [← hV] at a0 ⊢
  clear hV
  rw [← HPV.out]
  refine (is17 hb sb _ _ _ V HVH.out.host.hh).mono ?_
  rintro e w1 ⟨rfl, he1⟩
  rw [he1]
  clear he1
  have a2 := cellB hVP
  clear a0
  go_wp2_with fail
  refine H32.out.mono ?_
  rintro e w1 ⟨rfl, hb1⟩
  obtain ⟨S, hS⟩ : ∃ S, S = strOfNums (encQs p.qs) ++ p.raw := ⟨_, rfl⟩
  rw [← hS]
  have hSs : S.size ≤ 47000 := by
    have e1 := encQs_len p.qs
    have e2 := HQE.out
    rw [hS, ByteArray.size_append, strOfNums_size]
    omega
  have HS := hide hS
  have hn3 := pickM_ok p.cut ((S.size : Int) + 1) (by omega)
  obtain ⟨n, hn⟩ : ∃ n : Nat, pickM p.cut ((S.size : Int) + 1) = (n : Int) := ⟨(pickM p.cut ((S.size : Int) + 1)).toNat, by omega⟩
  have hnS : n ≤ S.size := by omega
  have hpk : ∀ w, Calls Tryz.prog 24 #[.int .i64 p.cut, .int .i64 ((S.size : Int) + 1)] w fun e w' => e = .returned (.int .i64 n) ∧ w' = w := fun w => by
    rw [← hn]
    exact pick20 p.cut ((S.size : Int) + 1) w (by omega) (by omega) u0 u1
  have HPK := hide hpk
  have hbl1 := (hb1.block P (by omega)).trans hVP
  have hw1 := (hb1.block wb (ltB hwV)).trans hwV
  have H1 := HVH.out.kept hb1
  have hs1 := hb1.size
  have HB1 := hide (HBV.out.trans (hb1.mono (Nat.le_trans hbase HBV.out.size)))
  have a3 := cellB hbl1
  clear a2 hS hn hn3 hpk hb1
  go_wp2_with fail
  refine (HPK.out _).mono ?_
  rintro e w2 ⟨rfl, he2⟩
  rw [he2]
  clear he2
  go_upto_region 5 with fail
  have HH1 := hide (H1.kept (Below.refl _ w1).drew)
  have hcw := HVH.out.law.bw i hi3
  have hsz1 : (S.extract 0 n).size ≤ 47000 := by rw [ByteArray.size_extract]; omega
  obtain ⟨M1, hM1⟩ : ∃ M1, M1 = feedM L (c i) p.now (numsOf (S.extract 0 n)) := ⟨_, rfl⟩
  obtain ⟨r1, hr1⟩ : ∃ r1, r1 = strOfNums (encs M1.2.2) := ⟨_, rfl⟩
  have H11 := feed11w 0 0 hb db nb sb mb blk L F base cv m cb c p.conn p.now (S.extract 0 n) w1.drew HH1.out.host hm HH1.out.law.bs HQ.out i hi c0 c1 HVH.out.law.sim.lok n0 n1 hcw.1 (by rw [numsOf_length]; omega)
  rw [← hM1, ← hr1] at H11
  have HC11 := hide H11
  have b0 := cellB hw1 0
  have b1 := a3 1
  have b2 := a3 2
  have HBL1 := hide hbl1
  have HM1 := hide hM1
  have HR1 := hide hr1
  have HS1 : Hid (P < w1.drew.heap.size) := hide (by show P < w1.heap.size; omega)
  have hnSI : (n : Int) ≤ (S.size : Int) := by omega
  have hn0' : (0 : Int) ≤ (n : Int) := by omega
  clear H11 a3 hM1 hr1 hbl1 H1 hw1 hVP hwV
  go_cut [9, 10] (fun s9 s10 wx => s9 = .string r1 ∧ s10 = .bool false ∧ ∃ F1 cv1 cb1, Both wx base hb db nb sb wb bb kb kc mb blk tb rv lv M1.1 F1 cv1 3 cb1 (fun j => if j = i then M1.2.1 else c j) L B c ∧ Below base w1 wx ∧ wx.heap[P]? = some (.cells #[.int .i64 p.kind, .int .i64 p.conn, .int .u64 p.now, .slice ra ql rc, .string p.raw, .int .i64 p.cut, .int .i64 p.left, .int .i64 p.full, .int .i64 p.kept, .int .i64 p.part] 69) ∧ (∀ b, HG hb db F1 cv1 3 cb1 b → b ≠ P))
  case first =>
    go_region_law (refine step_fn (by rfl) 14 callFunc11 _ _ (by rfl) #[.pointer (some ⟨hb, 0, none⟩), .int .i64 p.conn, .int .u64 p.now, .string (S.extract 0 n), .int .i64 (-1), .int .i64 (-1), .int .i64 0, .int .i64 0] (by simp only [List.map_toArray, List.map_cons, List.map_nil]; rfl) HC11.out ?_; rintro e wx ⟨F1, cv1, cb1, rfl, h1, h2, h3, h4⟩; refine ⟨_, rfl, ?_⟩)
    all_goals (go_wp2_with fail; go_meet)
    all_goals (obtain ⟨g1, g2⟩ := HH1.out.fedh h1 h2 h3 h4; exact ⟨rfl, rfl, F1, cv1, cb1, g1, ⟨g2.os, g2.tape, g2.output, g2.size, g2.block⟩, (h2.block P HS1.out (fun h => HGP.out P h rfl)).trans HBL1.out, fun b h => (h3 b h).elim (HGP.out b) (fun h => by have := HS1.out; omega)⟩)
  case rest =>
    obtain ⟨rfl, rfl, F1, cv1, cb1, hB, hbel, hbx, hgp⟩ := hcut
    obtain ⟨w2, hw2e⟩ : ∃ w2, w2 = wc := ⟨_, rfl⟩
    rw [← hw2e] at hB hbel hbx ⊢
    clear hw2e b0 b1 b2
    have HH2 := hide (hB.kept (Below.refl _ w2).drew)
    obtain ⟨least2, hw2⟩ := hB.law.blk
    have b0 := cellB hbx 1
    have b1 := cellB hbx 2
    have HB2 := hide (HB1.out.trans (hbel.mono (Nat.le_refl _)))
    have HBX := hide hbx
    have HG2 := hide hgp
    have HC33 := hide (fed33_at base hb wb bb kb kc blk tb rv lv L B c p.conn p.now i (S.extract 0 n) w2.drew HH2.out.law hi hi3 c0 c1 n0 n1 (by omega) r1 (by rw [HR1.out, HM1.out]))
    have HS2 : Hid (P < w2.drew.heap.size) := hide (ltB hbx)
    clear hB hbel hbx hgp hw2
    go_upto_region 6 with fail
    go_cut [11] (fun s11 wx => s11 = .bool true ∧ ∃ lv1 B1 rv1, Both wx base hb db nb sb wb bb kb kc mb blk tb rv1 lv1 M1.1 F1 cv1 3 cb1 (fun j => if j = i then M1.2.1 else c j) M1.1 B1 (fun j => if j = i then M1.2.1 else c j) ∧ Below base w2 wx ∧ wx.heap[P]? = some (.cells #[.int .i64 p.kind, .int .i64 p.conn, .int .u64 p.now, .slice ra ql rc, .string p.raw, .int .i64 p.cut, .int .i64 p.left, .int .i64 p.full, .int .i64 p.kept, .int .i64 p.part] 69) ∧ (∀ b, LG wb bb kb tb rv1 lv1 (fun j => if j = i then M1.2.1 else c j) b → b ≠ P))
    case first =>
      go_region_law (refine step_fn (by rfl) 37 callFunc33 _ _ (by rfl) #[.pointer (some ⟨wb, 0, none⟩), .int .i64 p.conn, .int .u64 p.now, .string (S.extract 0 n), .string r1, .bool false] (by simp only [List.map_toArray, List.map_cons, List.map_nil]; rfl) HC33.out ?_; rintro e wx ⟨rfl, lv1, B1, rv1, h1, h2, h3⟩; refine ⟨_, rfl, ?_⟩)
      all_goals (go_wp2_with fail; go_meet)
      all_goals (rw [← HM1.out] at h1 h3; obtain ⟨g1, g2⟩ := HH2.out.fedl h1 h2 h3; exact ⟨rfl, lv1, B1, _, g1, ⟨g2.os, g2.tape, g2.output, g2.size, g2.block⟩, (h2.block P HS2.out (fun h => HLP.out P h.lg rfl)).trans HBX.out, fun b h => (h3 b h).elim (HLP.out b) (fun h => by have := HS2.out; omega)⟩)
    case rest =>
      obtain ⟨rfl, lv1, B1, rv1, hB, hbel, hbx, hlp⟩ := hcut
      obtain ⟨w3, hw3e⟩ : ∃ w3, w3 = wc := ⟨_, rfl⟩
      rw [← hw3e] at hB hbel hbx ⊢
      clear hw3e b0 b1
      have HH3 := hide (hB.kept (Below.refl _ w3).drew)
      obtain ⟨least3, hw3⟩ := hB.law.blk
      have HB3 := hide (HB2.out.trans (hbel.mono (Nat.le_refl _)))
      have HBX3 := hide hbx
      have HLP3 := hide hlp
      obtain ⟨d1, hd1⟩ : ∃ d1 : Nat → Cn, d1 = fun j => if j = i then M1.2.1 else c j := ⟨_, rfl⟩
      have HH3' : Hid (Both w3.drew base hb db nb sb wb bb kb kc mb blk tb rv1 lv1 M1.1 F1 cv1 3 cb1 d1 M1.1 B1 d1) := hide (by rw [hd1]; exact HH3.out)
      have HLP3' : Hid (∀ b, LG wb bb kb tb rv1 lv1 d1 b → b ≠ P) := hide (by rw [hd1]; exact hlp)
      have hcw3 := HH3'.out.law.bw i hi3
      have hsz2 : (S.extract n S.size).size ≤ 47000 := by rw [ByteArray.size_extract]; omega
      obtain ⟨M2, hM2⟩ : ∃ M2, M2 = feedM M1.1 (d1 i) p.now (numsOf (S.extract n S.size)) := ⟨_, rfl⟩
      obtain ⟨r2, hr2⟩ : ∃ r2, r2 = strOfNums (encs M2.2.2) := ⟨_, rfl⟩
      have H11 := feed11w p.kept p.part hb db nb sb mb blk M1.1 F1 base cv1 3 cb1 d1 p.conn p.now (S.extract n S.size) w3.drew HH3'.out.host (Nat.le_refl _) HH3'.out.law.bs (fun h => absurd h (by omega)) i hi c0 c1 HH3'.out.law.sim.lok n0 n1 hcw3.1 (by rw [numsOf_length]; omega)
      rw [← hM2, ← hr2] at H11
      have HC12 := hide H11
      have HM2 := hide hM2
      have HR2 := hide hr2
      have HS3 : Hid (P < w3.drew.heap.size) := hide (ltB hbx)
      have HW3 : Hid (w3.drew.heap[wb]? = _) := hide hw3
      have b0 := cellB hw3 0
      have b1 := cellB hbx 1
      have b2 := cellB hbx 2
      have b8 := cellB hbx 8
      have b9 := cellB hbx 9
      clear hB hbel hbx hlp hw3 hd1 hM2 hr2 H11 HH3 HLP3 HC11 HC33 HLP HVH HPK H32
      go_upto_region 14 with fail
      go_cut [14, 15] (fun s9 s10 wx => s9 = .string r2 ∧ s10 = .bool false ∧ ∃ F2 cv2 cb2, Both wx base hb db nb sb wb bb kb kc mb blk tb rv1 lv1 M2.1 F2 cv2 3 cb2 (fun j => if j = i then M2.2.1 else d1 j) M1.1 B1 d1 ∧ Below base w3 wx ∧ wx.heap[P]? = some (.cells #[.int .i64 p.kind, .int .i64 p.conn, .int .u64 p.now, .slice ra ql rc, .string p.raw, .int .i64 p.cut, .int .i64 p.left, .int .i64 p.full, .int .i64 p.kept, .int .i64 p.part] 69))
      case first =>
        go_region_held3 (fun w' => w'.cell? ⟨wb, 0, none⟩ = some (.pointer (some ⟨hb, 0, none⟩)) ∧ w'.cell? ⟨P, 1, none⟩ = some (.int .i64 p.conn) ∧ w'.cell? ⟨P, 2, none⟩ = some (.int .u64 p.now) ∧ w'.cell? ⟨P, 8, none⟩ = some (.int .i64 p.kept) ∧ w'.cell? ⟨P, 9, none⟩ = some (.int .i64 p.part)) (first | go_keep | (exact ⟨e0, e1, e2, e8, e9⟩)) (first | (go_at_call 14; refine HC12.out.mono ?_; rintro e wx ⟨F2, cv2, cb2, rfl, h1, h2, h3, h4⟩; have hx := (h2.block P HS3.out (fun h => HG2.out P h rfl)).trans HBX3.out; have e0 := cellB ((h2.block wb (ltB HW3.out) (HH3'.out.dis wb (Or.inl rfl))).trans HW3.out) 0; have e1 := cellB hx 1; have e2 := cellB hx 2; have e8 := cellB hx 8; have e9 := cellB hx 9))
        all_goals (go_wp2_with fail; go_meet)
        all_goals (obtain ⟨g1, g2⟩ := HH3'.out.fedh h1 h2 h3 h4; exact ⟨rfl, rfl, F2, cv2, cb2, g1, ⟨g2.os, g2.tape, g2.output, g2.size, g2.block⟩, (h2.block P HS3.out (fun h => HG2.out P h rfl)).trans HBX3.out⟩)
      case rest =>
        obtain ⟨rfl, rfl, F2, cv2, cb2, hB, hbel, hbx⟩ := hcut
        obtain ⟨w4, hw4e⟩ : ∃ w4, w4 = wc := ⟨_, rfl⟩
        rw [← hw4e] at hB hbel hbx ⊢
        clear hw4e b0 b1 b2 b8 b9
        have HH4 := hide (hB.kept (Below.refl _ w4).drew)
        have b0 := cellB hbx 1
        have b1 := cellB hbx 2
        have HBX4 : Hid (w4.drew.heap[P]? = _) := hide hbx
        have HS4 : Hid (P < w4.drew.heap.size) := hide (ltB hbx)
        have HB4 := hide (HB3.out.trans (hbel.mono (Nat.le_refl _)))
        have HC34 := hide (fed33_at base hb wb bb kb kc blk tb rv1 lv1 M1.1 B1 d1 p.conn p.now i (S.extract n S.size) w4.drew HH4.out.law hi hi3 c0 c1 n0 n1 (by omega) r2 (by rw [HR2.out, HM2.out]))
        clear hB hbel hbx HC12 HH3' HG2
        go_upto_region 15 with fail
        go_cut [11] (fun s11 wx => s11 = .bool true ∧ ∃ lv2 B2 rv2, Both wx base hb db nb sb wb bb kb kc mb blk tb rv2 lv2 M2.1 F2 cv2 3 cb2 (fun j => if j = i then M2.2.1 else d1 j) M2.1 B2 (fun j => if j = i then M2.2.1 else d1 j) ∧ Below base w4 wx)
        case first =>
          go_region_held3 (fun w' => w'.cell? ⟨P, 1, none⟩ = some (.int .i64 p.conn) ∧ w'.cell? ⟨P, 2, none⟩ = some (.int .u64 p.now)) (first | go_keep | (exact ⟨e1, e2⟩)) (first | (go_at_call 37; refine HC34.out.mono ?_; rintro e wx ⟨rfl, lv2, B2, rv2, h1, h2, h3⟩; have hx := (h2.block P HS4.out (fun h => HLP3'.out P h.lg rfl)).trans HBX4.out; have e1 := cellB hx 1; have e2 := cellB hx 2))
          all_goals (go_wp2_with fail; go_meet)
          all_goals (rw [← HM2.out] at h1 h3; obtain ⟨g1, g2⟩ := HH4.out.fedl h1 h2 h3; exact ⟨rfl, lv2, B2, _, g1, ⟨g2.os, g2.tape, g2.output, g2.size, g2.block⟩⟩)
        case rest =>
          obtain ⟨rfl, lv2, B2, rv2, hB, hbel⟩ := hcut
          obtain ⟨w5, hw5e⟩ : ∃ w5, w5 = wc := ⟨_, rfl⟩
          rw [← hw5e] at hB hbel ⊢
          clear hw5e b0 b1
          obtain ⟨least5, hw5⟩ := hB.law.blk
          obtain ⟨mv, mq, ms, hsv⟩ := hB.host.hs.mem
          have HH5 := hide hB
          have HB5 := hide (HB4.out.trans (hbel.mono (Nat.le_refl _)))
          have H34 := hide (hostadmitted34 hb sb _ _ _ _ _ _ _ _ _ _ w5 hB.host.hh hsv)
          have b0 := cellB hw5 0
          have b10 := cellB hw5 22
          clear hB hbel hw5 hsv HC34 HH4
          go_wp2_with fail
          refine H34.out.mono ?_
          rintro e w6 ⟨rfl, he6⟩
          rw [he6]
          clear he6
          go_wp2
          go_ret
          exact ⟨rfl, _, _, _, _, _, _, _, _, HH5.out, HB5.out⟩
end Go.Proofs.YtnlgndpcddngoaaGreatDoor

namespace Go.Proofs.YtnlgndpcddngoaaGreatDoor
open Go.RowKit

def rlM (sps : List Sp) (i : Nat) : Nat := ((sps[i]?).map (fun p => p.qs.length)).getD 0
def rsM (sps : List Sp) (i : Nat) : Nat := ((sps[i]?).map (fun p => p.raw.size)).getD 0
theorem rlM_at (sps : List Sp) (i : Nat) (h : i < sps.length) : rlM sps i = sps[i].qs.length := by unfold rlM; rw [List.getElem?_eq_getElem h]; rfl
theorem rsM_at (sps : List Sp) (i : Nat) (h : i < sps.length) : rsM sps i = sps[i].raw.size := by unfold rsM; rw [List.getElem?_eq_getElem h]; rfl
theorem totM_le (rl rs : Nat → Nat) : ∀ (n i : Nat), i < n → 26 * rl i + rs i ≤ totM rl rs n
  | n + 1, i, h => by
    unfold totM
    rcases Nat.lt_or_ge i n with h1 | h1
    · have := totM_le rl rs n i h1
      omega
    · have e : i = n := by omega
      subst e
      omega
/-- A step with numbers that its fields can hold. -/
structure Sp.ok (p : Sp) : Prop where
  conn : -9223372036854775808 ≤ p.conn ∧ p.conn ≤ 9223372036854775807
  now : 0 ≤ p.now ∧ p.now ≤ 18446744073709551615
  cut : -9223372036854775808 ≤ p.cut ∧ p.cut ≤ 9223372036854775807
  qs : ∀ q ∈ p.qs, q.ok

theorem sim0 : Sim ⟨0, 0, []⟩ ⟨0, []⟩ := ⟨rfl, trivial, ⟨by decide, by decide, fun p hp => (by cases hp), fun p hp => (by cases hp), List.nodup_nil, by decide⟩, ⟨by decide, by decide, fun l hl => (by cases hl)⟩⟩

/-- The law and its host, as they begin. -/
theorem both0 {w w3 w5 : World} {hb db nb sb wb bb : Nat} {mb : Option Nat} {blk : Int} {v : Value} {tb : Nat → Nat} {F0 : Nat → Prop} (H : HostAt w3 hb db nb sb mb blk ⟨0, 0, []⟩ F0 w.heap.size (.slice none 0 0) 0 (fun _ => 0) (fun _ => ⟨[], false⟩)) (hw : w.heap.size ≤ w3.heap.size) (W : World) (hbb : bb = w3.heap.size) (hwb : wb = w3.heap.size + 1) (hW : W = (w3.alloc (.cells #[.slice none 0 0, .int .u64 0] 60)).alloc (.cells #[.pointer (some ⟨hb, 0, none⟩), .pointer (some ⟨bb, 0, none⟩), .slice none 0 0, .int .u64 blk, .bool false, .bool false, .int .u8 0, .int .u8 0, .int .u8 0, .int .u8 0, .int .u8 0, .int .u8 0, .int .u8 0, .int .u8 0, .int .u8 0, .int .u8 0, .int .u64 0, .int .u64 0, .int .u64 0, .int .u64 0, .int .u64 0, .int .u64 0, .int .u64 0] 67))
    (O : OpI W wb (fun v => #[.pointer (some ⟨hb, 0, none⟩), .pointer (some ⟨bb, 0, none⟩), v, .int .u64 blk, .bool false, .bool false, .int .u8 0, .int .u8 0, .int .u8 0, .int .u8 0, .int .u8 0, .int .u8 0, .int .u8 0, .int .u8 0, .int .u8 0, .int .u8 0, .int .u64 0, .int .u64 0, .int .u64 0, .int .u64 0, .int .u64 0, .int .u64 0, .int .u64 0]) 3 v tb w5) : ∃ kb kc, Both w5 w.heap.size hb db nb sb wb bb kb kc mb blk tb (fun _ => .slice none 0 0) (.slice none 0 0) ⟨0, 0, []⟩ F0 (.slice none 0 0) 0 (fun _ => 0) (fun _ => ⟨[], false⟩) ⟨0, 0, []⟩ ⟨0, []⟩ (fun _ => ⟨[], false⟩) := by
  have hWs : W.heap.size = w3.heap.size + 2 := by rw [hW]; simp
  obtain ⟨kb, kc, hv, hk1, hk2⟩ := O.own.form (by decide)
  have hWk : ∀ b, b < w3.heap.size → w5.heap[b]? = w3.heap[b]? := fun b hb' => (O.keep.block b (by omega) (by omega)).trans (by rw [hW]; exact (heapOld _ _ (by rw [World.size_alloc]; omega)).trans (heapOld _ _ hb'))
  have hbk : w5.heap[bb]? = some (.cells #[.slice none 0 0, .int .u64 0] 60) := (O.keep.block bb (by omega) (by omega)).trans (by rw [hW, hbb]; exact (heapOld _ _ (by rw [World.size_alloc]; omega)).trans (heapNew _ _))
  have hsz := O.keep.size
  have hlt : ∀ b, HG hb db F0 (.slice none 0 0) 0 (fun _ => 0) b → b < w3.heap.size := fun b h => H.lt b h
  refine ⟨kb, kc, ⟨H.kept (by omega) hWk, ⟨⟨_, by have := O.blk; rw [hv] at this; exact this⟩, ⟨hbk, World.ownsRow_nil _ _ _ _⟩, sim0, ?_, fun i hi => (O.st i hi).1, fun i hi => Or.inl ⟨rfl, Or.inl rfl⟩, O.inj, fun i hi h => absurd rfl h, ⟨by omega, by omega, fun i hi => by have := (O.st i hi).2; omega⟩, fun i hi => ⟨fun x hx => (by cases hx), by simp, fun _ => rfl⟩, by omega⟩, fun b h e => ?_, fun b h j hj => absurd hj (Nat.not_lt_zero _)⟩⟩
  · have h := O.own
    rw [hv] at h
    refine ⟨h.1, ?_⟩
    rcases h.2 with h | ⟨g, cap, cur, e1, e2, e3⟩
    · exact Or.inl h
    · exact Or.inr ⟨g, cap, cur, e1, by omega, e3⟩
  · have := hlt b e
    rcases h with h | h | h | h | ⟨i, hi, h⟩ | ⟨i, hi, h, _⟩
    · omega
    · omega
    · omega
    · simp [Value.ownBlock] at h
    · have := (O.st i hi).2; omega
    · exact h rfl

set_option maxRecDepth 100000 in
set_option maxHeartbeats 8000000 in
theorem plays6 (ao : Option Addr) (n cap : Nat) (sps : List Sp) (blk : Int) (K : Nat) (w : World) (hn : sps.length = n) (hnc : n ≤ cap) (hn1 : n ≤ 1048576) (hql : ∀ p ∈ sps, p.qs.length ≤ 1048576 ∧ p.raw.size ≤ 1048576) (hok : ∀ p ∈ sps, p.ok) (hK : w.cell? ⟨K, 0, none⟩ = some (.int .i64 1)) (hKl : K < w.heap.size) (hblk : 0 ≤ blk ∧ blk ≤ 18446744073709551615)
    (hc : 0 < n → ∃ A o, ao = some ⟨A, o, none⟩ ∧ A < w.heap.size ∧ ∀ i (h : i < sps.length), ∃ v, (∀ x, x < 10 → w.cell? ⟨A, o + i * 10 + x, none⟩ = (stv sps[i] v)[x]?) ∧ RqAt w v sps[i].qs) :
    Calls Tryz.prog 9 #[.slice ao n cap, .int .u64 blk, .slice (some ⟨K, 0, none⟩) 1 1] w fun e w' => e = .returned (.bool true) ∧ Below w.heap.size w w' := by
  have H14 := hide (small14 ao n cap (rlM sps) (rsM sps) w hnc (by omega) (fun i hi => by rw [rlM_at sps i (by omega)]; have := (hql _ (List.getElem_mem (show i < sps.length by omega))).1; omega) (fun i hi => by rw [rsM_at sps i (by omega)]; have := (hql _ (List.getElem_mem (show i < sps.length by omega))).2; omega) (fun h => by
    obtain ⟨A, o, e, hA, hcc⟩ := hc h
    refine ⟨A, o, e, hA, fun i hi => ?_⟩
    have hil : i < sps.length := by omega
    obtain ⟨v, hv, la, lc, rfl, _⟩ := hcc i hil
    exact ⟨⟨la, lc, by rw [hv 3 (by omega), rlM_at sps i hil]; rfl⟩, sps[i].raw, by rw [hv 4 (by omega)]; rfl, (rsM_at sps i hil).symm⟩))
  have HC := hide hc
  have HN := hide hn
  have HOK := hide hok
  have HKC := hide hK
  clear hc hn hok hK hql
  go_enter Tryz.func9, Tryz.ntmps9
  go_wp2_with fail
  refine H14.out.mono ?_
  rintro e w1 ⟨⟨b, rfl, hsm⟩, hb1⟩
  have HSM := hide hsm
  have HB1 := hide hb1
  have hs1 := hb1.size
  clear hsm hb1
  cases b with
  | false =>
    go_wp2
    go_ret
    exact ⟨rfl, HB1.out⟩
  | true =>
    have hsm := HSM.out rfl
    have HST := hide hsm
    clear hsm HSM
    go_wp2_with fail
    refine (newhost15 blk _).mono ?_
    rintro e w2 ⟨nb, rfl, h1, h2, h3, h4, h5, h6⟩
    obtain ⟨hb, ehb⟩ : ∃ hb, hb = w1.heap.size + 2 := ⟨_, rfl⟩
    obtain ⟨db, edb⟩ : ∃ db, db = w1.heap.size + 1 := ⟨_, rfl⟩
    obtain ⟨mb, emb⟩ : ∃ mb, mb = w1.heap.size := ⟨_, rfl⟩
    rw [← edb, ← emb] at h2
    rw [← ehb, ← edb] at h1
    rw [← emb] at h3
    have HB2 := hide (HB1.out.trans (h6.mono hs1))
    have HSZ : Hid (w.heap.size ≤ mb ∧ mb < db ∧ db < hb ∧ hb < nb ∧ nb < w2.heap.size) := hide ⟨by omega, by omega, by omega, by omega, ltB h4⟩
    rw [← ehb]
    clear ehb edb emb h5 h6
    go_wp2_with fail
    refine (hostopen16 hb db nb mb _ _ blk _ _ w2 hblk h1 h2 h3 h4 (by have := HSZ.out; omega)).mono ?_
    rintro e w3 ⟨sb, F0, rfl, i1, i2, i4, i6, i7, i5⟩
    have hz := HSZ.out
    have HB3 : Hid (Below w.heap.size w w3) := hide (HB2.out.trans (i5.below (by omega) (fun k hk => by omega)))
    have H2 : HostAt w3 hb db nb sb (some mb) blk ⟨0, 0, []⟩ F0 w.heap.size (.slice none 0 0) 0 (fun _ => 0) (fun _ => ⟨[], false⟩) := by
      refine ⟨i2, i4.dskF, i4, fun i hi => absurd hi (Nat.not_lt_zero _), fun i j hi => absurd hi (Nat.not_lt_zero _), World.ownsRow_nil _ _ _ _, fun g hg hF => ?_, fun b hb' => ?_, fun _ _ => rfl⟩
      · rcases hg with h | h | h
        · exact i7 (h ▸ hF)
        · exact h
        · simp [Value.ownBlock] at h
      · rcases hb' with h | h | h | h | ⟨i, hi, h⟩
        · omega
        · omega
        · rcases i6 b h with h | h | h | h <;> omega
        · simp [Value.ownBlock] at h
        · omega
    have HH2 := hide H2
    clear h1 h2 h3 h4 i1 i2 i4 i5 i6 i7 H2 hz
    go_wp2_with fail
    refine (is17 hb sb _ _ _ w3 HH2.out.hh).mono ?_
    rintro e w4 ⟨rfl, he4⟩
    rw [he4]
    clear he4
    go_wp2_with fail
    obtain ⟨bb, hbb⟩ : ∃ bb, bb = w3.heap.size := ⟨_, rfl⟩
    obtain ⟨wb, hwb⟩ : ∃ wb, wb = w3.heap.size + 1 := ⟨_, rfl⟩
    obtain ⟨W, hW⟩ : ∃ W, W = (w3.alloc (.cells #[.slice none 0 0, .int .u64 0] 60)).alloc (.cells #[.pointer (some ⟨hb, 0, none⟩), .pointer (some ⟨bb, 0, none⟩), .slice none 0 0, .int .u64 blk, .bool false, .bool false, .int .u8 0, .int .u8 0, .int .u8 0, .int .u8 0, .int .u8 0, .int .u8 0, .int .u8 0, .int .u8 0, .int .u8 0, .int .u8 0, .int .u64 0, .int .u64 0, .int .u64 0, .int .u64 0, .int .u64 0, .int .u64 0, .int .u64 0] 67) := ⟨_, rfl⟩
    rw [← hwb]
    rw [← hbb]
    rw [← hW]
    have hWb : W.heap[wb]? = some (.cells #[.pointer (some ⟨hb, 0, none⟩), .pointer (some ⟨bb, 0, none⟩), .slice none 0 0, .int .u64 blk, .bool false, .bool false, .int .u8 0, .int .u8 0, .int .u8 0, .int .u8 0, .int .u8 0, .int .u8 0, .int .u8 0, .int .u8 0, .int .u8 0, .int .u8 0, .int .u64 0, .int .u64 0, .int .u64 0, .int .u64 0, .int .u64 0, .int .u64 0, .int .u64 0] 67) := by rw [hW, hwb]; exact heapN (by simp)
    refine (open18 wb _ _ _ _ _ _ _ _ _ _ _ _ _ _ _ _ _ _ _ _ _ _ _ W hWb).mono ?_
    rintro e w5 ⟨rfl, v, tb, O⟩
    have hw3 := HB3.out.size
    obtain ⟨kb, kc, HB⟩ := both0 HH2.out hw3 W hbb hwb (by rw [hW]) O
    have hB5 : Below w.heap.size w w5 := HB3.out.trans ⟨O.keep.os.trans (by rw [hW]; rfl), O.keep.tape.trans (by rw [hW]; rfl), O.keep.output.trans (by rw [hW]; rfl), by have := O.keep.size; rw [hW] at this; simp at this; omega, fun b hb' => (O.keep.block b (by rw [hW]; simp; omega) (by omega)).trans (by rw [hW]; exact (heapOld _ _ (by rw [World.size_alloc]; omega)).trans (heapOld _ _ (by omega)))⟩
    have HBO := hide HB
    have HB5 := hide hB5
    clear HB hB5 O hWb hW hbb hwb HH2
    obtain ⟨base, hbase⟩ : ∃ base, base = w.heap.size := ⟨_, rfl⟩
    rw [← hbase] at HBO HB5
    have HBE := hide hbase
    go_wp2_with fail
    go_loopw [12] (fun s12 wr => ∃ i : Nat, i ≤ n ∧ s12 = .int .i64 i ∧ ∃ L F cv m cb c lv B rv, m ≤ 3 ∧ (m < 3 → ∀ i, c i = ⟨[], false⟩) ∧ Both wr base hb db nb sb wb bb kb kc (some mb) blk tb rv lv L F cv m cb c L B c ∧ Below base w wr) (fun s12 _ => n - (intOf s12).toNat)
    case atStart => exact ⟨0, Nat.zero_le _, rfl, _, _, _, _, _, _, _, _, _, by omega, fun _ _ => rfl, HBO.out, HB5.out⟩
    case round =>
      obtain ⟨i, hin, rfl, L, F, cv, m, cb, c, lv, B, rv, hm, hq, HBr, hbr⟩ := hrel
      obtain ⟨Y, rfl⟩ : ∃ Y, Y = wr := ⟨_, rfl⟩
      have HR := hide HBr
      have HBR := hide hbr
      have hYs := hbr.size
      have HQ := hide hq
      clear HBr hbr hq
      by_cases hlt : i < n
      · have hltI : (i : Int) < (n : Int) := by omega
        have hi0 : (0 : Int) ≤ (i : Int) := by omega
        have hil : i < sps.length := by rw [HN.out]; exact hlt
        obtain ⟨A, o, rfl, hA, hcc⟩ := HC.out (by omega)
        obtain ⟨v, hcell, hrq⟩ := hcc i hil
        obtain ⟨p, hp⟩ : ∃ p, p = sps[i] := ⟨_, rfl⟩
        rw [← hp] at hcell hrq
        have hpok : p.ok := hp ▸ HOK.out _ (List.getElem_mem hil)
        have htot := totM_le (rlM sps) (rsM sps) n i hlt
        rw [rlM_at sps i hil, rsM_at sps i hil, ← hp] at htot
        have hsm := HST.out
        have hql : p.qs.length ≤ 1000 := by omega
        have hraw : p.raw.size ≤ 20000 := by omega
        obtain ⟨ra, rc, rfl, hrc, hrcell⟩ := hrq
        have hk : ∀ x, x < 10 → Y.cell? ⟨A, o + i * 10 + x, none⟩ = (stv p (.slice ra p.qs.length rc))[x]? := fun x hx => (HBR.out.cell (p := ⟨A, o + i * 10 + x, none⟩) (by show A < base; omega)).trans (hcell x hx)
        have k0 := hk 0 (by omega)
        have k1 := hk 1 (by omega)
        have k2 := hk 2 (by omega)
        have k3 := hk 3 (by omega)
        have k4 := hk 4 (by omega)
        have k5 := hk 5 (by omega)
        have k6 := hk 6 (by omega)
        have k7 := hk 7 (by omega)
        have k8 := hk 8 (by omega)
        have k9 := hk 9 (by omega)
        rw [Nat.add_zero] at k0
        have hrqY : RqAt Y (.slice ra p.qs.length rc) p.qs := ⟨ra, rc, rfl, hrc, fun h => by
          obtain ⟨A2, o2, e, hA2, h2⟩ := hrcell h
          exact ⟨A2, o2, e, by omega, fun k hk j hj => (HBR.out.cell (p := ⟨A2, o2 + k * 13 + j, none⟩) (by show A2 < base; omega)).trans (h2 k hk j hj)⟩⟩
        obtain ⟨ql, hqe⟩ : ∃ ql, ql = p.qs.length := ⟨_, rfl⟩
        rw [← hqe] at hrqY k0 k1 k2 k3 k4 k5 k6 k7 k8 k9 hql
        have HRQ := hide hrqY
        have HPK := hide hpok
        have HQE := hide hqe
        have HPE := hide hp
        have HRAW := hide hraw
        have HQL := hide hql
        clear hk hcell hrcell hcc hrqY hpok htot hsm hp hrc hqe hraw hql
        go_wp2_with fail
        obtain ⟨Q, hQ⟩ : ∃ Q, Q = Y.heap.size := ⟨_, rfl⟩
        obtain ⟨V, hV⟩ : ∃ V, V = Y.alloc (.cells #[.int .i64 p.kind, .int .i64 p.conn, .int .u64 p.now, .slice ra ql rc, .string p.raw, .int .i64 p.cut, .int .i64 p.left, .int .i64 p.full, .int .i64 p.kept, .int .i64 p.part] 69) := ⟨_, rfl⟩
        rw [← hQ, ← hV]
        have hVb : Below Y.heap.size Y V := by rw [hV]; exact (Below.refl _ Y).alloc (Nat.le_refl _) _
        have hVQ : V.heap[Q]? = some (.cells #[.int .i64 p.kind, .int .i64 p.conn, .int .u64 p.now, .slice ra ql rc, .string p.raw, .int .i64 p.cut, .int .i64 p.left, .int .i64 p.full, .int .i64 p.kept, .int .i64 p.part] 69) := by rw [hV, hQ]; exact heapNew _ _
        have hVs : V.heap.size = Q + 1 := by rw [hV, hQ]; simp
        have hKV : V.cell? ⟨K, 0, none⟩ = some (.int .i64 1) := (hVb.cell (p := ⟨K, 0, none⟩) (by show K < Y.heap.size; omega)).trans ((HBR.out.cell (p := ⟨K, 0, none⟩) (by show K < base; omega)).trans HKC.out)
        have hKQ : K < V.heap.size := by omega
        have HVB := hide hVb
        have HVQ := hide hVQ
        have HKV := hide hKV
        have HQQ := hide hQ
        clear hV hVb hVQ hKV k0 k1 k2 k3 k4 k5 k6 k7 k8 k9 hQ
        go_loopw [14, 15] (fun s14 s15 X => ∃ j : Nat, j ≤ 1 ∧ s15 = .int .i64 j ∧ s14 = .bool (decide (j = 1 ∧ p.kind = 1)) ∧ Below V.heap.size V X) (fun _ s15 _ => 1 - (intOf s15).toNat)
        case atStart => exact ⟨0, by omega, rfl, by simp, Below.refl _ _⟩
        case round =>
          obtain ⟨j, hj1, rfl, rfl, hX⟩ := hrel
          obtain ⟨X, rfl⟩ : ∃ X, X = wr := ⟨_, rfl⟩
          have hXQ := (hX.block Q (by omega)).trans HVQ.out
          have hXK : X.cell? ⟨K, 0, none⟩ = some (.int .i64 1) := (hX.cell (p := ⟨K, 0, none⟩) hKQ).trans HKV.out
          have q0 := cellB hXQ 0
          have hXs := hX.size
          have HX := hide hX
          clear hX
          by_cases hj0 : j = 0
          · subst hj0
            have e0 : decide ((0 : Nat) = 1 ∧ p.kind = 1) = false := by simp
            rw [e0]
            have HXQ := hide hXQ
            clear hXQ e0
            go_upto_region 19 with fail
            go_region
            all_goals go_wp2
            all_goals go_roundw
            all_goals first
              | exact ⟨1, by omega, by go_num, by simp; rfl, HX.out.drew⟩
              | (simp [intOf])
          · obtain rfl : j = 1 := by omega
            by_cases hkd : p.kind = 1
            · have e1 : decide ((1 : Nat) = 1 ∧ p.kind = 1) = true := by simp [hkd]
              rw [e1]
              have q1 := cellB hXQ 1
              have q2 := cellB hXQ 2
              have q3 := cellB hXQ 3
              have q4 := cellB hXQ 4
              have q5 := cellB hXQ 5
              have q6 := cellB hXQ 6
              have q7 := cellB hXQ 7
              have q8 := cellB hXQ 8
              have q9 := cellB hXQ 9
              have HYX : Hid (Below Y.heap.size Y X) := hide (HVB.out.trans (HX.out.mono (by have := HQQ.out; omega)))
              have HRX := hide (HR.out.kept HYX.out)
              have hrX : RqAt X (.slice ra ql rc) p.qs := by
                obtain ⟨a2, c2, e2, hc2, h2⟩ := HRQ.out
                refine ⟨a2, c2, e2, hc2, fun h => ?_⟩
                obtain ⟨A2, o2, e3, hA2, h3⟩ := h2 h
                exact ⟨A2, o2, e3, by have := HYX.out.size; omega, fun k hk j hj => (HYX.out.cell (p := ⟨A2, o2 + k * 13 + j, none⟩) hA2).trans (h3 k hk j hj)⟩
              have H19 := hide (feed19 base hb db nb sb wb bb kb kc (some mb) blk tb rv lv L F cv m cb c B p (.slice ra ql rc) X HRX.out hm HQ.out hrX (by have := HQL.out; have := HQE.out; omega) HPK.out.qs HRAW.out HPK.out.conn.1 HPK.out.conn.2 HPK.out.now.1 HPK.out.now.2 HPK.out.cut.1 HPK.out.cut.2)
              have HKD := hide hkd
              have hkd' : (p.kind == 1) = true := by simp [hkd]
              clear hrX hXQ e1 hkd
              go_wp2_with fail
              refine H19.out.mono ?_
              rintro e w6 ⟨rfl, hsp⟩
              have HSP := hide hsp
              clear hsp
              go_wp2
              go_roundw
              case rel =>
                obtain ⟨L', F', cv', cb', c', lv', B', rv', g1, g2⟩ := HSP.out
                exact ⟨i + 1, by omega, by go_num, L', F', cv', 3, cb', c', lv', B', rv', Nat.le_refl _, fun h => absurd h (by omega), g1, (HBR.out.trans (HYX.out.mono (by omega))).trans g2⟩
              case measure => simp [intOf]; omega
            · have e1 : decide ((1 : Nat) = 1 ∧ p.kind = 1) = false := by simp [hkd]
              rw [e1]
              have HYX : Hid (Below Y.heap.size Y X) := hide (HVB.out.trans (HX.out.mono (by have := HQQ.out; omega)))
              have HRX := hide (HR.out.kept HYX.out)
              clear hXQ e1 hkd
              go_wp2
              go_roundw
              case rel => exact ⟨i + 1, by omega, by go_num, L, F, cv, m, cb, c, lv, B, rv, hm, HQ.out, HRX.out, HBR.out.trans (HYX.out.mono (by omega))⟩
              case measure => simp [intOf]; omega
      · have hltI : ¬ (i : Int) < (n : Int) := by omega
        go_wp2
        go_ret
        exact ⟨rfl, HBE.out ▸ HBR.out⟩

end Go.Proofs.YtnlgndpcddngoaaGreatDoor

namespace Go.Proofs.YtnlgndpcddngoaaGreatDoor
open Go.RowKit

theorem RqAt.of_own {w : World} {base : Nat} {v : Value} {qs : List Rq} (h : w.ownsRow base 65 13 v qs.length (rqws qs)) : RqAt w v qs := by
  rcases h.2 with ⟨rfl, h0⟩ | ⟨g, cap, cur, hv, hb, hh, hc, _⟩
  · exact ⟨none, 0, by rw [h0], by omega, fun hp => by omega⟩
  · refine ⟨some ⟨g, 0, none⟩, cap, hv, hc, fun hp => ⟨g, 0, rfl, ltB hh, fun i hi j hj => ?_⟩⟩
    subst hv
    rw [Nat.zero_add, h.cellAt (i * 13 + j) (by omega)]
    exact rqws_get j hj qs i hi
theorem own_len {w : World} {base e sz : Nat} {v : Value} {n : Nat} {xs : List Value} (h : w.ownsRow base e sz v n xs) : ∃ a c, v = .slice a n c ∧ n ≤ c ∧ (0 < n → ∃ g, a = some ⟨g, 0, none⟩ ∧ g < w.heap.size) := by
  rcases h.2 with ⟨rfl, h0⟩ | ⟨g, cap, cur, hv, hb, hh, hc, _⟩
  · exact ⟨none, 0, by rw [h0], by omega, fun hp => by omega⟩
  · exact ⟨_, cap, hv, hc, fun _ => ⟨g, rfl, ltB hh⟩⟩
/-- A step without its snapshots. -/
def noS (p : Sp) : Sp := { p with qs := fq p.qs }
theorem noS_ok (p : Sp) (h : p.ok) : (noS p).ok := ⟨h.conn, h.now, h.cut, fun q hq => h.qs q (List.mem_filter.1 hq).1⟩
theorem stvs_own {w : World} {base a c : Nat} {sps : List Sp} {vs : List Value} {m : Nat} (hm : m ≤ sps.length) (hl : vs.length = m) (h : w.ownsRow base 69 10 (.slice (some ⟨a, 0, none⟩) m c) m (stvs (sps.take m) vs)) (i : Nat) (hi : i < m) (x : Nat) (hx : x < 10) : w.cell? ⟨a, 0 + i * 10 + x, none⟩ = (stv sps[i] vs[i])[x]? := by
  rw [Nat.zero_add, h.cellAt (i * 10 + x) (by omega), stvs_get x hx _ _ i (by rw [List.length_take]; omega) (by omega)]
  simp only [List.getElem_take]

set_option maxRecDepth 100000 in
set_option maxHeartbeats 2000000 in
theorem counted3 (ao : Option Addr) (n cap : Nat) (sps : List Sp) (blk : Int) (w : World) (hn : sps.length = n) (hnc : n ≤ cap) (hn1 : n ≤ 1048576) (hql : ∀ p ∈ sps, p.qs.length ≤ 1048576 ∧ p.raw.size ≤ 1048576) (hok : ∀ p ∈ sps, p.ok) (hblk : 0 ≤ blk ∧ blk ≤ 18446744073709551615)
    (hc : 0 < n → ∃ A o, ao = some ⟨A, o, none⟩ ∧ A < w.heap.size ∧ ∀ i (h : i < sps.length), ∃ v, (∀ x, x < 10 → w.cell? ⟨A, o + i * 10 + x, none⟩ = (stv sps[i] v)[x]?) ∧ RqAt w v sps[i].qs) :
    Calls Tryz.prog 3 #[.slice ao n cap, .int .u64 blk] w fun e w' => e = .returned (.bool true) ∧ Below w.heap.size w w' := by
  have H7 := hide (without7 ao n cap sps w hn hnc hn1 (fun p hp => (hql p hp).1) hc)
  have HQL := hide hql
  have HOK := hide hok
  have HN := hide hn
  clear hql hok hc hn
  go_enter Tryz.func3, Tryz.ntmps3
  go_wp2_with fail
  refine H7.out.mono ?_
  rintro e w1 ⟨s3, m, vs, rfl, hmn, I⟩
  obtain ⟨sa, sc, rfl, hmc, hsa⟩ := own_len I.own
  have hI := hide I
  have hsz := I.below.size
  clear I
  go_wp2_with fail
  have hmle : m ≤ sps.length := by rw [HN.out]; omega
  obtain ⟨V, hV⟩ : ∃ V, V = w1.alloc (.cells #[.int .i64 1] 3) := ⟨_, rfl⟩
  have hVb : Below w1.heap.size w1 V := by rw [hV]; exact (Below.refl _ w1).alloc (Nat.le_refl _) _
  have hVK : V.cell? ⟨w1.heap.size, 0, none⟩ = some (.int .i64 1) := by rw [hV]; exact cellB (heapNew _ _) 0
  have hVs : V.heap.size = w1.heap.size + 1 := by rw [hV]; simp
  rw [← hV]
  have hl : ((sps.take m).map noS).length = m := by rw [List.length_map, List.length_take]; omega
  have hcV : 0 < m → ∃ A o, sa = some ⟨A, o, none⟩ ∧ A < V.heap.size ∧ ∀ i (h : i < ((sps.take m).map noS).length), ∃ v, (∀ x, x < 10 → V.cell? ⟨A, o + i * 10 + x, none⟩ = (stv ((sps.take m).map noS)[i] v)[x]?) ∧ RqAt V v ((sps.take m).map noS)[i].qs := fun hp => by
    obtain ⟨g, rfl, hg⟩ := hsa hp
    refine ⟨g, 0, rfl, by omega, fun i h => ?_⟩
    have him : i < m := by omega
    have hiv : i < vs.length := by rw [hI.out.len]; exact him
    have e1 : ((sps.take m).map noS)[i] = noS sps[i] := by simp
    refine ⟨vs[i], fun x hx => ?_, ?_⟩
    · rw [hVb.cell (p := ⟨g, 0 + i * 10 + x, none⟩) hg, stvs_own hmle hI.out.len hI.out.own i him x hx, e1]
      rfl
    · rw [e1]
      have h1 := hI.out.rq i hiv (by omega)
      exact RqAt.of_own (own_keptE h1 (fun z hz => hVb.block z (own_ltE h1 hz).2))
  refine (plays6 sa m sc ((sps.take m).map noS) blk w1.heap.size V hl hmc (by omega) (fun p hp => ?_) (fun p hp => ?_) hVK (by omega) hblk hcV).mono ?_
  · obtain ⟨p0, hp0, rfl⟩ := List.mem_map.1 hp
    have := HQL.out p0 (List.mem_of_mem_take hp0)
    exact ⟨Nat.le_trans (fq_le p0.qs) this.1, this.2⟩
  · obtain ⟨p0, hp0, rfl⟩ := List.mem_map.1 hp
    exact noS_ok p0 (HOK.out p0 (List.mem_of_mem_take hp0))
  rintro e w2 ⟨rfl, hb2⟩
  go_wp2
  go_ret
  exact ⟨rfl, (hI.out.below.trans (hVb.mono hsz)).trans (hb2.mono (by omega))⟩
end Go.Proofs.YtnlgndpcddngoaaGreatDoor

namespace Go.Proofs.YtnlgndpcddngoaaGreatDoor
open Go.ChangeShapes Go.WideShapes Go.ChangeAt Go.RowKit Go.Joins

theorem bulk_one {H : Type} (d : DataW H) : 1 ≤ Rows.uptoBulk d := by
  cases d with
  | lit l => cases l <;> simp [Rows.uptoBulk]
  | nil => simp [Rows.uptoBulk]
  | ptr d => simp [Rows.uptoBulk]
  | slice a b => simp [Rows.uptoBulk]
  | agg a => simp [Rows.uptoBulk]
  | iface a b => simp [Rows.uptoBulk]
  | map a => simp [Rows.uptoBulk]
  | held a => simp [Rows.uptoBulk]
theorem bulk_mem {H : Type} {d : DataW H} : ∀ {l : List (DataW H)}, d ∈ l → Rows.uptoBulk d ≤ Rows.uptoBulkAll l
  | x :: r, h => by
    simp only [Rows.uptoBulkAll]
    rcases List.mem_cons.1 h with rfl | h
    · omega
    · have := bulk_mem h; omega
theorem bulk_len {H : Type} : ∀ (l : List (DataW H)), l.length ≤ Rows.uptoBulkAll l
  | [] => by simp
  | x :: r => by have := bulk_len r; have := bulk_one x; simp only [Rows.uptoBulkAll, List.length_cons]; omega
theorem trod_struct10 {H : Type} {enc : TypeId × Value → H} {P : Program} {w : World} {base : Nat} {spare : Nat → Bool} {held : Bool} {t : TypeId} {f0 f1 f2 f3 f4 f5 f6 f7 f8 f9 : Field} {fuel : Nat} {cs : List Value} {x : DataW H × List MemPlace} (ht : P.underlying t = some (.struct #[f0, f1, f2, f3, f4, f5, f6, f7, f8, f9])) (h : DataW.trod enc P w base spare held fuel t cs = some x) :
    ∃ y0 y1 y2 y3 y4 y5 y6 y7 y8 y9 n, x.1 = .agg [y0.1, y1.1, y2.1, y3.1, y4.1, y5.1, y6.1, y7.1, y8.1, y9.1] ∧ cs.length = P.cellsOf t ∧
      DataW.trod enc P w base spare held n f0.type ((cs.drop f0.offset).take (P.cellsOf f0.type)) = some y0 ∧ DataW.trod enc P w base spare held n f1.type ((cs.drop f1.offset).take (P.cellsOf f1.type)) = some y1 ∧
      DataW.trod enc P w base spare held n f2.type ((cs.drop f2.offset).take (P.cellsOf f2.type)) = some y2 ∧ DataW.trod enc P w base spare held n f3.type ((cs.drop f3.offset).take (P.cellsOf f3.type)) = some y3 ∧
      DataW.trod enc P w base spare held n f4.type ((cs.drop f4.offset).take (P.cellsOf f4.type)) = some y4 ∧ DataW.trod enc P w base spare held n f5.type ((cs.drop f5.offset).take (P.cellsOf f5.type)) = some y5 ∧
      DataW.trod enc P w base spare held n f6.type ((cs.drop f6.offset).take (P.cellsOf f6.type)) = some y6 ∧ DataW.trod enc P w base spare held n f7.type ((cs.drop f7.offset).take (P.cellsOf f7.type)) = some y7 ∧
      DataW.trod enc P w base spare held n f8.type ((cs.drop f8.offset).take (P.cellsOf f8.type)) = some y8 ∧ DataW.trod enc P w base spare held n f9.type ((cs.drop f9.offset).take (P.cellsOf f9.type)) = some y9 := by
  obtain ⟨xs, n, _, rfl, hl, hlen, hf⟩ := DataW.trod_struct ht h
  match xs, hlen with
  | [y0, y1, y2, y3, y4, y5, y6, y7, y8, y9], _ => exact ⟨y0, y1, y2, y3, y4, y5, y6, y7, y8, y9, n, by simp, hl, by simpa using hf 0 f0 rfl, by simpa using hf 1 f1 rfl, by simpa using hf 2 f2 rfl, by simpa using hf 3 f3 rfl, by simpa using hf 4 f4 rfl, by simpa using hf 5 f5 rfl, by simpa using hf 6 f6 rfl, by simpa using hf 7 f7 rfl, by simpa using hf 8 f8 rfl, by simpa using hf 9 f9 rfl⟩
theorem Tryz.cells62 : Tryz.prog.cellsOf 69 = 10 := by kernel_rfl
theorem Tryz.cells3' : Tryz.prog.cellsOf 3 = 1 := by kernel_rfl
theorem Tryz.cells9' : Tryz.prog.cellsOf 9 = 1 := by kernel_rfl
theorem Tryz.cells28' : Tryz.prog.cellsOf 28 = 1 := by kernel_rfl
theorem i64_of {H : Type} {enc : TypeId × Value → H} {W : World} {base n : Nat} {spare : Nat → Bool} {held : Bool} {c : Value} {x : DataW H × List MemPlace} (h : DataW.trod enc Tryz.prog W base spare held n 3 [c] = some x) : ∃ a, c = .int .i64 a ∧ -9223372036854775808 ≤ a ∧ a ≤ 9223372036854775807 := by
  obtain ⟨a, e, _, wa⟩ := DataW.trod_int Tryz.underlying3 h
  have hb := bounds_i64 wa
  simp at e
  exact ⟨a, e, hb.1, by omega⟩
theorem list10 {cs : List Value} (h : cs.length = 10) : ∃ c0 c1 c2 c3 c4 c5 c6 c7 c8 c9, cs = [c0, c1, c2, c3, c4, c5, c6, c7, c8, c9] := by
  match cs, h with
  | [c0, c1, c2, c3, c4, c5, c6, c7, c8, c9], _ => exact ⟨c0, c1, c2, c3, c4, c5, c6, c7, c8, c9, rfl⟩

set_option maxRecDepth 100000 in
/-- The requests of a step. -/
theorem reqs_of {H : Type} {enc : TypeId × Value → H} {W : World} {base fuel : Nat} {spare : Nat → Bool} {held : Bool} {c : Value} {x : DataW H × List MemPlace} (hf : DataW.trod enc Tryz.prog W base spare held fuel 28 [c] = some x) :
    ∃ qs : List Rq, RqAt W c qs ∧ (∀ q ∈ qs, q.ok) ∧ qs.length ≤ Rows.uptoBulk x.1 := by
  rcases Deep.open_slice Tryz.underlying28 hf with ⟨e, _⟩ | ⟨a', len, cap, m, n, D, Pl, e, hb, hlc, hcm, hm, hx, hel⟩
  · simp at e
    subst e
    exact ⟨[], ⟨none, 0, rfl, by simp, fun h => (by simp at h)⟩, fun q hq => (by cases hq), by simp⟩
  · simp at e
    subst e
    have hlm : len ≤ m := by rw [hm]; split <;> omega
    rw [Tryz.cells28] at hel
    have hbk : len ≤ Rows.uptoBulk x.1 := by
      rw [hx]
      simp only [Rows.uptoBulk]
      have := bulk_len ((List.range len).map D)
      simp at this
      omega
    have each : ∀ i, i < len → ∃ q : Rq, q.ok ∧ W.cells? base (a'.add (i * 13)) 13 = some (rqcl q) := by
      intro i hi
      obtain ⟨cs, h1, h2⟩ := hel i (by omega)
      obtain ⟨q, h3, rfl⟩ := req_of (World.cells?_some h1).2.1 h2
      exact ⟨q, h3.1, h1⟩
    rcases Nat.eq_zero_or_pos len with h0 | hp
    · subst h0
      exact ⟨[], ⟨some a', cap, rfl, by simp, fun h => (by simp at h)⟩, fun q hq => (by cases hq), by simp⟩
    · have hchoose : ∃ Q : Nat → Rq, ∀ i, i < len → (Q i).ok ∧ W.cells? base (a'.add (i * 13)) 13 = some (rqcl (Q i)) := by
        refine ⟨fun i => if h : i < len then (each i h).choose else Rq.zero, fun i hi => ?_⟩
        dsimp only
        rw [dif_pos hi]
        exact (each i hi).choose_spec
      obtain ⟨Q, hQ⟩ := hchoose
      have hc : ∀ i, i < len → ∀ j, j < 13 → W.cell? ((a'.add (i * 13)).add j) = (rqcl (Q i))[j]? := fun i hi j hj => (World.cells?_some (hQ i hi).2).2.2 j hj
      have hsp : a'.spot = none := by
        have := hc 0 hp 0 (by omega)
        exact World.cell?_spot (v := .int .u8 (Q 0).op) (by simpa [Addr.add] using this)
      obtain ⟨A, o, sp⟩ := a'
      simp at hsp
      subst hsp
      refine ⟨(List.range len).map Q, ⟨some ⟨A, o, none⟩, cap, by simp, by simpa using hlc, fun _ => ⟨A, o, rfl, World.cells?_block (hQ 0 hp).2 (by omega), fun i hi j hj => ?_⟩⟩, fun q hq => ?_, by simpa using hbk⟩
      · have hi' : i < len := by simpa using hi
        have := hc i hi' j hj
        rw [Deep.add_add, Addr.add_lit] at this
        rw [Nat.add_assoc, this]
        simp
      · obtain ⟨i, hi, rfl⟩ := List.mem_map.1 hq
        exact (hQ i (List.mem_range.1 hi)).1

set_option maxRecDepth 100000 in
/-- The cells of a step. -/
theorem step_of {H : Type} {enc : TypeId × Value → H} {W : World} {base fuel : Nat} {spare : Nat → Bool} {held : Bool} {cs : List Value} {x : DataW H × List MemPlace}
    (hl : cs.length = 10) (hf : DataW.trod enc Tryz.prog W base spare held fuel 69 cs = some x) : ∃ (p : Sp) (v : Value), p.ok ∧ p.qs.length ≤ Rows.uptoBulk x.1 ∧ p.raw.size ≤ Rows.uptoBulk x.1 ∧ cs = stv p v ∧ RqAt W v p.qs := by
  obtain ⟨c0, c1, c2, c3, c4, c5, c6, c7, c8, c9, rfl⟩ := list10 hl
  obtain ⟨y0, y1, y2, y3, y4, y5, y6, y7, y8, y9, n, hx, _, t0, t1, t2, t3, t4, t5, t6, t7, t8, t9⟩ := trod_struct10 Tryz.underlying69 hf
  simp only [Tryz.cells3', Tryz.cells9', Tryz.cells28', Tryz.cells24] at t0 t1 t2 t3 t4 t5 t6 t7 t8 t9
  obtain ⟨kd, rfl, _, _⟩ := i64_of (c := c0) t0
  obtain ⟨cn, rfl, cn1, cn2⟩ := i64_of (c := c1) t1
  obtain ⟨nw, rfl, nw1, nw2⟩ := u64_of (c := c2) t2
  obtain ⟨qs, hq1, hq2, hq3⟩ := reqs_of (c := c3) t3
  obtain ⟨s, hs, hy4, _⟩ := DataW.trod_string Tryz.underlying9 t4
  obtain rfl : c4 = .string s := by simpa using hs
  obtain ⟨ct, rfl, ct1, ct2⟩ := i64_of (c := c5) t5
  obtain ⟨lf, rfl, _, _⟩ := i64_of (c := c6) t6
  obtain ⟨fl, rfl, _, _⟩ := i64_of (c := c7) t7
  obtain ⟨kp, rfl, _, _⟩ := i64_of (c := c8) t8
  obtain ⟨pt, rfl, _, _⟩ := i64_of (c := c9) t9
  have b3 : Rows.uptoBulk y3.1 ≤ Rows.uptoBulk x.1 := by
    rw [hx]
    simp only [Rows.uptoBulk]
    have := bulk_mem (d := y3.1) (l := [y0.1, y1.1, y2.1, y3.1, y4.1, y5.1, y6.1, y7.1, y8.1, y9.1]) (by simp)
    omega
  have b4 : Rows.uptoBulk y4.1 ≤ Rows.uptoBulk x.1 := by
    rw [hx]
    simp only [Rows.uptoBulk]
    have := bulk_mem (d := y4.1) (l := [y0.1, y1.1, y2.1, y3.1, y4.1, y5.1, y6.1, y7.1, y8.1, y9.1]) (by simp)
    omega
  have b5 : s.size + 1 = Rows.uptoBulk y4.1 := by rw [hy4, Rows.uptoBulk, Array.length_toList]; rfl
  exact ⟨⟨kd, cn, nw, qs, s, ct, lf, fl, kp, pt⟩, c3, ⟨⟨cn1, cn2⟩, ⟨nw1, nw2⟩, ⟨ct1, ct2⟩, hq2⟩, Nat.le_trans hq3 b3, by show s.size ≤ _; omega, rfl, hq1⟩

set_option maxRecDepth 100000 in
/-- A script that comes in. -/
theorem open_steps {H : Type} {enc : TypeId × Value → H} {W : World} {r : Reach} {b0 base : Nat} {spare : Nat → Bool} {held : Bool} {v : Value} {d : DataW H} {pl : List MemPlace}
    (hv : Value.okWide Tryz.prog W r b0 22 v) (h : DataW.Trod enc Tryz.prog W base spare held 22 v d pl) : ∃ ao n cap, v = .slice ao n cap ∧ n ≤ cap ∧ n ≤ Rows.uptoBulk d ∧ ∃ sps : List Sp, sps.length = n ∧ (∀ p ∈ sps, p.ok ∧ p.qs.length ≤ Rows.uptoBulk d ∧ p.raw.size ≤ Rows.uptoBulk d) ∧
      (0 < n → ∃ A o, ao = some ⟨A, o, none⟩ ∧ A < W.heap.size ∧ ∀ i (h : i < sps.length), ∃ v, (∀ x, x < 10 → W.cell? ⟨A, o + i * 10 + x, none⟩ = (stv sps[i] v)[x]?) ∧ RqAt W v sps[i].qs) := by
  obtain ⟨a, len, cap, rfl⟩ := okWide_slice Tryz.underlying22 hv
  obtain ⟨fuel, hf⟩ := h
  have hf' : DataW.trod enc Tryz.prog W base spare held fuel 22 [.slice a len cap] = some (d, pl) := by simpa [Value.cells] using hf
  rcases Deep.open_slice Tryz.underlying22 hf' with ⟨e, _⟩ | ⟨a', len', cap', m, n, D, Pl, e, hb, hlc, hcm, hm, hx, hel⟩
  · simp at e
    obtain ⟨rfl, rfl, rfl⟩ := e
    exact ⟨none, 0, 0, rfl, by omega, by omega, [], rfl, fun p hp => (by cases hp), fun h => (by omega)⟩
  · simp at e
    obtain ⟨rfl, rfl, rfl⟩ := e
    have hlm : len ≤ m := by rw [hm]; split <;> omega
    rw [Tryz.cells62] at hel
    have hd : d = .slice ((List.range len).map D) ((List.range (m - len)).map fun j => D (len + j)) := congrArg Prod.fst hx
    have hbk : len ≤ Rows.uptoBulk d := by
      rw [hd]
      simp only [Rows.uptoBulk]
      have := bulk_len ((List.range len).map D)
      simp at this
      omega
    have hbi : ∀ i, i < len → Rows.uptoBulk (D i) ≤ Rows.uptoBulk d := fun i hi => by
      rw [hd]
      simp only [Rows.uptoBulk]
      have := bulk_mem (d := D i) (l := (List.range len).map D) (List.mem_map.2 ⟨i, List.mem_range.2 hi, rfl⟩)
      omega
    have each : ∀ i, i < len → ∃ pv : Sp × Value, (pv.1.ok ∧ pv.1.qs.length ≤ Rows.uptoBulk d ∧ pv.1.raw.size ≤ Rows.uptoBulk d) ∧ RqAt W pv.2 pv.1.qs ∧ W.cells? base (a'.add (i * 10)) 10 = some (stv pv.1 pv.2) := by
      intro i hi
      obtain ⟨cs, h1, h2⟩ := hel i (by omega)
      obtain ⟨p, v, h3, h4, h5, rfl, h6⟩ := step_of (World.cells?_some h1).2.1 h2
      have := hbi i hi
      exact ⟨(p, v), ⟨h3, Nat.le_trans h4 this, Nat.le_trans h5 this⟩, h6, h1⟩
    refine ⟨some a', len, cap, rfl, hlc, hbk, ?_⟩
    have hchoose : ∃ Q : Nat → Sp × Value, ∀ i, i < len → ((Q i).1.ok ∧ (Q i).1.qs.length ≤ Rows.uptoBulk d ∧ (Q i).1.raw.size ≤ Rows.uptoBulk d) ∧ RqAt W (Q i).2 (Q i).1.qs ∧ W.cells? base (a'.add (i * 10)) 10 = some (stv (Q i).1 (Q i).2) := by
      refine ⟨fun i => if h : i < len then (each i h).choose else (⟨0, 0, 0, [], ByteArray.empty, 0, 0, 0, 0, 0⟩, .slice none 0 0), fun i hi => ?_⟩
      dsimp only
      rw [dif_pos hi]
      exact (each i hi).choose_spec
    obtain ⟨Q, hQ⟩ := hchoose
    refine ⟨(List.range len).map (fun i => (Q i).1), by simp, fun p hp => ?_, fun hp => ?_⟩
    · obtain ⟨i, hi, rfl⟩ := List.mem_map.1 hp
      exact (hQ i (List.mem_range.1 hi)).1
    · have hc : ∀ i, i < len → ∀ j, j < 10 → W.cell? ((a'.add (i * 10)).add j) = (stv (Q i).1 (Q i).2)[j]? := fun i hi j hj => (World.cells?_some (hQ i hi).2.2).2.2 j hj
      have hsp : a'.spot = none := by
        have := hc 0 hp 0 (by omega)
        exact World.cell?_spot (v := .int .i64 (Q 0).1.kind) (by simpa [Addr.add] using this)
      obtain ⟨A, o, sp⟩ := a'
      simp at hsp
      subst hsp
      refine ⟨A, o, rfl, World.cells?_block (hQ 0 hp).2.2 (by omega), fun i hi => ?_⟩
      have hi' : i < len := by simpa using hi
      refine ⟨(Q i).2, fun x hx => ?_, ?_⟩
      · have := hc i hi' x hx
        rw [Deep.add_add, Addr.add_lit] at this
        rw [Nat.add_assoc, this]
        simp
      · have := (hQ i hi').2.1
        simpa using this
end Go.Proofs.YtnlgndpcddngoaaGreatDoor
