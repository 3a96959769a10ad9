import Derived.Test.YtlamgpeiolfffaaGreatDoorZz19
import Derived.Deep.AppendLies
import Derived.Laws.StructEq
namespace Go.Proofs.YtlamgpeiolfffaaGreatDoor
open Go.RowKit

theorem idx_none {T : Int} (k : Ky) : ∀ {ks : List (Ky × Qt)} {ls : List Ln}, Lines T ks ls → idx k ls = none → fnd k ks = none
  | [], [], _, _ => rfl
  | (k', z) :: r, l :: s, h, hi => by
    unfold idx at hi
    split at hi
    · simp at hi
    · rename_i hne
      unfold fnd
      rw [if_neg (by rw [h.1]; exact hne)]
      exact idx_none k h.2.2 (by simpa using hi)
  | [], _ :: _, h, _ => h.elim
  | _ :: _, [], h, _ => h.elim
structure Found (T : Int) (k : Ky) (ks : List (Ky × Qt)) (ls : List Ln) (i : Nat) (z : Qt) (l : Ln) : Prop where
  f : fnd k ks = some z
  g : ls[i]? = some l
  hk : l.k = k
  rel : LineRel T z l
  set : ∀ z' l', LineRel T z' l' → l'.k = k → Lines T (upd k z' ks) (ls.set i l')
  del : Lines T (del k ks) (ls.eraseIdx i)
theorem idx_some {T : Int} (k : Ky) : ∀ {ks : List (Ky × Qt)} {ls : List Ln} {i : Nat}, Lines T ks ls → idx k ls = some i → ∃ z l, Found T k ks ls i z l
  | [], [], _, _, hi => by simp [idx] at hi
  | (k', z) :: r, l :: s, i, h, hi => by
    unfold idx at hi
    split at hi
    · rename_i he
      injection hi with hi
      subst hi
      have hk : k' = k := h.1.trans he
      refine ⟨z, l, by unfold fnd; rw [if_pos hk], rfl, he, h.2.1, fun z' l' hr hl => ?_, ?_⟩
      · unfold upd
        rw [if_pos hk]
        exact ⟨by rw [hk, hl], hr, h.2.2⟩
      · unfold Go.Proofs.YtlamgpeiolfffaaGreatDoor.del
        rw [if_pos hk]
        exact h.2.2
    · rename_i hne
      have hk : ¬ k' = k := by rw [h.1]; exact hne
      obtain ⟨j, hj, rfl⟩ := Option.map_eq_some_iff.1 hi
      obtain ⟨z', l', F⟩ := idx_some k h.2.2 hj
      refine ⟨z', l', by unfold fnd; rw [if_neg hk]; exact F.f, F.g, F.hk, F.rel, fun z2 l2 hr hl => ?_, ?_⟩
      · unfold upd
        rw [if_neg hk]
        exact ⟨h.1, h.2.1, F.set z2 l2 hr hl⟩
      · unfold Go.Proofs.YtlamgpeiolfffaaGreatDoor.del
        rw [if_neg hk]
        exact ⟨h.1, h.2.1, F.del⟩
  | [], _ :: _, _, h, _ => h.elim
  | _ :: _, [], _, h, _ => h.elim
theorem Lines.app {T : Int} {z : Qt} {l : Ln} (hr : LineRel T z l) : ∀ {ks : List (Ky × Qt)} {ls : List Ln}, Lines T ks ls → Lines T (ks ++ [(l.k, z)]) (ls ++ [l])
  | [], [], _ => ⟨rfl, hr, trivial⟩
  | (_, _) :: _, _ :: _, h => ⟨h.1, h.2.1, Lines.app hr h.2.2⟩
  | [], _ :: _, h => h.elim
  | _ :: _, [], h => h.elim

theorem set_same {ls : List Ln} {i : Nat} {l : Ln} (h : ls[i]? = some l) : ls.set i l = ls := by
  obtain ⟨hi, rfl⟩ := List.getElem?_eq_some_iff.1 h
  exact List.set_getElem_self hi
/-- The ledger's reply is the document's, whatever is asked (P8 to P11). -/
theorem ask_sim (L : Ld) (B : Bk) (q : Rq) (hL : L.ok) (hq : q.ok) (ht : L.time = B.time) (hl : Lines B.time L.ks B.ls) (h5 : q.op ∈ [1, 2, 3, 4, 5, 6]) :
    (doM L q).2 = (askM B q).2 ∧ (askM B q).1.time = B.time ∧ Lines B.time (doM L q).1.ks (askM B q).1.ls := by
  have hT := hL.time
  have hlen := hl.len
  have h12 := hL.len
  unfold doM askM
  by_cases o1 : q.op = 1
  · rw [if_pos o1, if_pos o1]
    by_cases hs : soundM q.kd q.x q.y
    · have hs' : ¬ ¬ soundM q.kd q.x q.y := fun h => h hs
      rw [if_neg hs', if_neg hs']
      cases hi : idx q.key B.ls with
      | none =>
        rw [idx_none q.key hl hi]
        simp only [Option.isSome_none, Bool.false_eq_true, if_false]
        by_cases hf : 12 ≤ L.ks.length
        · rw [if_pos hf, if_pos (by omega)]
          exact ⟨rfl, rfl, hl⟩
        · rw [if_neg hf, if_neg (by omega)]
          refine ⟨rfl, rfl, ?_⟩
          refine Lines.app (l := ⟨q.key, q.kd, q.x, q.y, 0, 0⟩) ⟨rfl, rfl, rfl, fun _ => ⟨rfl, rfl⟩, fun _ => ⟨Or.inl ⟨rfl, rfl⟩, ?_⟩⟩ hl
          show 0 ≤ B.time / q.y
          have := hq.y
          exact Int.ediv_nonneg (by omega) (by omega)
      | some i =>
        obtain ⟨z, l, F⟩ := idx_some q.key hl hi
        rw [F.f]
        simp only [Option.isSome_some, if_true]
        exact ⟨trivial, trivial, hl⟩
    · rw [if_pos hs, if_pos hs]
      exact ⟨rfl, rfl, hl⟩
  · rw [if_neg o1, if_neg o1]
    by_cases o5 : q.op = 5
    · rw [if_neg (by omega), if_neg (by omega), if_neg (by omega), if_neg (by omega), if_pos o5]
      exact ⟨rfl, rfl, hl⟩
    · rw [if_neg o5]
      by_cases o6 : q.op = 6
      · rw [if_neg (by omega), if_neg (by omega), if_neg (by omega), if_pos o6, if_pos o6, ht]
        exact ⟨rfl, rfl, hl⟩
      · rw [if_neg o6, if_neg o6]
        have h234 : q.op = 2 ∨ q.op = 3 ∨ q.op = 4 := by simp at h5; omega
        cases hi : idx q.key B.ls with
        | none =>
          have hf := idx_none q.key hl hi
          dsimp only
          rcases h234 with h | h | h
          · rw [if_pos h, hf]; exact ⟨rfl, rfl, hl⟩
          · rw [if_neg (by omega), if_pos h, hf]; exact ⟨rfl, rfl, hl⟩
          · rw [if_neg (by omega), if_neg (by omega), if_pos h, hf]; exact ⟨rfl, rfl, hl⟩
        | some i =>
          obtain ⟨z, l, F⟩ := idx_some q.key hl hi
          have hgd : B.ls.getD i ⟨q.key, 0, 0, 0, 0, 0⟩ = l := by simp [List.getD, F.g]
          have hz := hL.qt _ (fnd_mem F.f)
          dsimp only
          rw [hgd]
          rcases h234 with h | h | h
          · rw [if_pos h, if_neg (by omega), if_neg (by omega), F.f, ht]
            obtain ⟨a1, a2⟩ := adm_sim B.time q.n z l F.rel hz (by omega) (by omega) hq.n.1
            dsimp only
            unfold admitM
            by_cases hok : (lnAdm B.time l q.n).2.1 = true
            · rw [if_pos hok] at a1 ⊢
              by_cases hn : 0 < q.n
              · rw [if_pos hn]
                rw [if_pos ⟨hok, hn⟩] at a2
                exact ⟨a1, rfl, F.set _ _ a2 F.hk⟩
              · rw [if_neg hn]
                rw [if_neg (fun h => hn h.2)] at a2
                refine ⟨a1, rfl, ?_⟩
                have := F.set _ l a2 F.hk
                rwa [set_same F.g] at this
            · rw [if_neg hok] at a1 ⊢
              rw [if_neg (fun h => hok h.1)] at a2
              refine ⟨a1, rfl, ?_⟩
              have := F.set _ l a2 F.hk
              rwa [set_same F.g] at this
          · rw [if_neg (by omega), if_pos h, if_pos h, F.f, ht]
            have := stands_sim B.time z l F.rel
            dsimp only
            rw [← this]
            exact ⟨rfl, rfl, hl⟩
          · rw [if_neg (by omega), if_neg (by omega), if_pos h, if_neg (by omega), if_pos h, F.f]
            exact ⟨rfl, rfl, F.del⟩
end Go.Proofs.YtlamgpeiolfffaaGreatDoor

namespace Go.Proofs.YtlamgpeiolfffaaGreatDoor
open Go.RowKit

set_option maxRecDepth 100000 in
theorem plus128 (a b : Int) (w : World) (ha : 0 ≤ a ∧ a ≤ 18446744073709551615) (hb : 0 ≤ b ∧ b ≤ 18446744073709551615) :
    Calls Tryz.prog 128 #[.int .u64 a, .int .u64 b] w fun e w' => e = .returned (.tuple #[.int .u64 (orNever (a + b)), .bool (decide (a + b ≤ 18446744073709551615))]) ∧ w' = w := by
  have e1 : IntKind.u64.wrap (18446744073709551615 - b) = 18446744073709551615 - b := by rw [IntKind.wrap_u64]; omega
  by_cases h : a + b ≤ 18446744073709551615
  · have e2 : IntKind.u64.wrap (a + b) = a + b := by rw [IntKind.wrap_u64]; omega
    have e3 : ¬ 18446744073709551615 - b < a := by omega
    have e4 : orNever (a + b) = a + b := by unfold orNever; rw [if_pos h]
    have e5 : decide (a + b ≤ 18446744073709551615) = true := by simpa using h
    rw [e4, e5]
    clear e4 e5 h
    go_enter Tryz.func128, Tryz.ntmps128
    go_wp2
    go_ret2
    exact ⟨rfl, rfl⟩
  · have e3 : 18446744073709551615 - b < a := by omega
    have e4 : orNever (a + b) = 18446744073709551615 := by unfold orNever; rw [if_neg h]
    have e5 : decide (a + b ≤ 18446744073709551615) = false := by simpa using h
    rw [e4, e5]
    clear e4 e5 h
    go_enter Tryz.func128, Tryz.ntmps128
    go_wp2
    go_ret2
    exact ⟨rfl, rfl⟩
set_option maxRecDepth 100000 in
theorem times127 (a b : Int) (w : World) (ha : 0 ≤ a ∧ a ≤ 18446744073709551615) (hb : 0 ≤ b ∧ b ≤ 18446744073709551615) :
    Calls Tryz.prog 127 #[.int .u64 a, .int .u64 b] w fun e w' => e = .returned (.tuple #[.int .u64 (orNever (a * b)), .bool (decide (a * b ≤ 18446744073709551615))]) ∧ w' = w := by
  have hp : 0 ≤ a * b := Int.mul_nonneg ha.1 hb.1
  by_cases h0 : a = 0
  · subst h0
    have e4 : orNever (0 * b) = 0 := by unfold orNever; simp
    have e5 : decide (0 * b ≤ 18446744073709551615) = true := by simp
    rw [e4, e5]
    clear e4 e5 hp
    go_enter Tryz.func127, Tryz.ntmps127
    go_wp2
    go_ret2
    exact ⟨rfl, rfl⟩
  · have hd : (18446744073709551615 : Int).tdiv a = 18446744073709551615 / a := Int.tdiv_eq_ediv_of_nonneg (by omega)
    have hd2 : 0 ≤ (18446744073709551615 : Int) / a := Int.ediv_nonneg (by omega) ha.1
    have hd3 : (18446744073709551615 : Int) / a ≤ 18446744073709551615 := Int.ediv_le_self _ (by omega)
    have hdw : IntKind.u64.wrap (18446744073709551615 / a) = 18446744073709551615 / a := by rw [IntKind.wrap_u64]; omega
    have hiff : a * b ≤ 18446744073709551615 ↔ b ≤ 18446744073709551615 / a := by
      rw [Int.le_ediv_iff_mul_le (by omega), Int.mul_comm]
    by_cases h : a * b ≤ 18446744073709551615
    · have e2 : IntKind.u64.wrap (a * b) = a * b := by rw [IntKind.wrap_u64]; omega
      have e3 : ¬ 18446744073709551615 / a < b := by have := hiff.1 h; omega
      have e4 : orNever (a * b) = a * b := by unfold orNever; rw [if_pos h]
      have e5 : decide (a * b ≤ 18446744073709551615) = true := by simpa using h
      rw [e4, e5]
      clear e4 e5 h hiff hd2 hd3 hp
      go_enter Tryz.func127, Tryz.ntmps127
      go_wp2
      go_ret2
      exact ⟨rfl, rfl⟩
    · have e3 : 18446744073709551615 / a < b := by
        rcases Int.lt_or_le (18446744073709551615 / a) b with h' | h'
        · exact h'
        · exact absurd (hiff.2 h') h
      have e4 : orNever (a * b) = 18446744073709551615 := by unfold orNever; rw [if_neg h]
      have e5 : decide (a * b ≤ 18446744073709551615) = false := by simpa using h
      rw [e4, e5]
      clear e4 e5 h hiff hd2 hd3 hp
      go_enter Tryz.func127, Tryz.ntmps127
      go_wp2
      go_ret2
      exact ⟨rfl, rfl⟩

def lnc (l : Ln) : List Value := [.int .u8 l.k.k0, .int .u8 l.k.k1, .int .u8 l.k.k2, .int .u8 l.k.k3, .int .u8 l.k.k4, .int .u8 l.k.k5, .int .u8 l.k.k6, .int .u8 l.k.k7, .int .u8 l.kd, .int .u64 l.x, .int .u64 l.y, .int .u64 l.at_, .int .u64 l.in_]
def lncs (ls : List Ln) : List Value := ls.flatMap lnc
theorem lncs_get (j : Nat) (hj : j < 13) : ∀ (ls : List Ln) (i : Nat) (h : i < ls.length), (lncs ls)[i * 13 + j]? = (lnc ls[i])[j]? := by
  intro l
  induction l with
  | nil => intro i h; simp at h
  | cons q r ih =>
    intro i h
    unfold lncs
    rw [List.flatMap_cons]
    cases i with
    | zero =>
      rw [Nat.zero_mul, Nat.zero_add, List.getElem?_append_left (by simpa [lnc] using hj)]
      rfl
    | succ i =>
      rw [List.getElem?_append_right (by simp [lnc]; omega)]
      have e : (i + 1) * 13 + j - (lnc q).length = i * 13 + j := by simp [lnc]; omega
      rw [e]
      exact ih i (by simpa using h)
theorem lncs_len (ls : List Ln) : (lncs ls).length = ls.length * 13 := by
  unfold lncs
  induction ls with
  | nil => rfl
  | cons q r ih => rw [List.flatMap_cons, List.length_append, ih]; simp [lnc]; omega

/-- The document's book in memory. -/
structure BookAt (w : World) (bb : Nat) (base : Nat) (lv : Value) (B : Bk) : Prop where
  hb : w.heap[bb]? = some (.cells #[lv, .int .u64 B.time] 53)
  ho : w.ownsRow base 139 13 lv B.ls.length (lncs B.ls)
theorem BookAt.cells {w : World} {bb base g cap : Nat} {B : Bk} {n : Nat} (h : BookAt w bb base (.slice (some ⟨g, 0, none⟩) n cap) B) (i : Nat) (hi : i < B.ls.length) (j : Nat) (hj : j < 13) : w.cell? ⟨g, i * 13 + j, none⟩ = (lnc B.ls[i])[j]? := by
  obtain ⟨a, c, e⟩ := own_sliceE h.ho
  injection e with e1 e2 e3
  have ho := h.ho
  rw [e2] at ho
  rw [ho.cellAt (i * 13 + j) (by omega), lncs_get j hj B.ls i hi]
end Go.Proofs.YtlamgpeiolfffaaGreatDoor

namespace Go.Proofs.YtlamgpeiolfffaaGreatDoor
open Go.RowKit

def idxI (k : Ky) (ls : List Ln) : Int := match idx k ls with | none => -1 | some i => i
theorem idx_lt {k : Ky} : ∀ {ls : List Ln} {i : Nat}, idx k ls = some i → i < ls.length
  | [], _, h => by simp [idx] at h
  | l :: r, i, h => by
    unfold idx at h
    split at h
    · injection h with h; subst h; simp
    · obtain ⟨j, hj, rfl⟩ := Option.map_eq_some_iff.1 h
      have := idx_lt hj
      simp only [List.length_cons]; omega
/-- Up to here the key is not there. -/
theorem idx_drop {k : Ky} : ∀ (ls : List Ln) (i : Nat), (∀ j (h : j < ls.length), j < i → ls[j].k ≠ k) → (h : i < ls.length) → (ls[i].k = k → idx k ls = some i)
  | [], i, _, h, _ => by simp at h
  | l :: r, i, hn, h, he => by
    unfold idx
    cases i with
    | zero => rw [if_pos (by simpa using he)]
    | succ i =>
      rw [if_neg (by have := hn 0 (by simp) (by omega); simpa using this)]
      rw [idx_drop r i (fun j hj hji => by have := hn (j + 1) (by simp; omega) (by omega); simpa using this) (by simpa using h) (by simpa using he)]
      rfl
theorem idx_no {k : Ky} : ∀ (ls : List Ln), (∀ j (h : j < ls.length), ls[j].k ≠ k) → idx k ls = none
  | [], _ => rfl
  | l :: r, hn => by
    unfold idx
    rw [if_neg (by have := hn 0 (by simp); simpa using this), idx_no r (fun j hj => by have := hn (j + 1) (by simp; omega); simpa using this)]
    rfl

set_option maxRecDepth 100000 in
/-- '==' of two keys. -/
theorem key_cmp (a b : Ky) (w : World) : (Op.equalIn 10000 56 (.agg #[.int .u8 a.k0, .int .u8 a.k1, .int .u8 a.k2, .int .u8 a.k3, .int .u8 a.k4, .int .u8 a.k5, .int .u8 a.k6, .int .u8 a.k7]) (.agg #[.int .u8 b.k0, .int .u8 b.k1, .int .u8 b.k2, .int .u8 b.k3, .int .u8 b.k4, .int .u8 b.k5, .int .u8 b.k6, .int .u8 b.k7])).run Tryz.prog w = .ok (decide (a = b)) w := by
  have u5 := Tryz.underlying5
  have a5 := Tryz.isAgg5
  have z5 := Tryz.sizeOf5
  obtain ⟨a0, a1, a2, a3, a4, a5', a6, a7⟩ := a
  obtain ⟨b0, b1, b2, b3, b4, b5, b6, b7⟩ := b
  rw [show (10000 : Nat) = 9999 + 1 from rfl, Op.equalIn]
  simp only [Sem.run_bind, run_underlying Tryz.underlying56, Result.andThen_ok]
  simp only [Std.Legacy.Range.forIn_eq_forIn_range', Std.Legacy.Range.size, Nat.sub_zero, Nat.add_sub_cancel, Nat.div_one, List.range'_succ, List.range'_zero, List.forIn_cons, List.forIn_nil]
  go_simp
  repeat' split
  all_goals simp_all
set_option maxRecDepth 100000 in
set_option maxHeartbeats 2000000 in
theorem find84 (bb base : Nat) (lv : Value) (B : Bk) (k : Ky) (w : World) (h : BookAt w bb base lv B) (hl : B.ls.length ≤ 12) :
    Calls Tryz.prog 84 #[.pointer (some ⟨bb, 0, none⟩), .agg #[.int .u8 k.k0, .int .u8 k.k1, .int .u8 k.k2, .int .u8 k.k3, .int .u8 k.k4, .int .u8 k.k5, .int .u8 k.k6, .int .u8 k.k7]] w fun e w' => e = .returned (.int .i64 (idxI k B.ls)) ∧ Below w.heap.size w w' := by
  obtain ⟨a, c, rfl⟩ := own_sliceE h.ho
  have a1 := cellB h.hb
  have HB := hide h
  have HL := hide hl
  have hl' : (B.ls.length : Int) ≤ 12 := by omega
  clear h hl
  obtain ⟨W0, hW0⟩ : ∃ W0, W0 = w.alloc (.cells #[.int .u8 k.k0, .int .u8 k.k1, .int .u8 k.k2, .int .u8 k.k3, .int .u8 k.k4, .int .u8 k.k5, .int .u8 k.k6, .int .u8 k.k7] 56) := ⟨_, rfl⟩
  have hbx : W0.heap[w.heap.size]? = some (.cells #[.int .u8 k.k0, .int .u8 k.k1, .int .u8 k.k2, .int .u8 k.k3, .int .u8 k.k4, .int .u8 k.k5, .int .u8 k.k6, .int .u8 k.k7] 56) := hW0 ▸ heapNew _ _
  have hB0 : Below w.heap.size w W0 := hW0 ▸ (Below.refl _ w).alloc (Nat.le_refl _) _
  have hW0s := hB0.size
  go_enter Tryz.func84, Tryz.ntmps84
  go_wp2
  rw [← hW0]
  go_loopw [5] (fun s5 wr => ∃ i : Nat, i ≤ B.ls.length ∧ s5 = .int .i64 i ∧ (∀ j (h : j < B.ls.length), j < i → B.ls[j].k ≠ k) ∧ Below W0.heap.size W0 wr) (fun s5 _ => B.ls.length - (intOf s5).toNat)
  case atStart => exact ⟨0, Nat.zero_le _, rfl, fun j _ h => absurd h (Nat.not_lt_zero _), Below.refl _ _⟩
  case round =>
    obtain ⟨i, hi, rfl, hne, hbr⟩ := hrel
    have hbw : Below w.heap.size w wr := hB0.trans (hbr.mono hW0s)
    have b1 := (hbw.block bb (ltB HB.out.hb)).trans HB.out.hb
    have b2 := (hbr.block _ (ltB hbx)).trans hbx
    have c1 := cellB b1
    by_cases hlt : i < B.ls.length
    · obtain ⟨g, gc, hv, _, hgl⟩ := HB.out.ho.form (by omega)
      injection hv with e1 _ e2
      subst e1 e2
      obtain ⟨l, hle⟩ : ∃ l, l = B.ls[i] := ⟨_, rfl⟩
      have cc : ∀ j, j < 13 → wr.cell? ⟨g, i * 13 + j, none⟩ = (lnc l)[j]? := fun j hj => (hbw.cell (p := ⟨g, i * 13 + j, none⟩) hgl).trans (by rw [hle]; exact HB.out.cells i hlt j hj)
      have d0 := cc 0 (by omega)
      have d1 := cc 1 (by omega)
      have d2 := cc 2 (by omega)
      have d3 := cc 3 (by omega)
      have d4 := cc 4 (by omega)
      have d5 := cc 5 (by omega)
      have d6 := cc 6 (by omega)
      have d7 := cc 7 (by omega)
      rw [Nat.add_zero] at d0
      simp only [lnc, List.getElem?_cons_zero, List.getElem?_cons_succ] at d0 d1 d2 d3 d4 d5 d6 d7
      have x0 := cellB b2
      have hlt' : (i : Int) < (B.ls.length : Int) := by omega
      have HNE := hide hne
      have HLE := hide hle
      have HBW := hide hbw
      have HBR := hide hbr
      clear hne hle hbw hbr cc a1
      have hkc := key_cmp l.k k
      by_cases hk : l.k = k
      · rw [decide_eq_true hk] at hkc
        have HK := hide hk
        clear hk
        go_wp2_with fail
        go_region
        all_goals go_wp2
        all_goals go_ret
        all_goals refine ⟨?_, HBW.out.drew⟩
        all_goals unfold idxI
        all_goals rw [idx_drop B.ls i HNE.out hlt (by rw [← HLE.out]; exact HK.out)]
        all_goals rfl
      · rw [decide_eq_false hk] at hkc
        have HN2 : Hid (∀ j (h : j < B.ls.length), j < i + 1 → B.ls[j].k ≠ k) := hide (fun j hj hji => by
          rcases Nat.lt_or_ge j i with h | h
          · exact HNE.out j hj h
          · have e : j = i := by omega
            subst e
            rw [← HLE.out]
            exact hk)
        clear hk
        go_wp2_with fail
        go_region
        all_goals go_wp2
        all_goals go_roundw
        all_goals first | (exact ⟨i + 1, by omega, by go_num, HN2.out, HBR.out.drew⟩) | (simp [intOf]; omega)
    · obtain rfl : i = B.ls.length := by omega
      have hlt' : ¬ (B.ls.length : Int) < (B.ls.length : Int) := by omega
      clear a1
      go_wp2
      go_ret
      refine ⟨?_, hbw⟩
      unfold idxI
      rw [idx_no B.ls (fun j hj => hne j hj hj)]
      rfl
end Go.Proofs.YtlamgpeiolfffaaGreatDoor
