import Derived.Test.YtlamgpeiolfffaaGreatDoorZz13
import Derived.Test.YtlamgpeiolfffaaGreatDoorZz08
import Derived.Test.YtlamgpeiolfffaaGreatDoorZz02
import Derived.Maps.OwnSet
import Derived.WideKeyArr
set_option linter.unusedSectionVars false
namespace Go.Proofs.YtlamgpeiolfffaaGreatDoor
open Go.RowKit
variable [dK] [iK]

/-- A slice of bytes, with room behind them or none. -/
def Sl (w : World) (vb : Value) (bs : List Int) : Prop :=
  (bs = [] ∧ (vb = .slice none 0 0 ∨ ∃ g o c, vb = .slice (some ⟨g, o, none⟩) 0 c)) ∨
  (0 < bs.length ∧ ∃ g o c, vb = .slice (some ⟨g, o, none⟩) bs.length c ∧ bs.length ≤ c ∧ g < w.heap.size ∧ ∀ j, j < bs.length → w.cell? ⟨g, o + j, none⟩ = some (.int .u8 (bs.getD j 0)))
theorem Sl.kept {w w' : World} {v : Value} {bs : List Int} (h : Sl w v bs) (hs : w.heap.size ≤ w'.heap.size) (hk : ∀ g o n c, v = .slice (some ⟨g, o, none⟩) n c → g < w.heap.size → w'.heap[g]? = w.heap[g]?) : Sl w' v bs := by
  rcases h with h | ⟨h1, sg, so, cap, rfl, h0, h2, h3⟩
  · exact Or.inl h
  · exact Or.inr ⟨h1, sg, so, cap, rfl, h0, Nat.lt_of_lt_of_le h2 hs, fun j hj => (World.cell?_of_block (w := w) (hk sg so _ _ rfl h2)).trans (h3 j hj)⟩
theorem Sl.below {w w' : World} {v : Value} {bs : List Int} {B : Nat} (h : Sl w v bs) (hb : Below B w w') (hB : w.heap.size ≤ B) : Sl w' v bs :=
  h.kept hb.size fun g _ _ _ _ hg => hb.block g (Nat.lt_of_lt_of_le hg hB)
theorem Sl.src {w : World} {v : Value} {bs : List Int} (h : Sl w v bs) : Src w v bs := by
  rcases h with h | ⟨h1, sg, so, cap, rfl, h0, h2, h3⟩
  · exact Or.inl h
  · refine Or.inr ⟨h1, sg, so, cap, rfl, h2, fun j u hj => ?_⟩
    have hjl : j < bs.length := by
      have := (List.getElem?_eq_some_iff.1 hj).1
      simpa using this
    rw [h3 j hjl, ← hj]
    simp [List.getD, List.getElem?_eq_getElem hjl]
theorem Sl.of_own {w : World} {base : Nat} {v : Value} {n : Nat} {bs : List Int} (h : w.ownsRow base 5 1 v n (bs.map (Value.int .u8))) : Sl w v bs := by
  have hn : bs.length = n := by simpa using h.1
  rcases h.2 with ⟨h1, h2⟩ | ⟨g, cap, cur, hv, hb, hg, hnc, _⟩
  · exact Or.inl ⟨List.length_eq_zero_iff.1 (hn.trans h2), Or.inl h1⟩
  · by_cases h0 : bs = []
    · subst h0
      simp at hn
      subst hn
      exact Or.inl ⟨rfl, Or.inr ⟨g, 0, cap, hv⟩⟩
    · have hp : 0 < bs.length := List.length_pos_iff.2 h0
      obtain ⟨g, cap, hv, _, hgl, hnc, hc⟩ := own_shape h (by omega) hn
      exact Or.inr ⟨hp, g, 0, cap, by rw [hv, hn], by omega, hgl, fun j hj => by rw [Nat.zero_add, hc j (by omega)]⟩
theorem Sl.shape {w : World} {v : Value} {bs : List Int} (h : Sl w v bs) : ∃ a c, v = .slice a bs.length c := h.src.shape

theorem read67 (vb : Value) (bs : List Int) (w : World) (hs : Sl w vb bs) (hlen : bs.length ≤ 1048576) (hr : ∀ j, 0 ≤ bs.getD j 0 ∧ bs.getD j 0 ≤ 255) (q : Rq) (hq : q = rdQ bs) (m er : Int) (hm : m = rdN bs) (her : er = rdErr bs) :
    Calls Tryz.prog 67 #[vb] w fun e w' => e = .returned (.tuple #[.agg #[.int .u8 q.op, .int .u8 q.k0, .int .u8 q.k1, .int .u8 q.k2, .int .u8 q.k3, .int .u8 q.k4, .int .u8 q.k5, .int .u8 q.k6, .int .u8 q.k7, .int .u8 q.kd, .int .u64 q.x, .int .u64 q.y, .int .u64 q.n], .int .i64 m, errV er]) ∧ Below w.heap.size w w' := by
  subst hm her
  rcases hs with ⟨rfl, rfl | ⟨g, o, c, rfl⟩⟩ | ⟨hp, g, o, c, rfl, h0, h2, h3⟩
  · subst hq; exact read26_nil _ _ w
  · subst hq; exact read26_nil _ _ w
  · cases bs with
    | nil => simp at hp
    | cons b0 t => exact read26_cons g o c b0 t w h0 hlen h2 h3 hr q hq
end Go.Proofs.YtlamgpeiolfffaaGreatDoor

namespace Go.Proofs.YtlamgpeiolfffaaGreatDoor
open Go.RowKit Go.Maps
variable [dK] [iK]

theorem arr56 : Go.WideMaps.ArrKey Tryz.prog 56 5 8 := ⟨Tryz.underlying56, by kernel_rfl, by kernel_rfl, by kernel_rfl⟩
theorem keyed56 : Keyed Tryz.prog 56 := Keyed.of_law arr56.law
def kval (k : Ky) : Value := .agg #[.int .u8 k.k0, .int .u8 k.k1, .int .u8 k.k2, .int .u8 k.k3, .int .u8 k.k4, .int .u8 k.k5, .int .u8 k.k6, .int .u8 k.k7]
def qval (q : Qt) : Value := .agg #[.int .u8 q.kd, .int .u64 q.x, .int .u64 q.y, .int .u64 q.lv, .int .u64 q.wn]
def qzero : Value := .agg #[.int .u8 0, .int .u64 0, .int .u64 0, .int .u64 0, .int .u64 0]
def heldE (v : Value) : Option (DataW Value × List MemPlace) := some (.held v, [])
theorem wf8 {k : Int} (h : 0 ≤ k ∧ k ≤ 255) : (Lit.int .u8 k).wf = true := by
  have : IntKind.u8.min = 0 := rfl
  have : IntKind.u8.max = 255 := rfl
  simp [Lit.wf]; omega

def klit (k : Ky) : Lit := .string (keyBytes [.int .u8 k.k0, .int .u8 k.k1, .int .u8 k.k2, .int .u8 k.k3, .int .u8 k.k4, .int .u8 k.k5, .int .u8 k.k6, .int .u8 k.k7])
theorem klit_key (k : Ky) (h : k.ok) : keyOf Tryz.prog 56 (kval k) = some (klit k) := by
  have hkt := arr56.keyType ⟨_, rfl⟩
  unfold keyOf kval
  simp only [arr56.hu]
  rw [if_pos (by simp [hkt, Value.formed, arr56.hu, arr56.size])]
  unfold Program.keyLits
  simp only [arr56.hu, Value.cells]
  rw [if_pos (by rw [arr56.size]; rfl), show List.range 8 = [0, 1, 2, 3, 4, 5, 6, 7] from rfl]
  have he : Tryz.prog.underlying 5 = some (.int .u8) := Tryz.underlying5
  obtain ⟨m, hm⟩ : ∃ m, Tryz.prog.types.size = m + 1 := ⟨_, rfl⟩
  rw [hm]
  simp [klit, arr56.one, Program.keyLits, he, wf8 h.h0, wf8 h.h1, wf8 h.h2, wf8 h.h3, wf8 h.h4, wf8 h.h5, wf8 h.h6, wf8 h.h7]
theorem klit_inj {k k' : Ky} (h : k.ok) (h' : k'.ok) (e : klit k = klit k') : k = k' := by
  have hv := keyed56.inj (klit_key k h) (e ▸ klit_key k' h')
  unfold kval at hv
  simp at hv
  cases k; cases k'; simp_all
theorem zero231 (w : World) : (zeroValue 231).run Tryz.prog w = .ok qzero w := by kernel_rfl

/-- Block b is a map that holds just these keys. -/
def MapOf (w : World) (b : Nat) (ks : List (Ky × Qt)) : Prop :=
  ∃ n D, w.ownsMap Tryz.prog 56 heldE b n D ∧ (∀ k : Ky, k.ok → Maps.has D (klit k) = (fnd k ks).isSome) ∧ (∀ (k : Ky) q, k.ok → fnd k ks = some q → D.atKey (klit k) (.held qzero) = .held (qval q)) ∧ Maps.size D = ks.length

theorem MapOf.lt {w : World} {b : Nat} {ks : List (Ky × Qt)} (h : MapOf w b ks) : b < w.heap.size := by
  obtain ⟨n, D, h, _⟩ := h; exact h.lt
theorem MapOf.kept {w w' : World} {b : Nat} {ks : List (Ky × Qt)} (h : MapOf w b ks) (hb : w'.heap[b]? = w.heap[b]?) : MapOf w' b ks := by
  obtain ⟨n, D, ⟨es, clock, h1, h2⟩, h3⟩ := h
  exact ⟨n, D, ⟨es, clock, hb.trans h1, h2⟩, h3⟩
theorem MapOf.made (w : World) : MapOf (w.alloc (.map #[] 0)) w.heap.size [] :=
  ⟨0, .map [], World.ownsMap_made w _ _ _, fun _ _ => rfl, fun _ _ _ h => by simp [fnd] at h, rfl⟩

def qlook : Option Qt → Value
  | some q => qval q
  | none => qzero
theorem MapOf.look {w : World} {b : Nat} {ks : List (Ky × Qt)} (h : MapOf w b ks) {k : Ky} (hk : k.ok) :
    (Instr.lookup 111 (.map (some b)) (kval k) true).run Tryz.prog w = .ok (.tuple #[qlook (fnd k ks), .bool (fnd k ks).isSome]) w := by
  obtain ⟨n, D, ho, h1, h2, _⟩ := h
  obtain ⟨v, ps, hrun, hv⟩ := ho.look_ok keyed56 Tryz.underlying111 (zero231 w) (zd := .held qzero) (zp := []) rfl (klit_key k hk)
  have hv' : DataW.held v = D.atKey (klit k) (.held qzero) := by
    have := congrArg (Option.map Prod.fst) hv
    simpa [heldE] using this
  have hvv : v = qlook (fnd k ks) := by
    cases hf : fnd k ks with
    | none =>
      rw [atKey_of_not_has (by rw [h1 k hk, hf]; rfl)] at hv'
      exact DataW.held.inj hv'
    | some q =>
      rw [h2 k q hk hf] at hv'
      exact DataW.held.inj hv'
  rw [hrun, h1 k hk, hvv]
theorem look_nil {w : World} {k : Ky} (hk : k.ok) : (Instr.lookup 111 (.map none) (kval k) true).run Tryz.prog w = .ok (.tuple #[qzero, .bool false]) w := by
  have h := Maps.look_nil (w := w) true keyed56 Tryz.underlying111 (zero231 w) (klit_key k hk)
  exact h
theorem MapOf.len {w : World} {b : Nat} {ks : List (Ky × Qt)} (h : MapOf w b ks) (ty : TypeId) : (Builtin.len_ #[111] ty #[.map (some b)]).run Tryz.prog w = .ok (.int .i64 ks.length) w := by
  obtain ⟨n, D, ho, _, _, h3⟩ := h
  rw [ho.len Tryz.underlying111 ty, h3]
theorem tight {w : World} {b n : Nat} {D : DataW Value} (h : w.ownsMap Tryz.prog 56 heldE b n D) : w.ownsMap Tryz.prog 56 heldE b (Maps.size D) D := by
  obtain ⟨es, clock, hb, F, hs, rfl⟩ := h
  exact ⟨es, clock, hb, F, by simp [Maps.size, length_sorted], rfl⟩

theorem fnd_upd_same {k : Ky} {q : Qt} : ∀ {ks : List (Ky × Qt)}, (fnd k ks).isSome = true → fnd k (upd k q ks) = some q
  | [], h => by simp [fnd] at h
  | (k', q') :: r, h => by
    unfold upd
    by_cases e : k' = k
    · simp [e, fnd]
    · rw [if_neg e]
      unfold fnd at h ⊢
      rw [if_neg e] at h ⊢
      exact fnd_upd_same h
theorem fnd_upd_other {k k' : Ky} {q : Qt} (hne : k' ≠ k) : ∀ {ks : List (Ky × Qt)}, fnd k' (upd k q ks) = fnd k' ks
  | [] => rfl
  | (k2, q2) :: r => by
    unfold upd
    by_cases e : k2 = k
    · subst e
      rw [if_pos rfl]
      unfold fnd
      rw [if_neg (fun h => hne h.symm), if_neg (fun h => hne h.symm)]
    · rw [if_neg e]
      unfold fnd
      rw [fnd_upd_other hne]
theorem length_upd {k : Ky} {q : Qt} : ∀ {ks : List (Ky × Qt)}, (upd k q ks).length = ks.length
  | [] => rfl
  | (k2, q2) :: r => by
    unfold upd
    split
    · rfl
    · simp [length_upd]
theorem fnd_app {k : Ky} {q : Qt} (k' : Ky) : ∀ {ks : List (Ky × Qt)}, fnd k' (ks ++ [(k, q)]) = if (fnd k' ks).isSome then fnd k' ks else if k = k' then some q else none
  | [] => by simp [fnd]
  | (k2, q2) :: r => by
    show fnd k' ((k2, q2) :: (r ++ [(k, q)])) = _
    unfold fnd
    by_cases e : k2 = k'
    · simp [e]
    · rw [if_neg e, if_neg e]
      exact fnd_app k'
theorem fnd_none_of {k : Ky} : ∀ {ks : List (Ky × Qt)}, k ∉ ks.map Prod.fst → fnd k ks = none
  | [], _ => rfl
  | (k2, q2) :: r, h => by
    simp at h
    unfold fnd
    rw [if_neg (fun e => h.1 e.symm)]
    exact fnd_none_of (by simpa using h.2)
theorem fnd_del_same {k : Ky} : ∀ {ks : List (Ky × Qt)}, (ks.map Prod.fst).Nodup → fnd k (del k ks) = none
  | [], _ => rfl
  | (k2, q2) :: r, h => by
    simp only [List.map_cons, List.nodup_cons] at h
    unfold del
    by_cases e : k2 = k
    · subst e
      rw [if_pos rfl]
      exact fnd_none_of h.1
    · rw [if_neg e]
      unfold fnd
      rw [if_neg e]
      exact fnd_del_same h.2
theorem fnd_del_other {k k' : Ky} (hne : k' ≠ k) : ∀ {ks : List (Ky × Qt)}, fnd k' (del k ks) = fnd k' ks
  | [] => rfl
  | (k2, q2) :: r => by
    unfold del
    by_cases e : k2 = k
    · subst e
      rw [if_pos rfl]
      show _ = fnd k' ((k2, q2) :: r)
      unfold fnd
      rw [if_neg (fun h => hne h.symm)]
      cases r <;> rfl
    · rw [if_neg e]
      unfold fnd
      rw [fnd_del_other hne]
theorem length_del {k : Ky} : ∀ {ks : List (Ky × Qt)}, (fnd k ks).isSome = true → (del k ks).length + 1 = ks.length
  | [], h => by simp [fnd] at h
  | (k2, q2) :: r, h => by
    unfold del
    by_cases e : k2 = k
    · simp [e]
    · rw [if_neg e]
      unfold fnd at h
      rw [if_neg e] at h
      simp [length_del h]

theorem MapOf.store {w : World} {b : Nat} {ks : List (Ky × Qt)} (h : MapOf w b ks) (hl : ks.length ≤ 12) {k : Ky} (hk : k.ok) (q : Qt) :
    ∃ w', (Instr.mapUpdate 111 (.map (some b)) (kval k) (qval q)).run Tryz.prog w = .ok () w' ∧ w.mapTurned w' b ∧
      MapOf w' b (if (fnd k ks).isSome then upd k q ks else ks ++ [(k, q)]) := by
  obtain ⟨n, D, ho, h1, h2, h3⟩ := h
  have ho' := tight ho
  obtain ⟨w', hrun, ho1, ht⟩ := ho'.store keyed56 Tryz.underlying111 (by rw [h3]; unfold maxLen; omega) (klit_key k hk) (val := qval q) (d := .held (qval q)) (ps := []) rfl
  have hkl := keyed56.key (klit_key k hk)
  refine ⟨w', hrun, ht, _, _, ho1, fun k' hk' => ?_, fun k' q' hk' hf => ?_, ?_⟩
  · by_cases e : k' = k
    · subst e
      rw [has_put_same ho.isMap hkl]
      split
      · rw [fnd_upd_same (by assumption)]; rfl
      · rw [fnd_app, if_neg (by assumption), if_pos rfl]; rfl
    · rw [has_put_other (fun h => e (klit_inj hk' hk h)), h1 k' hk']
      split
      · rw [fnd_upd_other e]
      · rw [fnd_app]
        have e' : ¬ k = k' := fun h => e h.symm
        cases fnd k' ks <;> simp [e']
  · by_cases e : k' = k
    · subst e
      rw [atKey_put_same ho.isMap hkl]
      split at hf
      · rw [fnd_upd_same (by assumption)] at hf; exact congrArg (fun z => DataW.held (qval z)) (Option.some.inj hf)
      · rw [fnd_app, if_neg (by assumption), if_pos rfl] at hf; exact congrArg (fun z => DataW.held (qval z)) (Option.some.inj hf)
    · rw [atKey_put_other (fun h => e (klit_inj hk' hk h))]
      refine h2 k' q' hk' ?_
      split at hf
      · rwa [fnd_upd_other e] at hf
      · rw [fnd_app] at hf
        have e' : ¬ k = k' := fun h => e h.symm
        cases hfk : fnd k' ks <;> simp_all
  · rw [size_put (ho.tidy keyed56), h1 k hk]
    split
    · rw [length_upd, h3]
    · simp [h3]
theorem MapOf.drop {w : World} {b : Nat} {ks : List (Ky × Qt)} (h : MapOf w b ks) (hnd : (ks.map Prod.fst).Nodup) {k : Ky} (hk : k.ok) (hin : (fnd k ks).isSome = true) (ty : TypeId) :
    ∃ w', (Builtin.delete_ #[111, 56] ty #[.map (some b), kval k]).run Tryz.prog w = .ok (.tuple #[]) w' ∧ w.mapTurned w' b ∧ MapOf w' b (del k ks) := by
  obtain ⟨n, D, ho, h1, h2, h3⟩ := h
  obtain ⟨w', hrun, ho1, ht⟩ := ho.drop keyed56 Tryz.underlying111 (klit_key k hk) ty
  refine ⟨w', hrun, ht, _, _, ho1, fun k' hk' => ?_, fun k' q' hk' hf => ?_, ?_⟩
  · by_cases e : k' = k
    · subst e
      rw [has_del_same, fnd_del_same hnd]; rfl
    · rw [has_del_other (fun h => e (klit_inj hk' hk h)), fnd_del_other e, h1 k' hk']
  · by_cases e : k' = k
    · subst e
      rw [fnd_del_same hnd] at hf; simp at hf
    · rw [atKey_del_other (fun h => e (klit_inj hk' hk h))]
      rw [fnd_del_other e] at hf
      exact h2 k' q' hk' hf
  · have e1 := size_del (k := klit k) (ho.tidy keyed56)
    rw [h1 k hk, hin, h3] at e1
    have e2 := length_del hin
    simp at e1
    omega
end Go.Proofs.YtlamgpeiolfffaaGreatDoor
