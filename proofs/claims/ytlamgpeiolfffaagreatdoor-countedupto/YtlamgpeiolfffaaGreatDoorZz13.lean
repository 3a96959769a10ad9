import Derived.Test.YtlamgpeiolfffaaGreatDoorZz05
import Derived.Maps.OwnSet
import Derived.WideKeyArr
import Derived.Test.YtlamgpeiolfffaaGreatDoorZz04
import Derived.Shelf.Bits.Mul64
namespace Go.Proofs.YtlamgpeiolfffaaGreatDoor
open Go.RowKit Go.Maps

theorem arr56 : Go.WideMaps.ArrKey Tryz.prog 56 5 8 := ⟨Tryz.underlying56, by kernel_rfl, by kernel_rfl, by kernel_rfl⟩
theorem keyed56 : Keyed Tryz.prog 56 := Keyed.of_law arr56.law
def kval (k : Ky) : Value := .agg #[.int .u8 k.k0, .int .u8 k.k1, .int .u8 k.k2, .int .u8 k.k3, .int .u8 k.k4, .int .u8 k.k5, .int .u8 k.k6, .int .u8 k.k7]
def qval (q : Qt) : Value := .agg #[.int .u8 q.kd, .int .u64 q.x, .int .u64 q.y, .int .u64 q.lv, .int .u64 q.wn]
def qzero : Value := .agg #[.int .u8 0, .int .u64 0, .int .u64 0, .int .u64 0, .int .u64 0]
def heldE (v : Value) : Option (DataW Value × List MemPlace) := some (.held v, [])
theorem wf8 {k : Int} (h : 0 ≤ k ∧ k ≤ 255) : (Lit.int .u8 k).wf = true := by
  have : IntKind.u8.min = 0 := rfl
  have : IntKind.u8.max = 255 := rfl
  simp [Lit.wf]; omega

def klit (k : Ky) : Lit := .string (keyBytes [.int .u8 k.k0, .int .u8 k.k1, .int .u8 k.k2, .int .u8 k.k3, .int .u8 k.k4, .int .u8 k.k5, .int .u8 k.k6, .int .u8 k.k7])
theorem klit_key (k : Ky) (h : k.ok) : keyOf Tryz.prog 56 (kval k) = some (klit k) := by
  have hkt := arr56.keyType ⟨_, rfl⟩
  unfold keyOf kval
  simp only [arr56.hu]
  rw [if_pos (by simp [hkt, Value.formed, arr56.hu, arr56.size])]
  unfold Program.keyLits
  simp only [arr56.hu, Value.cells]
  rw [if_pos (by rw [arr56.size]; rfl), show List.range 8 = [0, 1, 2, 3, 4, 5, 6, 7] from rfl]
  have he : Tryz.prog.underlying 5 = some (.int .u8) := Tryz.underlying5
  obtain ⟨m, hm⟩ : ∃ m, Tryz.prog.types.size = m + 1 := ⟨_, rfl⟩
  rw [hm]
  simp [klit, arr56.one, Program.keyLits, he, wf8 h.h0, wf8 h.h1, wf8 h.h2, wf8 h.h3, wf8 h.h4, wf8 h.h5, wf8 h.h6, wf8 h.h7]
theorem klit_inj {k k' : Ky} (h : k.ok) (h' : k'.ok) (e : klit k = klit k') : k = k' := by
  have hv := keyed56.inj (klit_key k h) (e ▸ klit_key k' h')
  unfold kval at hv
  simp at hv
  cases k; cases k'; simp_all
theorem zero231 (w : World) : (zeroValue 231).run Tryz.prog w = .ok qzero w := by kernel_rfl

/-- Block b is a map that holds just these keys. -/
def MapOf (w : World) (b : Nat) (ks : List (Ky × Qt)) : Prop :=
  ∃ n D, w.ownsMap Tryz.prog 56 heldE b n D ∧ (∀ k : Ky, k.ok → Maps.has D (klit k) = (fnd k ks).isSome) ∧ (∀ (k : Ky) q, k.ok → fnd k ks = some q → D.atKey (klit k) (.held qzero) = .held (qval q)) ∧ Maps.size D = ks.length

theorem MapOf.lt {w : World} {b : Nat} {ks : List (Ky × Qt)} (h : MapOf w b ks) : b < w.heap.size := by
  obtain ⟨n, D, h, _⟩ := h; exact h.lt
theorem MapOf.kept {w w' : World} {b : Nat} {ks : List (Ky × Qt)} (h : MapOf w b ks) (hb : w'.heap[b]? = w.heap[b]?) : MapOf w' b ks := by
  obtain ⟨n, D, ⟨es, clock, h1, h2⟩, h3⟩ := h
  exact ⟨n, D, ⟨es, clock, hb.trans h1, h2⟩, h3⟩
theorem MapOf.made (w : World) : MapOf (w.alloc (.map #[] 0)) w.heap.size [] :=
  ⟨0, .map [], World.ownsMap_made w _ _ _, fun _ _ => rfl, fun _ _ _ h => by simp [fnd] at h, rfl⟩

def qlook : Option Qt → Value
  | some q => qval q
  | none => qzero
theorem MapOf.look {w : World} {b : Nat} {ks : List (Ky × Qt)} (h : MapOf w b ks) {k : Ky} (hk : k.ok) :
    (Instr.lookup 111 (.map (some b)) (kval k) true).run Tryz.prog w = .ok (.tuple #[qlook (fnd k ks), .bool (fnd k ks).isSome]) w := by
  obtain ⟨n, D, ho, h1, h2, _⟩ := h
  obtain ⟨v, ps, hrun, hv⟩ := ho.look_ok keyed56 Tryz.underlying111 (zero231 w) (zd := .held qzero) (zp := []) rfl (klit_key k hk)
  have hv' : DataW.held v = D.atKey (klit k) (.held qzero) := by
    have := congrArg (Option.map Prod.fst) hv
    simpa [heldE] using this
  have hvv : v = qlook (fnd k ks) := by
    cases hf : fnd k ks with
    | none =>
      rw [atKey_of_not_has (by rw [h1 k hk, hf]; rfl)] at hv'
      exact DataW.held.inj hv'
    | some q =>
      rw [h2 k q hk hf] at hv'
      exact DataW.held.inj hv'
  rw [hrun, h1 k hk, hvv]
theorem look_nil {w : World} {k : Ky} (hk : k.ok) : (Instr.lookup 111 (.map none) (kval k) true).run Tryz.prog w = .ok (.tuple #[qzero, .bool false]) w := by
  have h := Maps.look_nil (w := w) true keyed56 Tryz.underlying111 (zero231 w) (klit_key k hk)
  exact h
theorem MapOf.len {w : World} {b : Nat} {ks : List (Ky × Qt)} (h : MapOf w b ks) (ty : TypeId) : (Builtin.len_ #[111] ty #[.map (some b)]).run Tryz.prog w = .ok (.int .i64 ks.length) w := by
  obtain ⟨n, D, ho, _, _, h3⟩ := h
  rw [ho.len Tryz.underlying111 ty, h3]
theorem tight {w : World} {b n : Nat} {D : DataW Value} (h : w.ownsMap Tryz.prog 56 heldE b n D) : w.ownsMap Tryz.prog 56 heldE b (Maps.size D) D := by
  obtain ⟨es, clock, hb, F, hs, rfl⟩ := h
  exact ⟨es, clock, hb, F, by simp [Maps.size, length_sorted], rfl⟩

theorem fnd_upd_same {k : Ky} {q : Qt} : ∀ {ks : List (Ky × Qt)}, (fnd k ks).isSome = true → fnd k (upd k q ks) = some q
  | [], h => by simp [fnd] at h
  | (k', q') :: r, h => by
    unfold upd
    by_cases e : k' = k
    · simp [e, fnd]
    · rw [if_neg e]
      unfold fnd at h ⊢
      rw [if_neg e] at h ⊢
      exact fnd_upd_same h
theorem fnd_upd_other {k k' : Ky} {q : Qt} (hne : k' ≠ k) : ∀ {ks : List (Ky × Qt)}, fnd k' (upd k q ks) = fnd k' ks
  | [] => rfl
  | (k2, q2) :: r => by
    unfold upd
    by_cases e : k2 = k
    · subst e
      rw [if_pos rfl]
      unfold fnd
      rw [if_neg (fun h => hne h.symm), if_neg (fun h => hne h.symm)]
    · rw [if_neg e]
      unfold fnd
      rw [fnd_upd_other hne]
theorem length_upd {k : Ky} {q : Qt} : ∀ {ks : List (Ky × Qt)}, (upd k q ks).length = ks.length
  | [] => rfl
  | (k2, q2) :: r => by
    unfold upd
    split
    · rfl
    · simp [length_upd]
theorem fnd_app {k : Ky} {q : Qt} (k' : Ky) : ∀ {ks : List (Ky × Qt)}, fnd k' (ks ++ [(k, q)]) = if (fnd k' ks).isSome then fnd k' ks else if k = k' then some q else none
  | [] => by simp [fnd]
  | (k2, q2) :: r => by
    show fnd k' ((k2, q2) :: (r ++ [(k, q)])) = _
    unfold fnd
    by_cases e : k2 = k'
    · simp [e]
    · rw [if_neg e, if_neg e]
      exact fnd_app k'
theorem fnd_none_of {k : Ky} : ∀ {ks : List (Ky × Qt)}, k ∉ ks.map Prod.fst → fnd k ks = none
  | [], _ => rfl
  | (k2, q2) :: r, h => by
    simp at h
    unfold fnd
    rw [if_neg (fun e => h.1 e.symm)]
    exact fnd_none_of (by simpa using h.2)
theorem fnd_del_same {k : Ky} : ∀ {ks : List (Ky × Qt)}, (ks.map Prod.fst).Nodup → fnd k (del k ks) = none
  | [], _ => rfl
  | (k2, q2) :: r, h => by
    simp only [List.map_cons, List.nodup_cons] at h
    unfold del
    by_cases e : k2 = k
    · subst e
      rw [if_pos rfl]
      exact fnd_none_of h.1
    · rw [if_neg e]
      unfold fnd
      rw [if_neg e]
      exact fnd_del_same h.2
theorem fnd_del_other {k k' : Ky} (hne : k' ≠ k) : ∀ {ks : List (Ky × Qt)}, fnd k' (del k ks) = fnd k' ks
  | [] => rfl
  | (k2, q2) :: r => by
    unfold del
    by_cases e : k2 = k
    · subst e
      rw [if_pos rfl]
      show _ = fnd k' ((k2, q2) :: r)
      unfold fnd
      rw [if_neg (fun h => hne h.symm)]
      cases r <;> rfl
    · rw [if_neg e]
      unfold fnd
      rw [fnd_del_other hne]
theorem length_del {k : Ky} : ∀ {ks : List (Ky × Qt)}, (fnd k ks).isSome = true → (del k ks).length + 1 = ks.length
  | [], h => by simp [fnd] at h
  | (k2, q2) :: r, h => by
    unfold del
    by_cases e : k2 = k
    · simp [e]
    · rw [if_neg e]
      unfold fnd at h
      rw [if_neg e] at h
      simp [length_del h]

theorem MapOf.store {w : World} {b : Nat} {ks : List (Ky × Qt)} (h : MapOf w b ks) (hl : ks.length ≤ 12) {k : Ky} (hk : k.ok) (q : Qt) :
    ∃ w', (Instr.mapUpdate 111 (.map (some b)) (kval k) (qval q)).run Tryz.prog w = .ok () w' ∧ w.mapTurned w' b ∧
      MapOf w' b (if (fnd k ks).isSome then upd k q ks else ks ++ [(k, q)]) := by
  obtain ⟨n, D, ho, h1, h2, h3⟩ := h
  have ho' := tight ho
  obtain ⟨w', hrun, ho1, ht⟩ := ho'.store keyed56 Tryz.underlying111 (by rw [h3]; unfold maxLen; omega) (klit_key k hk) (val := qval q) (d := .held (qval q)) (ps := []) rfl
  have hkl := keyed56.key (klit_key k hk)
  refine ⟨w', hrun, ht, _, _, ho1, fun k' hk' => ?_, fun k' q' hk' hf => ?_, ?_⟩
  · by_cases e : k' = k
    · subst e
      rw [has_put_same ho.isMap hkl]
      split
      · rw [fnd_upd_same (by assumption)]; rfl
      · rw [fnd_app, if_neg (by assumption), if_pos rfl]; rfl
    · rw [has_put_other (fun h => e (klit_inj hk' hk h)), h1 k' hk']
      split
      · rw [fnd_upd_other e]
      · rw [fnd_app]
        have e' : ¬ k = k' := fun h => e h.symm
        cases fnd k' ks <;> simp [e']
  · by_cases e : k' = k
    · subst e
      rw [atKey_put_same ho.isMap hkl]
      split at hf
      · rw [fnd_upd_same (by assumption)] at hf; exact congrArg (fun z => DataW.held (qval z)) (Option.some.inj hf)
      · rw [fnd_app, if_neg (by assumption), if_pos rfl] at hf; exact congrArg (fun z => DataW.held (qval z)) (Option.some.inj hf)
    · rw [atKey_put_other (fun h => e (klit_inj hk' hk h))]
      refine h2 k' q' hk' ?_
      split at hf
      · rwa [fnd_upd_other e] at hf
      · rw [fnd_app] at hf
        have e' : ¬ k = k' := fun h => e h.symm
        cases hfk : fnd k' ks <;> simp_all
  · rw [size_put (ho.tidy keyed56), h1 k hk]
    split
    · rw [length_upd, h3]
    · simp [h3]
theorem MapOf.drop {w : World} {b : Nat} {ks : List (Ky × Qt)} (h : MapOf w b ks) (hnd : (ks.map Prod.fst).Nodup) {k : Ky} (hk : k.ok) (hin : (fnd k ks).isSome = true) (ty : TypeId) :
    ∃ w', (Builtin.delete_ #[111, 56] ty #[.map (some b), kval k]).run Tryz.prog w = .ok (.tuple #[]) w' ∧ w.mapTurned w' b ∧ MapOf w' b (del k ks) := by
  obtain ⟨n, D, ho, h1, h2, h3⟩ := h
  obtain ⟨w', hrun, ho1, ht⟩ := ho.drop keyed56 Tryz.underlying111 (klit_key k hk) ty
  refine ⟨w', hrun, ht, _, _, ho1, fun k' hk' => ?_, fun k' q' hk' hf => ?_, ?_⟩
  · by_cases e : k' = k
    · subst e
      rw [has_del_same, fnd_del_same hnd]; rfl
    · rw [has_del_other (fun h => e (klit_inj hk' hk h)), fnd_del_other e, h1 k' hk']
  · by_cases e : k' = k
    · subst e
      rw [fnd_del_same hnd] at hf; simp at hf
    · rw [atKey_del_other (fun h => e (klit_inj hk' hk h))]
      rw [fnd_del_other e] at hf
      exact h2 k' q' hk' hf
  · have e1 := size_del (k := klit k) (ho.tidy keyed56)
    rw [h1 k hk, hin, h3] at e1
    have e2 := length_del hin
    simp at e1
    omega
end Go.Proofs.YtlamgpeiolfffaaGreatDoor

namespace Go.Proofs.YtlamgpeiolfffaaGreatDoor
open Go.RowKit

structure Rp.ok (r : Rp) : Prop where
  c : 0 ≤ r.c ∧ r.c ≤ 255
  a : 0 ≤ r.a ∧ r.a ≤ 18446744073709551615
  b : 0 ≤ r.b ∧ r.b ≤ 18446744073709551615
structure Rq.ok (q : Rq) : Prop where
  key : q.key.ok
  x : 0 ≤ q.x ∧ q.x ≤ 18446744073709551615
  y : 0 ≤ q.y ∧ q.y ≤ 18446744073709551615
  n : 0 ≤ q.n ∧ q.n ≤ 18446744073709551615
def Bytes (bs : List Int) : Prop := ∀ b ∈ bs, 0 ≤ b ∧ b ≤ 255
theorem Bytes.getD {bs : List Int} (h : Bytes bs) (j : Nat) : 0 ≤ bs.getD j 0 ∧ bs.getD j 0 ≤ 255 := by
  by_cases hj : j < bs.length
  · have e : bs.getD j 0 = bs[j] := by simp [List.getD, List.getElem?_eq_getElem hj]
    rw [e]; exact h _ (List.getElem_mem hj)
  · have e : bs.getD j 0 = 0 := by simp [List.getD, List.getElem?_eq_none (Nat.le_of_not_lt hj)]
    rw [e]; omega
theorem Bytes.drop {bs : List Int} (h : Bytes bs) (n : Nat) : Bytes (bs.drop n) := fun b hb => h b (List.mem_of_mem_drop hb)
theorem Bytes.app {a b : List Int} (ha : Bytes a) (hb : Bytes b) : Bytes (a ++ b) := fun x hx => (List.mem_append.1 hx).elim (ha x) (hb x)

theorem num8_ok (bs : List Int) (h : Bytes bs) (o : Nat) : 0 ≤ num8 bs o ∧ num8 bs o ≤ 18446744073709551615 := by
  have := rdTo_bound (fun j => bs.getD (o + j) 0) (fun j => h.getD (o + j)) 8
  unfold num8
  have e : (256 : Int) ^ 8 = 18446744073709551616 := by decide
  omega
theorem rdQ_ok (bs : List Int) (h : Bytes bs) : (rdQ bs).ok := by
  have z : (0 : Int) ≤ 0 ∧ (0 : Int) ≤ 255 := by omega
  have z' : (0 : Int) ≤ 0 ∧ (0 : Int) ≤ 18446744073709551615 := by omega
  unfold rdQ
  split
  · split
    · exact ⟨⟨h.getD 2, h.getD 3, h.getD 4, h.getD 5, h.getD 6, h.getD 7, h.getD 8, h.getD 9⟩, num8_ok bs h 11, num8_ok bs h 19, z'⟩
    · split
      · exact ⟨⟨h.getD 2, h.getD 3, h.getD 4, h.getD 5, h.getD 6, h.getD 7, h.getD 8, h.getD 9⟩, z', z', num8_ok bs h 10⟩
      · split
        · exact ⟨⟨h.getD 2, h.getD 3, h.getD 4, h.getD 5, h.getD 6, h.getD 7, h.getD 8, h.getD 9⟩, z', z', z'⟩
        · exact ⟨⟨z, z, z, z, z, z, z, z⟩, z', z', z'⟩
  · exact ⟨⟨z, z, z, z, z, z, z, z⟩, z', z', z'⟩
theorem rdErr_cases (bs : List Int) : rdErr bs = 0 ∨ rdErr bs = 1 ∨ rdErr bs = 2 := by
  unfold rdErr
  split
  · omega
  · split
    · omega
    · split
      · omega
      · split
        · split <;> omega
        · omega
theorem reqLen_pos {b : Int} : reqLen b = 0 ∨ 1 ≤ reqLen b ∧ reqLen b ≤ 26 := by
  unfold reqLen; repeat' split <;> omega
/-- A whole frame has two bytes or more, and no more than there are. -/
theorem rdN_ok (bs : List Int) (h : rdErr bs = 0) : 2 ≤ (rdN bs).toNat ∧ (rdN bs).toNat ≤ bs.length ∧ rdN bs = ((rdN bs).toNat : Int) ∧ (rdN bs).toNat ≤ 27 := by
  have hn : rdN bs = bs.getD 0 0 + 1 := by unfold rdN; rw [if_pos h]
  cases bs with
  | nil => simp [rdErr] at h
  | cons b0 t =>
    cases t with
    | nil =>
      simp only [rdErr] at h
      split at h <;> omega
    | cons b1 r =>
      simp only [rdErr] at h
      split at h
      · omega
      · split at h
        · split at h
          · omega
          · rw [hn]
            have e : (b0 :: b1 :: r).getD 0 0 = b0 := rfl
            rw [e]
            simp only [List.length_cons] at *
            omega
        · omega

theorem orNever_ok (x : Int) (h : 0 ≤ x) : 0 ≤ orNever x ∧ orNever x ≤ 18446744073709551615 := by unfold orNever; split <;> omega
theorem startM_ok (q : Qt) (now : Int) (hq : q.ok) (h0 : 0 ≤ now) : 0 ≤ startM q now := by unfold startM; have := hq.lv; split <;> omega
theorem turnM_ok' (q : Qt) (now : Int) (hq : q.ok) (h0 : 0 ≤ now) (h1 : now ≤ 18446744073709551615) : (turnM q now).ok := by
  unfold turnM
  split
  · exact hq
  · split
    · exact hq
    · rcases hq.kd with ⟨hk, _⟩ | ⟨hk, hy⟩
      · contradiction
      · have d0 : 0 ≤ now / q.y := Int.ediv_nonneg h0 (by omega)
        have d1 : now / q.y ≤ now := Int.ediv_le_self q.y h0
        exact ⟨hq.kd, hq.x, hq.y, ⟨by simp, by simp⟩, ⟨d0, by show now / q.y ≤ _; omega⟩⟩
theorem admM_ok (q : Qt) (now n : Int) (hq : q.ok) (h0 : 0 ≤ now) (h1 : now ≤ 18446744073709551615) (n0 : 0 ≤ n) : (admM q now n).1.ok ∧ (admM q now n).2.ok ∧ ((admM q now n).2.c = 2 ∨ (admM q now n).2.c = 3) := by
  have hx := hq.x; have hy := hq.y; have hl := hq.lv; have hw := hq.wn
  have hs := startM_ok q now hq h0
  unfold admM
  split
  · have hkx : 1 ≤ q.x := by rcases hq.kd with h | h <;> omega
    unfold admS
    split
    · exact ⟨hq, ⟨by simp, hl, hw⟩, Or.inl rfl⟩
    · have hp0 : 0 ≤ n * q.x := Int.mul_nonneg n0 (by omega)
      have hn1 : 0 ≤ (n - 1) * q.x := Int.mul_nonneg (by omega) (by omega)
      have hnx : n * q.x = (n - 1) * q.x + q.x := by rw [Int.sub_mul]; omega
      split
      · exact ⟨hq, ⟨by simp, by simp, by simp⟩, Or.inr rfl⟩
      · split
        · exact ⟨hq, ⟨by simp, by simp, by simp⟩, Or.inr rfl⟩
        · split
          · rename_i c3
            refine ⟨hq, ⟨by simp, ?_, by simp⟩, Or.inr rfl⟩
            unfold orNever at c3
            show 0 ≤ startM q now + (n - 1) * q.x - q.y ∧ startM q now + (n - 1) * q.x - q.y ≤ 18446744073709551615
            split at c3 <;> omega
          · have h2 : 0 ≤ startM q now + n * q.x ∧ startM q now + n * q.x ≤ 18446744073709551615 := by omega
            exact ⟨⟨hq.kd, hx, hy, h2, hw⟩, ⟨by simp, h2, hw⟩, Or.inl rfl⟩
  · have ht := turnM_ok' q now hq h0 h1
    have tl := ht.lv; have tx := ht.x; have ty := ht.y; have tw := ht.wn
    unfold admW
    split
    · have h2 : 0 ≤ (turnM q now).lv + n ∧ (turnM q now).lv + n ≤ 18446744073709551615 := by omega
      exact ⟨⟨ht.kd, tx, ty, h2, tw⟩, ⟨by simp, h2, tw⟩, Or.inl rfl⟩
    · split
      · exact ⟨ht, ⟨by simp, by simp, by simp⟩, Or.inr rfl⟩
      · refine ⟨ht, ⟨by simp, orNever_ok _ ?_, by simp⟩, Or.inr rfl⟩
        have := Int.mul_nonneg tw.1 ty.1
        omega

theorem fnd_mem {k : Ky} {q : Qt} : ∀ {ks : List (Ky × Qt)}, fnd k ks = some q → (k, q) ∈ ks
  | [], h => by simp [fnd] at h
  | (k2, q2) :: r, h => by
    unfold fnd at h
    split at h
    · rename_i e
      subst e
      injection h with h
      subst h
      exact List.mem_cons_self
    · exact List.mem_cons_of_mem _ (fnd_mem h)
theorem mem_upd {k : Ky} {q : Qt} {p : Ky × Qt} : ∀ {ks : List (Ky × Qt)}, p ∈ upd k q ks → p ∈ ks ∨ p = (k, q)
  | [], h => by simp [upd] at h
  | (k2, q2) :: r, h => by
    unfold upd at h
    split at h
    · rename_i e
      subst e
      rcases List.mem_cons.1 h with h | h
      · exact Or.inr h
      · exact Or.inl (List.mem_cons_of_mem _ h)
    · rcases List.mem_cons.1 h with h | h
      · exact Or.inl (h ▸ List.mem_cons_self)
      · exact (mem_upd h).imp (List.mem_cons_of_mem _) id
theorem map_upd {k : Ky} {q : Qt} : ∀ {ks : List (Ky × Qt)}, (upd k q ks).map Prod.fst = ks.map Prod.fst
  | [] => rfl
  | (k2, q2) :: r => by
    unfold upd
    split
    · rfl
    · simp [map_upd]
theorem del_sub {k : Ky} : ∀ {ks : List (Ky × Qt)}, (del k ks).Sublist ks
  | [] => List.Sublist.slnil
  | (k2, q2) :: r => by
    unfold del
    split
    · exact List.sublist_cons_self _ _
    · exact del_sub.cons_cons _
theorem fnd_none_not {k : Ky} : ∀ {ks : List (Ky × Qt)}, fnd k ks = none → k ∉ ks.map Prod.fst
  | [], _ => by simp
  | (k2, q2) :: r, h => by
    unfold fnd at h
    split at h
    · simp at h
    · rename_i e
      simp only [List.map_cons, List.mem_cons, not_or]
      exact ⟨fun h' => e h'.symm, fnd_none_not h⟩

theorem doM_ok (L : Ld) (q : Rq) (hL : L.ok) (hq : q.ok) : (doM L q).1.ok ∧ (doM L q).2.ok := by
  have ht := hL.time
  have s1 : ∀ c : Int, 0 ≤ c → c ≤ 255 → (⟨c, 0, 0⟩ : Rp).ok := fun c h h' => ⟨⟨h, h'⟩, by simp, by simp⟩
  unfold doM
  split
  · split
    · exact ⟨hL, s1 8 (by omega) (by omega)⟩
    · split
      · exact ⟨hL, s1 9 (by omega) (by omega)⟩
      · split
        · exact ⟨hL, s1 5 (by omega) (by omega)⟩
        · rename_i hso hf hlen
          refine ⟨⟨ht, hL.adm, ?_, ?_, ?_, ?_⟩, s1 1 (by omega) (by omega)⟩
          · intro p hp
            rcases List.mem_append.1 hp with h | h
            · exact hL.key p h
            · simp at h; subst h; exact hq.key
          · intro p hp
            rcases List.mem_append.1 hp with h | h
            · exact hL.qt p h
            · simp at h; subst h
              exact ⟨Decidable.not_not.1 hso, hq.x, hq.y, by simp, by simp⟩
          · rw [List.map_append]
            refine List.nodup_append.2 ⟨hL.nd, by simp, ?_⟩
            intro a ha b hb e
            simp at hb
            subst hb e
            exact fnd_none_not (by simpa using hf) ha
          · show (L.ks ++ [_]).length ≤ 12
            simp; omega
  · split
    · cases hf : fnd q.key L.ks with
      | none => exact ⟨hL, s1 4 (by omega) (by omega)⟩
      | some z =>
        have hz := hL.qt _ (fnd_mem hf)
        obtain ⟨g1, g2, _⟩ := admM_ok z L.time q.n hz ht.1 ht.2 hq.n.1
        refine ⟨⟨ht, ?_, ?_, ?_, ?_, ?_⟩, g2⟩
        · have ha := hL.adm
          dsimp only
          split <;> omega
        · intro p hp
          rcases mem_upd hp with h | h
          · exact hL.key p h
          · rw [h]; exact hq.key
        · intro p hp
          rcases mem_upd hp with h | h
          · exact hL.qt p h
          · rw [h]; exact g1
        · show ((upd _ _ _).map Prod.fst).Nodup
          rw [map_upd]; exact hL.nd
        · show (upd _ _ _).length ≤ 12
          rw [length_upd]; exact hL.len
    · split
      · cases hf : fnd q.key L.ks with
        | none => exact ⟨hL, s1 4 (by omega) (by omega)⟩
        | some z =>
          have hz := turnM_ok' z L.time (hL.qt _ (fnd_mem hf)) ht.1 ht.2
          exact ⟨hL, ⟨by simp, hz.lv, hz.wn⟩⟩
      · split
        · cases hf : fnd q.key L.ks with
          | none => exact ⟨hL, s1 4 (by omega) (by omega)⟩
          | some z =>
            refine ⟨⟨ht, hL.adm, fun p hp => hL.key p (del_sub.subset hp), fun p hp => hL.qt p (del_sub.subset hp), (del_sub.map _).nodup hL.nd, ?_⟩, s1 1 (by omega) (by omega)⟩
            exact Nat.le_trans del_sub.length_le hL.len
        · split
          · exact ⟨hL, ⟨by simp, ht, by simp⟩⟩
          · exact ⟨hL, s1 1 (by omega) (by omega)⟩

/-- As runM, with fuel enough. -/
theorem runM_fuel : ∀ (n : Nat) (L : Ld) (bs : List Int), bs.length ≤ n → runM n L bs = runM bs.length L bs := by
  intro n
  induction n using Nat.strongRecOn with
  | ind n ih =>
    intro L bs h
    cases n with
    | zero => rw [show bs.length = 0 by omega]
    | succ n =>
      cases hb : bs.length with
      | zero =>
        have e : bs = [] := List.length_eq_zero_iff.1 hb
        subst e
        simp [runM, rdErr]
      | succ m =>
        unfold runM
        by_cases h0 : rdErr bs = 0
        · rw [if_pos h0, if_pos h0]
          obtain ⟨r1, r2, _, _⟩ := rdN_ok bs h0
          have hl : (bs.drop (rdN bs).toNat).length ≤ m := by rw [List.length_drop]; omega
          rw [ih n (by omega) _ _ (by omega), ih m (by omega) _ _ hl]
        · rw [if_neg h0, if_neg h0]
def runL (L : Ld) (bs : List Int) : Ld × List Rp × List Int × Int := runM bs.length L bs
theorem runL_stop (L : Ld) (bs : List Int) (h : rdErr bs ≠ 0) : runL L bs = (L, [], bs, rdErr bs) := by
  unfold runL
  cases hb : bs.length with
  | zero => rfl
  | succ n => unfold runM; rw [if_neg h]
theorem runL_step (L : Ld) (bs : List Int) (h : rdErr bs = 0) : runL L bs = ((runL (doM L (rdQ bs)).1 (bs.drop (rdN bs).toNat)).1, (doM L (rdQ bs)).2 :: (runL (doM L (rdQ bs)).1 (bs.drop (rdN bs).toNat)).2.1, (runL (doM L (rdQ bs)).1 (bs.drop (rdN bs).toNat)).2.2) := by
  obtain ⟨r1, r2, _, _⟩ := rdN_ok bs h
  have e : runL L bs = runM bs.length L bs := rfl
  rw [e]
  cases hb : bs.length with
  | zero => omega
  | succ n =>
    unfold runM
    rw [if_pos h, runM_fuel n _ _ (by rw [List.length_drop]; omega)]
    rfl
end Go.Proofs.YtlamgpeiolfffaaGreatDoor

namespace Go.Proofs.YtlamgpeiolfffaaGreatDoor
open Go.RowKit Go.Lib Go.Shelf

namespace Mul
def ren : Go.Shelf.Ren := ⟨fun _ => 145, fun n => if n = 46 then 223 else 23, fun n => n⟩
theorem lays : Lays.n264 Tryz.prog ren where
  mixed := by first | exact Tryz.mixed | kernel_rfl | decide
  f264 := by kernel_rfl
  t46 := by first | exact Tryz.underlying223 | kernel_rfl
  a46 := by first | exact Tryz.isAgg223 | (intro w; kernel_rfl)
  z46 := by first | exact Tryz.sizeOf223 | (intro w; kernel_rfl)
  v46 := by first | exact Tryz.zeroValue223 | (intro w; kernel_rfl)
  t53 := by first | exact Tryz.underlying23 | kernel_rfl
  a53 := by first | exact Tryz.isAgg23 | (intro w; kernel_rfl)
  z53 := by first | exact Tryz.sizeOf23 | (intro w; kernel_rfl)
  v53 := by first | exact Tryz.zeroValue23 | (intro w; kernel_rfl)
end Mul

theorem mul64_any (x y : Nat) (hx : x < 18446744073709551616) (hy : y < 18446744073709551616) (w : World) :
    Calls Tryz.prog 145 #[.int .u64 x, .int .u64 y] w fun e w' => e = .returned (.tuple #[.int .u64 ((x * y / 18446744073709551616 : Nat) : Int), .int .u64 ((x * y % 18446744073709551616 : Nat) : Int)]) ∧ w' = w :=
  Any.bits_Mul64 Mul.lays x y hx hy w

set_option maxRecDepth 100000 in
theorem product_room (a b : Int) (w : World) (ha : 0 ≤ a) (hb : 0 ≤ b) (ha1 : a ≤ 18446744073709551615) (hb1 : b ≤ 18446744073709551615) (p : Int) (hp : a * b = p) (h : p ≤ 18446744073709551615) :
    Calls Tryz.prog 143 #[.int .u64 a, .int .u64 b] w fun e w' => e = .returned (.tuple #[.int .u64 p, .bool true]) ∧ w' = w := by
  obtain ⟨x, rfl⟩ := Int.eq_ofNat_of_zero_le ha
  obtain ⟨y, rfl⟩ := Int.eq_ofNat_of_zero_le hb
  have hc := mul64_any x y (by omega) (by omega) w
  have hp' : ((x * y : Nat) : Int) = p := by rw [← hp]; exact Int.natCast_mul x y
  generalize x * y = z at hc hp'
  subst hp'
  clear hp
  rw [Nat.div_eq_of_lt (by omega), Nat.mod_eq_of_lt (by omega)] at hc
  go_enter Tryz.func143, Tryz.ntmps143
  go_wp2_with (go_at_call 145; refine hc.mono ?_; rintro e w' ⟨rfl, rfl⟩)
  go_ret2
  exact ⟨rfl, rfl⟩

set_option maxRecDepth 100000 in
theorem product_none (a b : Int) (w : World) (ha : 0 ≤ a) (hb : 0 ≤ b) (ha1 : a ≤ 18446744073709551615) (hb1 : b ≤ 18446744073709551615) (p : Int) (hp : a * b = p) (h : 18446744073709551615 < p) :
    Calls Tryz.prog 143 #[.int .u64 a, .int .u64 b] w fun e w' => e = .returned (.tuple #[.int .u64 0, .bool false]) ∧ w' = w := by
  obtain ⟨x, rfl⟩ := Int.eq_ofNat_of_zero_le ha
  obtain ⟨y, rfl⟩ := Int.eq_ofNat_of_zero_le hb
  have hc := mul64_any x y (by omega) (by omega) w
  have hp' : ((x * y : Nat) : Int) = p := by rw [← hp]; exact Int.natCast_mul x y
  generalize x * y = z at hc hp'
  subst hp'
  clear hp
  have h2 : 0 < z / 18446744073709551616 := Nat.div_pos (by omega) (by omega)
  generalize z / 18446744073709551616 = q at hc h2
  have h4 : ¬ ((q : Int) = 0) := by omega
  have h3 : ((q : Int) != 0) = true := by simp; omega
  clear h2 h
  go_enter Tryz.func143, Tryz.ntmps143
  go_wp2_with (go_at_call 145; refine hc.mono ?_; rintro e w' ⟨rfl, rfl⟩)
  go_ret2
  exact ⟨rfl, rfl⟩
end Go.Proofs.YtlamgpeiolfffaaGreatDoor
