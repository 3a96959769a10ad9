import Derived.Test.YtlamgpeiolfffaaGreatDoorZz14
import Derived.Test.YtlamgpeiolfffaaGreatDoorZz05
import Derived.Laws.IdiomStrings
import Derived.Laws.BytesArg
set_option linter.unusedSectionVars false
namespace Go.Proofs.YtlamgpeiolfffaaGreatDoor
open Go.RowKit
variable [dK] [iK]

structure Rp.ok (r : Rp) : Prop where
  c : 0 ≤ r.c ∧ r.c ≤ 255
  a : 0 ≤ r.a ∧ r.a ≤ 18446744073709551615
  b : 0 ≤ r.b ∧ r.b ≤ 18446744073709551615
structure Rq.ok (q : Rq) : Prop where
  key : q.key.ok
  x : 0 ≤ q.x ∧ q.x ≤ 18446744073709551615
  y : 0 ≤ q.y ∧ q.y ≤ 18446744073709551615
  n : 0 ≤ q.n ∧ q.n ≤ 18446744073709551615
def Bytes (bs : List Int) : Prop := ∀ b ∈ bs, 0 ≤ b ∧ b ≤ 255
theorem Bytes.getD {bs : List Int} (h : Bytes bs) (j : Nat) : 0 ≤ bs.getD j 0 ∧ bs.getD j 0 ≤ 255 := by
  by_cases hj : j < bs.length
  · have e : bs.getD j 0 = bs[j] := by simp [List.getD, List.getElem?_eq_getElem hj]
    rw [e]; exact h _ (List.getElem_mem hj)
  · have e : bs.getD j 0 = 0 := by simp [List.getD, List.getElem?_eq_none (Nat.le_of_not_lt hj)]
    rw [e]; omega
theorem Bytes.drop {bs : List Int} (h : Bytes bs) (n : Nat) : Bytes (bs.drop n) := fun b hb => h b (List.mem_of_mem_drop hb)
theorem Bytes.app {a b : List Int} (ha : Bytes a) (hb : Bytes b) : Bytes (a ++ b) := fun x hx => (List.mem_append.1 hx).elim (ha x) (hb x)

theorem num8_ok (bs : List Int) (h : Bytes bs) (o : Nat) : 0 ≤ num8 bs o ∧ num8 bs o ≤ 18446744073709551615 := by
  have := rdTo_bound (fun j => bs.getD (o + j) 0) (fun j => h.getD (o + j)) 8
  unfold num8
  have e : (256 : Int) ^ 8 = 18446744073709551616 := by decide
  omega
theorem rdQ_ok (bs : List Int) (h : Bytes bs) : (rdQ bs).ok := by
  have z : (0 : Int) ≤ 0 ∧ (0 : Int) ≤ 255 := by omega
  have z' : (0 : Int) ≤ 0 ∧ (0 : Int) ≤ 18446744073709551615 := by omega
  unfold rdQ
  split
  · split
    · exact ⟨⟨h.getD 2, h.getD 3, h.getD 4, h.getD 5, h.getD 6, h.getD 7, h.getD 8, h.getD 9⟩, num8_ok bs h 11, num8_ok bs h 19, z'⟩
    · split
      · exact ⟨⟨h.getD 2, h.getD 3, h.getD 4, h.getD 5, h.getD 6, h.getD 7, h.getD 8, h.getD 9⟩, z', z', num8_ok bs h 10⟩
      · split
        · exact ⟨⟨h.getD 2, h.getD 3, h.getD 4, h.getD 5, h.getD 6, h.getD 7, h.getD 8, h.getD 9⟩, z', z', z'⟩
        · exact ⟨⟨z, z, z, z, z, z, z, z⟩, z', z', z'⟩
  · exact ⟨⟨z, z, z, z, z, z, z, z⟩, z', z', z'⟩
theorem rdErr_cases (bs : List Int) : rdErr bs = 0 ∨ rdErr bs = 1 ∨ rdErr bs = 2 := by
  unfold rdErr
  split
  · omega
  · split
    · omega
    · split
      · omega
      · split
        · split <;> omega
        · omega
theorem reqLen_pos {b : Int} : reqLen b = 0 ∨ 1 ≤ reqLen b ∧ reqLen b ≤ 26 := by
  unfold reqLen; repeat' split <;> omega
/-- A whole frame has two bytes or more, and no more than there are. -/
theorem rdN_ok (bs : List Int) (h : rdErr bs = 0) : 2 ≤ (rdN bs).toNat ∧ (rdN bs).toNat ≤ bs.length ∧ rdN bs = ((rdN bs).toNat : Int) ∧ (rdN bs).toNat ≤ 27 := by
  have hn : rdN bs = bs.getD 0 0 + 1 := by unfold rdN; rw [if_pos h]
  cases bs with
  | nil => simp [rdErr] at h
  | cons b0 t =>
    cases t with
    | nil =>
      simp only [rdErr] at h
      split at h <;> omega
    | cons b1 r =>
      simp only [rdErr] at h
      split at h
      · omega
      · split at h
        · split at h
          · omega
          · rw [hn]
            have e : (b0 :: b1 :: r).getD 0 0 = b0 := rfl
            rw [e]
            simp only [List.length_cons] at *
            omega
        · omega

theorem orNever_ok (x : Int) (h : 0 ≤ x) : 0 ≤ orNever x ∧ orNever x ≤ 18446744073709551615 := by unfold orNever; split <;> omega
theorem startM_ok (q : Qt) (now : Int) (hq : q.ok) (h0 : 0 ≤ now) : 0 ≤ startM q now := by unfold startM; have := hq.lv; split <;> omega
theorem turnM_ok' (q : Qt) (now : Int) (hq : q.ok) (h0 : 0 ≤ now) (h1 : now ≤ 18446744073709551615) : (turnM q now).ok := by
  unfold turnM
  split
  · exact hq
  · split
    · exact hq
    · rcases hq.kd with ⟨hk, _⟩ | ⟨hk, hy⟩
      · contradiction
      · have d0 : 0 ≤ now / q.y := Int.ediv_nonneg h0 (by omega)
        have d1 : now / q.y ≤ now := Int.ediv_le_self q.y h0
        exact ⟨hq.kd, hq.x, hq.y, ⟨by simp, by simp⟩, ⟨d0, by show now / q.y ≤ _; omega⟩⟩
theorem admM_ok (q : Qt) (now n : Int) (hq : q.ok) (h0 : 0 ≤ now) (h1 : now ≤ 18446744073709551615) (n0 : 0 ≤ n) : (admM q now n).1.ok ∧ (admM q now n).2.ok ∧ ((admM q now n).2.c = 2 ∨ (admM q now n).2.c = 3) := by
  have hx := hq.x; have hy := hq.y; have hl := hq.lv; have hw := hq.wn
  have hs := startM_ok q now hq h0
  unfold admM
  split
  · have hkx : 1 ≤ q.x := by rcases hq.kd with h | h <;> omega
    unfold admS
    split
    · exact ⟨hq, ⟨by simp, hl, hw⟩, Or.inl rfl⟩
    · have hp0 : 0 ≤ n * q.x := Int.mul_nonneg n0 (by omega)
      have hn1 : 0 ≤ (n - 1) * q.x := Int.mul_nonneg (by omega) (by omega)
      have hnx : n * q.x = (n - 1) * q.x + q.x := by rw [Int.sub_mul]; omega
      split
      · exact ⟨hq, ⟨by simp, by simp, by simp⟩, Or.inr rfl⟩
      · split
        · exact ⟨hq, ⟨by simp, by simp, by simp⟩, Or.inr rfl⟩
        · split
          · rename_i c3
            refine ⟨hq, ⟨by simp, ?_, by simp⟩, Or.inr rfl⟩
            unfold orNever at c3
            show 0 ≤ startM q now + (n - 1) * q.x - q.y ∧ startM q now + (n - 1) * q.x - q.y ≤ 18446744073709551615
            split at c3 <;> omega
          · have h2 : 0 ≤ startM q now + n * q.x ∧ startM q now + n * q.x ≤ 18446744073709551615 := by omega
            exact ⟨⟨hq.kd, hx, hy, h2, hw⟩, ⟨by simp, h2, hw⟩, Or.inl rfl⟩
  · have ht := turnM_ok' q now hq h0 h1
    have tl := ht.lv; have tx := ht.x; have ty := ht.y; have tw := ht.wn
    unfold admW
    split
    · have h2 : 0 ≤ (turnM q now).lv + n ∧ (turnM q now).lv + n ≤ 18446744073709551615 := by omega
      exact ⟨⟨ht.kd, tx, ty, h2, tw⟩, ⟨by simp, h2, tw⟩, Or.inl rfl⟩
    · split
      · exact ⟨ht, ⟨by simp, by simp, by simp⟩, Or.inr rfl⟩
      · refine ⟨ht, ⟨by simp, orNever_ok _ ?_, by simp⟩, Or.inr rfl⟩
        have := Int.mul_nonneg tw.1 ty.1
        omega

theorem fnd_mem {k : Ky} {q : Qt} : ∀ {ks : List (Ky × Qt)}, fnd k ks = some q → (k, q) ∈ ks
  | [], h => by simp [fnd] at h
  | (k2, q2) :: r, h => by
    unfold fnd at h
    split at h
    · rename_i e
      subst e
      injection h with h
      subst h
      exact List.mem_cons_self
    · exact List.mem_cons_of_mem _ (fnd_mem h)
theorem mem_upd {k : Ky} {q : Qt} {p : Ky × Qt} : ∀ {ks : List (Ky × Qt)}, p ∈ upd k q ks → p ∈ ks ∨ p = (k, q)
  | [], h => by simp [upd] at h
  | (k2, q2) :: r, h => by
    unfold upd at h
    split at h
    · rename_i e
      subst e
      rcases List.mem_cons.1 h with h | h
      · exact Or.inr h
      · exact Or.inl (List.mem_cons_of_mem _ h)
    · rcases List.mem_cons.1 h with h | h
      · exact Or.inl (h ▸ List.mem_cons_self)
      · exact (mem_upd h).imp (List.mem_cons_of_mem _) id
theorem map_upd {k : Ky} {q : Qt} : ∀ {ks : List (Ky × Qt)}, (upd k q ks).map Prod.fst = ks.map Prod.fst
  | [] => rfl
  | (k2, q2) :: r => by
    unfold upd
    split
    · rfl
    · simp [map_upd]
theorem del_sub {k : Ky} : ∀ {ks : List (Ky × Qt)}, (del k ks).Sublist ks
  | [] => List.Sublist.slnil
  | (k2, q2) :: r => by
    unfold del
    split
    · exact List.sublist_cons_self _ _
    · exact del_sub.cons_cons _
theorem fnd_none_not {k : Ky} : ∀ {ks : List (Ky × Qt)}, fnd k ks = none → k ∉ ks.map Prod.fst
  | [], _ => by simp
  | (k2, q2) :: r, h => by
    unfold fnd at h
    split at h
    · simp at h
    · rename_i e
      simp only [List.map_cons, List.mem_cons, not_or]
      exact ⟨fun h' => e h'.symm, fnd_none_not h⟩

theorem doM_ok (L : Ld) (q : Rq) (hL : L.ok) (hq : q.ok) : (doM L q).1.ok ∧ (doM L q).2.ok := by
  have ht := hL.time
  have s1 : ∀ c : Int, 0 ≤ c → c ≤ 255 → (⟨c, 0, 0⟩ : Rp).ok := fun c h h' => ⟨⟨h, h'⟩, by simp, by simp⟩
  unfold doM
  split
  · split
    · exact ⟨hL, s1 8 (by omega) (by omega)⟩
    · split
      · exact ⟨hL, s1 9 (by omega) (by omega)⟩
      · split
        · exact ⟨hL, s1 5 (by omega) (by omega)⟩
        · rename_i hso hf hlen
          refine ⟨⟨ht, hL.adm, ?_, ?_, ?_, ?_⟩, s1 1 (by omega) (by omega)⟩
          · intro p hp
            rcases List.mem_append.1 hp with h | h
            · exact hL.key p h
            · simp at h; subst h; exact hq.key
          · intro p hp
            rcases List.mem_append.1 hp with h | h
            · exact hL.qt p h
            · simp at h; subst h
              exact ⟨Decidable.not_not.1 hso, hq.x, hq.y, by simp, by simp⟩
          · rw [List.map_append]
            refine List.nodup_append.2 ⟨hL.nd, by simp, ?_⟩
            intro a ha b hb e
            simp at hb
            subst hb e
            exact fnd_none_not (by simpa using hf) ha
          · show (L.ks ++ [_]).length ≤ 12
            simp; omega
  · split
    · cases hf : fnd q.key L.ks with
      | none => exact ⟨hL, s1 4 (by omega) (by omega)⟩
      | some z =>
        have hz := hL.qt _ (fnd_mem hf)
        obtain ⟨g1, g2, _⟩ := admM_ok z L.time q.n hz ht.1 ht.2 hq.n.1
        refine ⟨⟨ht, ?_, ?_, ?_, ?_, ?_⟩, g2⟩
        · have ha := hL.adm
          dsimp only
          split <;> omega
        · intro p hp
          rcases mem_upd hp with h | h
          · exact hL.key p h
          · rw [h]; exact hq.key
        · intro p hp
          rcases mem_upd hp with h | h
          · exact hL.qt p h
          · rw [h]; exact g1
        · show ((upd _ _ _).map Prod.fst).Nodup
          rw [map_upd]; exact hL.nd
        · show (upd _ _ _).length ≤ 12
          rw [length_upd]; exact hL.len
    · split
      · cases hf : fnd q.key L.ks with
        | none => exact ⟨hL, s1 4 (by omega) (by omega)⟩
        | some z =>
          have hz := turnM_ok' z L.time (hL.qt _ (fnd_mem hf)) ht.1 ht.2
          exact ⟨hL, ⟨by simp, hz.lv, hz.wn⟩⟩
      · split
        · cases hf : fnd q.key L.ks with
          | none => exact ⟨hL, s1 4 (by omega) (by omega)⟩
          | some z =>
            refine ⟨⟨ht, hL.adm, fun p hp => hL.key p (del_sub.subset hp), fun p hp => hL.qt p (del_sub.subset hp), (del_sub.map _).nodup hL.nd, ?_⟩, s1 1 (by omega) (by omega)⟩
            exact Nat.le_trans del_sub.length_le hL.len
        · split
          · exact ⟨hL, ⟨by simp, ht, by simp⟩⟩
          · exact ⟨hL, s1 1 (by omega) (by omega)⟩

/-- As runM, with fuel enough. -/
theorem runM_fuel : ∀ (n : Nat) (L : Ld) (bs : List Int), bs.length ≤ n → runM n L bs = runM bs.length L bs := by
  intro n
  induction n using Nat.strongRecOn with
  | ind n ih =>
    intro L bs h
    cases n with
    | zero => rw [show bs.length = 0 by omega]
    | succ n =>
      cases hb : bs.length with
      | zero =>
        have e : bs = [] := List.length_eq_zero_iff.1 hb
        subst e
        simp [runM, rdErr]
      | succ m =>
        unfold runM
        by_cases h0 : rdErr bs = 0
        · rw [if_pos h0, if_pos h0]
          obtain ⟨r1, r2, _, _⟩ := rdN_ok bs h0
          have hl : (bs.drop (rdN bs).toNat).length ≤ m := by rw [List.length_drop]; omega
          rw [ih n (by omega) _ _ (by omega), ih m (by omega) _ _ hl]
        · rw [if_neg h0, if_neg h0]
def runL (L : Ld) (bs : List Int) : Ld × List Rp × List Int × Int := runM bs.length L bs
theorem runL_stop (L : Ld) (bs : List Int) (h : rdErr bs ≠ 0) : runL L bs = (L, [], bs, rdErr bs) := by
  unfold runL
  cases hb : bs.length with
  | zero => rfl
  | succ n => unfold runM; rw [if_neg h]
theorem runL_step (L : Ld) (bs : List Int) (h : rdErr bs = 0) : runL L bs = ((runL (doM L (rdQ bs)).1 (bs.drop (rdN bs).toNat)).1, (doM L (rdQ bs)).2 :: (runL (doM L (rdQ bs)).1 (bs.drop (rdN bs).toNat)).2.1, (runL (doM L (rdQ bs)).1 (bs.drop (rdN bs).toNat)).2.2) := by
  obtain ⟨r1, r2, _, _⟩ := rdN_ok bs h
  have e : runL L bs = runM bs.length L bs := rfl
  rw [e]
  cases hb : bs.length with
  | zero => omega
  | succ n =>
    unfold runM
    rw [if_pos h, runM_fuel n _ _ (by rw [List.length_drop]; omega)]
    rfl
end Go.Proofs.YtlamgpeiolfffaaGreatDoor

namespace Go.Proofs.YtlamgpeiolfffaaGreatDoor
open Go.RowKit
variable [dK] [iK]

/-- A string's bytes, as numbers. -/
def numsOf (s : ByteArray) : List Int := s.data.toList.map (fun b => (b.toNat : Int))
theorem numsOf_length (s : ByteArray) : (numsOf s).length = s.size := by simp [numsOf]
theorem numsOf_append (a b : ByteArray) : numsOf (a ++ b) = numsOf a ++ numsOf b := by simp [numsOf]
theorem numsOf_str (xs : List Int) (h : Bytes xs) : numsOf (strOfNums xs) = xs := by
  unfold numsOf
  rw [strOfNums_data, List.map_map]
  conv => rhs; rw [← List.map_id xs]
  apply List.map_congr_left
  intro x hx
  have := h x hx
  simp
  omega
theorem numsOf_bytes (s : ByteArray) : Bytes (numsOf s) := by
  intro x hx
  obtain ⟨b, _, rfl⟩ := List.mem_map.1 hx
  have := b.toNat_lt
  omega
theorem strOf_app (a b : List Int) : strOfNums (a ++ b) = strOfNums a ++ strOfNums b := by
  apply ByteArray.ext
  apply Array.ext'
  simp [strOfNums_data]
theorem conv_own {w : World} {base n : Nat} {v : Value} {bs : List Int} (h : w.ownsRow base 5 1 v n (bs.map (Value.int .u8))) (hn : bs.length = n) : (convert 69 9 v).run Tryz.prog w = .ok (.string (strOfNums bs)) w := by
  rcases h.2 with ⟨h2, h0⟩ | ⟨g, cap, cur, hv, _⟩
  · have hb : bs = [] := List.eq_nil_of_length_eq_zero (by omega)
    subst hb h2
    exact run_convert_bytes_nil w 69 5 Tryz.underlying69 Tryz.underlying5 0 0 9 Tryz.underlying9
  · subst hv
    refine run_convert_bytes_arg (P := Tryz.prog) w 69 5 Tryz.underlying69 Tryz.underlying5 g 0 n cap bs hn (fun i hi => ?_) 9 Tryz.underlying9
    rw [Nat.zero_add, h.cellAt i (by omega)]
    simp [List.getD, List.getElem?_eq_getElem (show i < bs.length by omega)]

def Rq.enc (q : Rq) : List Int := encReq q.op q.k0 q.k1 q.k2 q.k3 q.k4 q.k5 q.k6 q.k7 q.kd q.x q.y q.n
def encQs (qs : List Rq) : List Int := qs.flatMap Rq.enc
theorem enc_len (q : Rq) : q.enc.length ≤ 27 := by
  have := encReq_length q.op q.k0 q.k1 q.k2 q.k3 q.k4 q.k5 q.k6 q.k7 q.kd q.x q.y q.n
  have h := reqLen_pos (b := q.op)
  unfold Rq.enc
  split at this <;> omega
theorem encQs_len (qs : List Rq) : (encQs qs).length ≤ 27 * qs.length := by
  unfold encQs
  induction qs with
  | nil => simp
  | cons q t ih => rw [List.flatMap_cons, List.length_append]; have := enc_len q; simp only [List.length_cons]; omega

/-- quotaledger.Request, as an owned row. -/
theorem request24 (q : Rq) (hq : q.ok) (w : World) :
    Calls Tryz.prog 24 #[.agg #[.int .u8 q.op, .int .u8 q.k0, .int .u8 q.k1, .int .u8 q.k2, .int .u8 q.k3, .int .u8 q.k4, .int .u8 q.k5, .int .u8 q.k6, .int .u8 q.k7, .int .u8 q.kd, .int .u64 q.x, .int .u64 q.y, .int .u64 q.n]] w
      fun e w' => ∃ a c, e = .returned (.slice a q.enc.length c) ∧ w'.ownsRow w.heap.size 5 1 (.slice a q.enc.length c) q.enc.length (q.enc.map (Value.int .u8)) ∧ Below w.heap.size w w' := by
  refine (request_any q.op q.k0 q.k1 q.k2 q.k3 q.k4 q.k5 q.k6 q.k7 q.kd q.x q.y q.n w hq.x.1 hq.x.2 hq.y.1 hq.y.2 hq.n.1 hq.n.2).mono ?_
  rintro e w' ⟨hb, ⟨h0, rfl⟩ | ⟨h0, g, L, hg, hL, rfl, ho⟩⟩
  · have hl := encReq_length q.op q.k0 q.k1 q.k2 q.k3 q.k4 q.k5 q.k6 q.k7 q.kd q.x q.y q.n
    rw [if_pos h0] at hl
    have he : q.enc.length = 0 := by unfold Rq.enc; omega
    have hn : q.enc = [] := List.length_eq_zero_iff.1 he
    rw [hn]
    exact ⟨none, 0, rfl, World.ownsRow_nil _ _ _ _, hb⟩
  · have e1 : q.enc.length = L := hL.symm
    rw [e1]
    exact ⟨_, _, rfl, ho, hb⟩

set_option maxRecDepth 100000 in
set_option maxHeartbeats 2000000 in
/-- quotaledgerkeep.bytes: requests, one behind the other. -/
theorem bytes9 (A o n cap : Nat) (qs : List Rq) (w : World) (hn : qs.length = n) (hnc : n ≤ cap) (hn1 : n ≤ 1000) (hok : ∀ q ∈ qs, q.ok) (hA : A < w.heap.size)
    (hc : ∀ i (h : i < qs.length) j, w.cell? ⟨A, o + i * 13 + j, none⟩ = (#[.int .u8 qs[i].op, .int .u8 qs[i].k0, .int .u8 qs[i].k1, .int .u8 qs[i].k2, .int .u8 qs[i].k3, .int .u8 qs[i].k4, .int .u8 qs[i].k5, .int .u8 qs[i].k6, .int .u8 qs[i].k7, .int .u8 qs[i].kd, .int .u64 qs[i].x, .int .u64 qs[i].y, .int .u64 qs[i].n] : Array Value)[j]? ∨ 13 ≤ j) :
    Calls Tryz.prog 9 #[.slice (some ⟨A, o, none⟩) n cap] w fun e w' => e = .returned (.string (strOfNums (encQs qs))) ∧ Below w.heap.size w w' := by
  have HC := hide hc
  have HN := hide hn
  have HOK := hide hok
  clear hc hn hok
  go_enter Tryz.func9, Tryz.ntmps9
  go_wp2
  go_loopw [3, 4, 5] (fun s3 s4 s5 wr => ∃ i : Nat, i ≤ n ∧ s4 = .int .i64 i ∧ s3 = .string (strOfNums (encQs (qs.take i))) ∧ Below w.heap.size w wr) (fun _ s4 _ _ => n - (intOf s4).toNat)
  case atStart => exact ⟨0, by omega, rfl, rfl, Below.refl _ _⟩
  case round =>
    obtain ⟨i, hi, rfl, rfl, hb⟩ := hrel
    obtain ⟨st, hst⟩ : ∃ st, st = strOfNums (encQs (qs.take i)) := ⟨_, rfl⟩
    have hsz : st.size ≤ 27000 := by rw [hst, strOfNums_size]; have := encQs_len (qs.take i); rw [List.length_take] at this; omega
    rw [← hst]
    have HST := hide hst
    clear hst
    by_cases hlt : i < n
    · have hil : i < qs.length := by rw [HN.out]; exact hlt
      obtain ⟨q, hq⟩ : ∃ q, q = qs[i] := ⟨_, rfl⟩
      have hqo : q.ok := hq ▸ HOK.out _ (List.getElem_mem hil)
      have hcell : ∀ j, j < 13 → wr.cell? ⟨A, o + i * 13 + j, none⟩ = (#[.int .u8 q.op, .int .u8 q.k0, .int .u8 q.k1, .int .u8 q.k2, .int .u8 q.k3, .int .u8 q.k4, .int .u8 q.k5, .int .u8 q.k6, .int .u8 q.k7, .int .u8 q.kd, .int .u64 q.x, .int .u64 q.y, .int .u64 q.n] : Array Value)[j]? := fun j hj => by
        rw [hb.cell (p := ⟨A, o + i * 13 + j, none⟩) hA, hq]
        exact (HC.out i hil j).elim id (fun h => absurd hj (Nat.not_lt.2 h))
      have k0 := hcell 0 (by omega)
      have k1 := hcell 1 (by omega)
      have k2 := hcell 2 (by omega)
      have k3 := hcell 3 (by omega)
      have k4 := hcell 4 (by omega)
      have k5 := hcell 5 (by omega)
      have k6 := hcell 6 (by omega)
      have k7 := hcell 7 (by omega)
      have k8 := hcell 8 (by omega)
      have k9 := hcell 9 (by omega)
      have k10 := hcell 10 (by omega)
      have k11 := hcell 11 (by omega)
      have k12 := hcell 12 (by omega)
      rw [Nat.add_zero] at k0
      have HQ := hide hq
      clear hcell hq
      go_wp2_with fail
      refine (request24 q hqo _).mono ?_
      rintro e w2 ⟨a2, c2, rfl, hown2, hb2⟩
      have hcv := conv_own hown2 rfl
      obtain ⟨st2, hst2⟩ : ∃ st2, st2 = strOfNums q.enc := ⟨_, rfl⟩
      have hsz2 : st2.size ≤ 27 := by rw [hst2, strOfNums_size]; exact enc_len q
      rw [← hst2] at hcv
      have HS2 := hide hst2
      have hwr := hb.size
      clear hst2 k0 k1 k2 k3 k4 k5 k6 k7 k8 k9 k10 k11 k12 hown2
      go_wp2
      go_roundw
      case rel =>
        refine ⟨i + 1, by omega, by go_num, ?_, hb.trans (hb2.mono hwr)⟩
        have htk : qs.take (i + 1) = qs.take i ++ [qs[i]] := by rw [List.take_add_one, List.getElem?_eq_getElem hil]; rfl
        have hen : encQs (qs.take (i + 1)) = encQs (qs.take i) ++ qs[i].enc := by rw [htk]; unfold encQs; rw [List.flatMap_append]; simp only [List.flatMap_cons, List.flatMap_nil, List.append_nil]
        rw [HST.out, HS2.out, HQ.out, ← strOf_app, hen]
      case measure => simp [intOf]; omega
    · obtain rfl : i = n := by omega
      go_wp2
      go_ret
      refine ⟨?_, hb⟩
      rw [HST.out, List.take_of_length_le (by rw [HN.out]; exact Nat.le_refl _)]
      rfl
end Go.Proofs.YtlamgpeiolfffaaGreatDoor
