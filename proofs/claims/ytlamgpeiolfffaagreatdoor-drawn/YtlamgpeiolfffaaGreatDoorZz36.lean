import Derived.Test.YtlamgpeiolfffaaGreatDoorZz15
import Derived.Test.YtlamgpeiolfffaaGreatDoorZz11
set_option linter.unusedSectionVars false
namespace Go.Proofs.YtlamgpeiolfffaaGreatDoor
open Go.RowKit
variable [dK] [iK]

theorem getD_app (a b : List Int) (j : Nat) (h : j < a.length) : (a ++ b).getD j 0 = a.getD j 0 := by
  simp [List.getD, List.getElem?_append_left h]
theorem rdTo_congr (f g : Nat → Int) : ∀ n, (∀ j, j < n → f j = g j) → rdTo f n = rdTo g n
  | 0, _ => rfl
  | n + 1, h => by
    simp only [rdTo]
    rw [rdTo_congr f g n (fun j hj => h j (by omega)), h n (by omega)]
theorem num8_app (a b : List Int) (o : Nat) (h : o + 8 ≤ a.length) : num8 (a ++ b) o = num8 a o := by
  unfold num8
  exact rdTo_congr _ _ 8 (fun j hj => getD_app a b (o + j) (by omega))

/-- The shape of bytes that begin with a whole frame. -/
theorem rdErr_zero {a : List Int} (h : rdErr a = 0) : ∃ b0 b1 t, a = b0 :: b1 :: t ∧ 1 ≤ b0 ∧ b0 ≤ 26 ∧ b0 = reqLen b1 ∧ b0 < (a.length : Int) := by
  cases a with
  | nil => simp [rdErr] at h
  | cons b0 t =>
    cases t with
    | nil =>
      simp only [rdErr] at h
      split at h <;> omega
    | cons b1 r =>
      simp only [rdErr] at h
      split at h
      · omega
      · split at h
        · split at h
          · omega
          · exact ⟨b0, b1, r, rfl, by omega, by omega, by assumption, by omega⟩
        · omega
theorem rdErr_app0 (a b : List Int) (h : rdErr a = 0) : rdErr (a ++ b) = 0 := by
  obtain ⟨b0, b1, t, rfl, h1, h2, h3, h4⟩ := rdErr_zero h
  simp only [List.cons_append, rdErr]
  rw [if_neg (by omega), if_pos h3, if_neg]
  simp only [List.length_cons, List.length_append] at *
  omega
theorem rdErr_app2 (a b : List Int) (h : rdErr a = 2) : rdErr (a ++ b) = 2 := by
  cases a with
  | nil => simp [rdErr] at h
  | cons b0 t =>
    cases t with
    | nil =>
      simp only [rdErr] at h
      split at h
      · rename_i hb
        simp only [List.cons_append, rdErr]
        rw [if_pos hb]
      · omega
    | cons b1 r =>
      simp only [rdErr] at h
      simp only [List.cons_append, rdErr]
      split at h
      · rename_i hb; rw [if_pos hb]
      · rename_i hb
        rw [if_neg hb]
        split at h
        · split at h <;> omega
        · rename_i hc; rw [if_neg hc]
theorem rdN_app (a b : List Int) (h : rdErr a = 0) : rdN (a ++ b) = rdN a := by
  obtain ⟨b0, b1, t, e, _⟩ := rdErr_zero h
  unfold rdN
  rw [if_pos h, if_pos (rdErr_app0 a b h), e]
  rfl
theorem rdQ_app (a b : List Int) (h : rdErr a = 0) : rdQ (a ++ b) = rdQ a := by
  obtain ⟨b0, b1, t, e, h1, h2, h3, h4⟩ := rdErr_zero h
  have hl : 2 ≤ a.length := by rw [e]; simp
  have e1 : a.getD 1 0 = b1 := by rw [e]; rfl
  have g1 := getD_app a b 1 (by omega)
  unfold rdQ
  rw [if_pos h, if_pos (rdErr_app0 a b h), g1, e1]
  by_cases c1 : b1 = 1
  · have hb : b0 = 26 := by rw [h3, c1]; rfl
    rw [if_pos c1, if_pos c1, getD_app a b 2 (by omega), getD_app a b 3 (by omega), getD_app a b 4 (by omega), getD_app a b 5 (by omega), getD_app a b 6 (by omega), getD_app a b 7 (by omega), getD_app a b 8 (by omega), getD_app a b 9 (by omega), getD_app a b 10 (by omega), num8_app a b 11 (by omega), num8_app a b 19 (by omega)]
  · rw [if_neg c1, if_neg c1]
    by_cases c2 : b1 = 2
    · have hb : b0 = 17 := by rw [h3, c2]; rfl
      rw [if_pos c2, if_pos c2, getD_app a b 2 (by omega), getD_app a b 3 (by omega), getD_app a b 4 (by omega), getD_app a b 5 (by omega), getD_app a b 6 (by omega), getD_app a b 7 (by omega), getD_app a b 8 (by omega), getD_app a b 9 (by omega), num8_app a b 10 (by omega)]
    · rw [if_neg c2, if_neg c2]
      by_cases c3 : b1 = 3 ∨ b1 = 4
      · have hb : b0 = 9 := by rw [h3]; unfold reqLen; rw [if_neg c1, if_neg c2, if_pos c3]
        rw [if_pos c3, if_pos c3, getD_app a b 2 (by omega), getD_app a b 3 (by omega), getD_app a b 4 (by omega), getD_app a b 5 (by omega), getD_app a b 6 (by omega), getD_app a b 7 (by omega), getD_app a b 8 (by omega), getD_app a b 9 (by omega)]
      · rw [if_neg c3, if_neg c3]

/-- Bytes behind bytes: the frames of the first, then those of what is left and the second. -/
theorem runL_app (b : List Int) : ∀ (n : Nat) (a : List Int) (L : Ld), a.length ≤ n →
    ((runL L a).2.2.2 = 2 → runL L (a ++ b) = ((runL L a).1, (runL L a).2.1, (runL L a).2.2.1 ++ b, 2)) ∧
    ((runL L a).2.2.2 ≠ 2 → (runL L a).2.2.2 = 1 ∧ runL L (a ++ b) = ((runL (runL L a).1 ((runL L a).2.2.1 ++ b)).1, (runL L a).2.1 ++ (runL (runL L a).1 ((runL L a).2.2.1 ++ b)).2.1, (runL (runL L a).1 ((runL L a).2.2.1 ++ b)).2.2)) := by
  intro n
  induction n with
  | zero =>
    intro a L h
    have e : a = [] := List.length_eq_zero_iff.1 (by omega)
    subst e
    have e1 : runL L [] = (L, [], [], 1) := runL_stop L [] (by simp [rdErr])
    rw [e1]
    refine ⟨fun h => ?_, fun _ => ⟨rfl, ?_⟩⟩
    · simp at h
    · simp only [List.nil_append]
  | succ n ih =>
    intro a L h
    rcases rdErr_cases a with h0 | h1 | h2
    · have eA := runL_step L a h0
      have eB := runL_step L (a ++ b) (rdErr_app0 a b h0)
      obtain ⟨r1, r2, _, _⟩ := rdN_ok a h0
      rw [rdN_app a b h0, rdQ_app a b h0, List.drop_append_of_le_length r2] at eB
      obtain ⟨i1, i2⟩ := ih (a.drop (rdN a).toNat) (doM L (rdQ a)).1 (by rw [List.length_drop]; omega)
      generalize runL (doM L (rdQ a)).1 (a.drop (rdN a).toNat) = R at *
      rw [eA, eB]
      refine ⟨fun h => ?_, fun h => ?_⟩
      · rw [i1 h]
      · obtain ⟨j1, j2⟩ := i2 h
        refine ⟨j1, ?_⟩
        rw [j2]
        rfl
    · have eA := runL_stop L a (by omega)
      rw [h1] at eA
      rw [eA]
      refine ⟨fun h => by simp at h, fun _ => ⟨rfl, ?_⟩⟩
      simp only [List.nil_append]
    · have eA := runL_stop L a (by omega)
      have eB := runL_stop L (a ++ b) (by rw [rdErr_app2 a b h2]; omega)
      rw [h2] at eA
      rw [rdErr_app2 a b h2] at eB
      rw [eA]
      refine ⟨fun _ => eB, fun h => by simp at h⟩

theorem doM_time (L : Ld) (q : Rq) : (doM L q).1.time = L.time := by
  unfold doM
  split
  · split
    · rfl
    · split
      · rfl
      · split <;> rfl
  · split
    · split <;> rfl
    · split
      · split <;> rfl
      · split
        · split <;> rfl
        · split <;> rfl
theorem runL_time : ∀ (n : Nat) (a : List Int) (L : Ld), a.length ≤ n → (runL L a).1.time = L.time := by
  intro n
  induction n with
  | zero =>
    intro a L h
    have e : a = [] := List.length_eq_zero_iff.1 (by omega)
    subst e
    rw [runL_stop L [] (by simp [rdErr])]
  | succ n ih =>
    intro a L h
    by_cases h0 : rdErr a = 0
    · rw [runL_step L a h0]
      obtain ⟨r1, r2, _, _⟩ := rdN_ok a h0
      have := ih (a.drop (rdN a).toNat) (doM L (rdQ a)).1 (by rw [List.length_drop]; omega)
      exact this.trans (doM_time L (rdQ a))
    · rw [runL_stop L a h0]
theorem passM_same (L : Ld) (now : Int) (h : now ≤ L.time) : passM L now = L := by
  unfold passM
  rw [if_neg (by omega)]
theorem passM_le (L : Ld) (now : Int) : now ≤ (passM L now).time := by
  unfold passM
  dsimp only
  split <;> omega

theorem feedM_good (L : Ld) (c : Cn) (now : Int) (bs : List Int) (h : c.bad = false) : feedM L c now bs =
    if (runL (passM L now) (c.waits ++ bs)).2.2.2 = 2 then ((runL (passM L now) (c.waits ++ bs)).1, ⟨[], true⟩, (runL (passM L now) (c.waits ++ bs)).2.1 ++ [⟨6, 0, 0⟩])
    else ((runL (passM L now) (c.waits ++ bs)).1, ⟨(runL (passM L now) (c.waits ++ bs)).2.2.1, false⟩, (runL (passM L now) (c.waits ++ bs)).2.1) := by
  unfold feedM
  rw [if_neg (by rw [h]; simp)]
  rfl
theorem feedM_bad (L : Ld) (c : Cn) (now : Int) (bs : List Int) (h : c.bad = true) : feedM L c now bs = (passM L now, c, []) := by
  unfold feedM
  rw [if_pos h]
theorem feedM_time (L : Ld) (c : Cn) (now : Int) (bs : List Int) : now ≤ (feedM L c now bs).1.time := by
  cases h : c.bad with
  | true => rw [feedM_bad _ _ _ _ h]; exact passM_le L now
  | false =>
    rw [feedM_good _ _ _ _ h]
    have := runL_time _ (c.waits ++ bs) (passM L now) (Nat.le_refl _)
    have := passM_le L now
    split <;> (dsimp only; omega)

/-- Split, the reckoning (P6, P7). -/
theorem split_reckon (L : Ld) (now : Int) (a b : List Int) (c1 : Cn) (h1 : c1 = ⟨[], false⟩) (c2 : Cn) (h2 : c2 = ⟨[], false⟩) (A : Ld × Cn × List Rp) (hA : A = feedM L c1 now a) (X : Ld × Cn × List Rp) (hX : X = feedM A.1 c2 now [1]) :
    encs (feedM L c1 now (a ++ b)).2.2 = encs A.2.2 ++ encs (feedM X.1 A.2.1 now b).2.2 := by
  have hAt : now ≤ A.1.time := hA ▸ feedM_time L c1 now a
  have hXe : X.1 = A.1 := by
    rw [hX, feedM_good _ _ _ _ (by rw [h2]), h2]
    have e : runL (passM A.1 now) ([] ++ [1]) = (passM A.1 now, [], [1], 1) := runL_stop _ _ (by simp [rdErr])
    rw [e, if_neg (by simp)]
    exact passM_same _ _ hAt
  rw [hXe]
  subst h1
  have g0 := feedM_good L ⟨[], false⟩ now (a ++ b) rfl
  have g1 := feedM_good L ⟨[], false⟩ now a rfl
  simp only [List.nil_append] at g0 g1
  obtain ⟨i1, i2⟩ := runL_app b _ a (passM L now) (Nat.le_refl _)
  have ht := runL_time _ a (passM L now) (Nat.le_refl _)
  have hp := passM_le L now
  generalize hP : passM L now = P at *
  generalize hR : runL P a = R at *
  by_cases he : R.2.2.2 = 2
  · rw [if_pos he] at g1
    rw [i1 he, if_pos rfl] at g0
    rw [g0, hA, g1, feedM_bad _ _ _ _ rfl]
    simp [encs]
  · obtain ⟨j1, j2⟩ := i2 he
    rw [if_neg he] at g1
    rw [g0, hA, g1, j2, feedM_good _ _ _ _ rfl]
    have e : passM R.1 now = R.1 := passM_same _ _ (by omega)
    dsimp only
    rw [e]
    generalize runL R.1 (R.2.2.1 ++ b) = S
    split <;> simp [encs]
end Go.Proofs.YtlamgpeiolfffaaGreatDoor

namespace Go.Proofs.YtlamgpeiolfffaaGreatDoor
open Go.RowKit
variable [dK] [iK]

/-- A request whose own bytes are read as it is. -/
def Reads (q : Rq) : Prop := ∀ t, rdErr (q.enc ++ t) = 0 ∧ rdN (q.enc ++ t) = q.enc.length ∧ rdQ (q.enc ++ t) = q
theorem reads_def (k kd x y : Int) (hx : 0 ≤ x ∧ x ≤ 18446744073709551615) (hy : 0 ≤ y ∧ y ≤ 18446744073709551615) : Reads ⟨1, k, 0, 0, 0, 0, 0, 0, 0, kd, x, y, 0⟩ := by
  intro t
  have e : Rq.enc ⟨1, k, 0, 0, 0, 0, 0, 0, 0, kd, x, y, 0⟩ = [26, 1, k, 0, 0, 0, 0, 0, 0, 0, kd] ++ be8 x ++ be8 y := rfl
  have eE : rdErr (Rq.enc ⟨1, k, 0, 0, 0, 0, 0, 0, 0, kd, x, y, 0⟩ ++ t) = 0 := by
    rw [e]; simp [rdErr, be8, reqLen]; omega
  have hx := rd_be8 x hx.1 hx.2
  have hy := rd_be8 y hy.1 hy.2
  have eQ := rdQ_1 (Rq.enc ⟨1, k, 0, 0, 0, 0, 0, 0, 0, kd, x, y, 0⟩ ++ t) eE (by rw [e]; rfl)
  have ex : num8 (Rq.enc ⟨1, k, 0, 0, 0, 0, 0, 0, 0, kd, x, y, 0⟩ ++ t) 11 = x := by rw [e]; exact hx
  have ey : num8 (Rq.enc ⟨1, k, 0, 0, 0, 0, 0, 0, 0, kd, x, y, 0⟩ ++ t) 19 = y := by rw [e]; exact hy
  rw [ex, ey] at eQ
  refine ⟨eE, ?_, ?_⟩
  · unfold rdN; rw [if_pos eE, e]; simp [be8]
  · rw [eQ, e]; rfl
theorem reads_adm (k n : Int) (hn : 0 ≤ n ∧ n ≤ 18446744073709551615) : Reads ⟨2, k, 0, 0, 0, 0, 0, 0, 0, 0, 0, 0, n⟩ := by
  intro t
  have e : Rq.enc ⟨2, k, 0, 0, 0, 0, 0, 0, 0, 0, 0, 0, n⟩ = [17, 2, k, 0, 0, 0, 0, 0, 0, 0] ++ be8 n := rfl
  have eE : rdErr (Rq.enc ⟨2, k, 0, 0, 0, 0, 0, 0, 0, 0, 0, 0, n⟩ ++ t) = 0 := by
    rw [e]; simp [rdErr, be8, reqLen]; omega
  have hx := rd_be8 n hn.1 hn.2
  have eQ := rdQ_2 (Rq.enc ⟨2, k, 0, 0, 0, 0, 0, 0, 0, 0, 0, 0, n⟩ ++ t) eE (by rw [e]; rfl)
  have ex : num8 (Rq.enc ⟨2, k, 0, 0, 0, 0, 0, 0, 0, 0, 0, 0, n⟩ ++ t) 10 = n := by rw [e]; exact hx
  rw [ex] at eQ
  refine ⟨eE, ?_, ?_⟩
  · unfold rdN; rw [if_pos eE, e]; simp [be8]
  · rw [eQ, e]; rfl
theorem reads_qry (k : Int) : Reads ⟨3, k, 0, 0, 0, 0, 0, 0, 0, 0, 0, 0, 0⟩ := by
  intro t
  have e : Rq.enc ⟨3, k, 0, 0, 0, 0, 0, 0, 0, 0, 0, 0, 0⟩ = [9, 3, k, 0, 0, 0, 0, 0, 0, 0] := rfl
  have eE : rdErr (Rq.enc ⟨3, k, 0, 0, 0, 0, 0, 0, 0, 0, 0, 0, 0⟩ ++ t) = 0 := by
    rw [e]; simp [rdErr, reqLen]; omega
  have eQ := rdQ_3 (Rq.enc ⟨3, k, 0, 0, 0, 0, 0, 0, 0, 0, 0, 0, 0⟩ ++ t) eE (by rw [e]; exact Or.inl rfl)
  refine ⟨eE, ?_, ?_⟩
  · unfold rdN; rw [if_pos eE, e]; simp
  · rw [eQ, e]; rfl

theorem runL_enc (L : Ld) (q : Rq) (h : Reads q) (t : List Int) : runL L (q.enc ++ t) = ((runL (doM L q).1 t).1, (doM L q).2 :: (runL (doM L q).1 t).2.1, (runL (doM L q).1 t).2.2) := by
  obtain ⟨e1, e2, e3⟩ := h t
  rw [runL_step L _ e1, e2, e3, Int.toNat_natCast, List.drop_left]
theorem runL_nil (L : Ld) : runL L [] = (L, [], [], 1) := runL_stop L [] (by simp [rdErr])

def kK : Ky := ⟨107, 0, 0, 0, 0, 0, 0, 0⟩
def qDef (kd x y : Int) : Rq := ⟨1, 107, 0, 0, 0, 0, 0, 0, 0, kd, x, y, 0⟩
def qAdm (n : Int) : Rq := ⟨2, 107, 0, 0, 0, 0, 0, 0, 0, 0, 0, 0, n⟩
def qQk : Rq := ⟨3, 107, 0, 0, 0, 0, 0, 0, 0, 0, 0, 0, 0⟩
def qQj : Rq := ⟨3, 106, 0, 0, 0, 0, 0, 0, 0, 0, 0, 0, 0⟩
theorem do_def (kd x y : Int) (h : soundM kd x y) : doM ⟨0, 0, []⟩ (qDef kd x y) = (⟨0, 0, [(kK, ⟨kd, x, y, 0, 0⟩)]⟩, ⟨1, 0, 0⟩) := by
  unfold doM qDef
  rw [if_pos rfl, if_neg (by exact fun g => g h), if_neg (by simp [fnd]), if_neg (by simp)]
  rfl
theorem do_qk (kd x y : Int) : doM ⟨0, 0, [(kK, ⟨kd, x, y, 0, 0⟩)]⟩ qQk = (⟨0, 0, [(kK, ⟨kd, x, y, 0, 0⟩)]⟩, ⟨1, 0, 0⟩) := by
  have hf : fnd qQk.key [(kK, (⟨kd, x, y, 0, 0⟩ : Qt))] = some ⟨kd, x, y, 0, 0⟩ := by simp [fnd, qQk, kK, Rq.key]
  have ht : turnM ⟨kd, x, y, 0, 0⟩ 0 = ⟨kd, x, y, 0, 0⟩ := by
    unfold turnM
    split
    · rfl
    · rw [if_pos (by simp)]
  unfold doM
  rw [if_neg (by simp [qQk]), if_neg (by simp [qQk]), if_pos (by simp [qQk])]
  simp only [hf, ht]
theorem do_qj (kd x y : Int) : doM ⟨0, 0, [(kK, ⟨kd, x, y, 0, 0⟩)]⟩ qQj = (⟨0, 0, [(kK, ⟨kd, x, y, 0, 0⟩)]⟩, ⟨4, 0, 0⟩) := by
  have hf : fnd qQj.key [(kK, (⟨kd, x, y, 0, 0⟩ : Qt))] = none := by simp [fnd, qQj, kK, Rq.key]
  unfold doM
  rw [if_neg (by simp [qQj]), if_neg (by simp [qQj]), if_pos (by simp [qQj])]
  simp only [hf]
theorem do_adm (T A n : Int) (z : Qt) : doM ⟨T, A, [(kK, z)]⟩ (qAdm n) = (⟨T, if (admM z T n).2.c = 2 then (A + n) % 18446744073709551616 else A, [(kK, (admM z T n).1)]⟩, (admM z T n).2) := by
  have hf : fnd (qAdm n).key [(kK, z)] = some z := by simp [fnd, qAdm, kK, Rq.key]
  have hu : ∀ z', upd (qAdm n).key z' [(kK, z)] = [(kK, z')] := fun z' => by simp [upd, qAdm, kK, Rq.key]
  unfold doM
  rw [if_neg (by simp [qAdm]), if_pos (by simp [qAdm])]
  simp only [hf, hu]
  rfl

/-- What a new ledger with a key says (P8, P11). -/
theorem opened_reckon (kd x y : Int) (h : soundM kd x y) (hx : 0 ≤ x ∧ x ≤ 18446744073709551615) (hy : 0 ≤ y ∧ y ≤ 18446744073709551615) :
    feedM ⟨0, 0, []⟩ ⟨[], false⟩ 0 (encQs [qDef kd x y, qQk, qQj]) = (⟨0, 0, [(kK, ⟨kd, x, y, 0, 0⟩)]⟩, ⟨[], false⟩, [⟨1, 0, 0⟩, ⟨1, 0, 0⟩, ⟨4, 0, 0⟩]) := by
  have e : encQs [qDef kd x y, qQk, qQj] = (qDef kd x y).enc ++ (qQk.enc ++ (qQj.enc ++ [])) := by simp [encQs]
  have hp : passM ⟨0, 0, []⟩ 0 = ⟨0, 0, []⟩ := rfl
  rw [feedM_good _ _ _ _ rfl, List.nil_append, e, hp, runL_enc _ (qDef kd x y) (reads_def 107 kd x y hx hy), do_def kd x y h, runL_enc _ qQk (reads_qry 107), do_qk, runL_enc _ qQj (reads_qry 106), do_qj, runL_nil]
  rfl
/-- What a ledger with that key says to an Admit. -/
theorem ask_reckon (T A at_ n : Int) (z : Qt) (hn : 0 ≤ n ∧ n ≤ 18446744073709551615) :
    feedM ⟨T, A, [(kK, z)]⟩ ⟨[], false⟩ at_ (encQs [qAdm n]) = (⟨if T < at_ then at_ else T, if (admM z (if T < at_ then at_ else T) n).2.c = 2 then (A + n) % 18446744073709551616 else A, [(kK, (admM z (if T < at_ then at_ else T) n).1)]⟩, ⟨[], false⟩, [(admM z (if T < at_ then at_ else T) n).2]) := by
  have e : encQs [qAdm n] = (qAdm n).enc ++ [] := by simp [encQs]
  have hp : passM ⟨T, A, [(kK, z)]⟩ at_ = ⟨if T < at_ then at_ else T, A, [(kK, z)]⟩ := rfl
  rw [feedM_good _ _ _ _ rfl, List.nil_append, e, hp, runL_enc _ (qAdm n) (reads_adm 107 n hn), do_adm, runL_nil]
  rfl
end Go.Proofs.YtlamgpeiolfffaaGreatDoor
