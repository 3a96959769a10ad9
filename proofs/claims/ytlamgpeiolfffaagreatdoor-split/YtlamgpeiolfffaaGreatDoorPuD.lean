import Derived.Test.YtlamgpeiolfffaaGreatDoorZz36
import Derived.Test.YtlamgpeiolfffaaGreatDoorZz15
set_option linter.unusedSectionVars false
namespace Go.Proofs.YtlamgpeiolfffaaGreatDoor
open Go.RowKit
variable [dK] [iK]

theorem runL_ok : ∀ (n : Nat) (a : List Int) (L : Ld), a.length ≤ n → L.ok → Bytes a → (runL L a).1.ok ∧ Bytes (runL L a).2.2.1 ∧ (runL L a).2.2.1.length ≤ a.length := by
  intro n
  induction n with
  | zero =>
    intro a L h hL ha
    have e : a = [] := List.length_eq_zero_iff.1 (by omega)
    subst e
    rw [runL_stop L [] (by simp [rdErr])]
    exact ⟨hL, ha, Nat.le_refl _⟩
  | succ n ih =>
    intro a L h hL ha
    by_cases h0 : rdErr a = 0
    · rw [runL_step L a h0]
      obtain ⟨r1, r2, _, _⟩ := rdN_ok a h0
      obtain ⟨g1, g2, g3⟩ := ih (a.drop (rdN a).toNat) (doM L (rdQ a)).1 (by rw [List.length_drop]; omega) (doM_ok L (rdQ a) hL (rdQ_ok a ha)).1 (ha.drop _)
      refine ⟨g1, g2, Nat.le_trans g3 ?_⟩
      rw [List.length_drop]
      omega
    · rw [runL_stop L a h0]
      exact ⟨hL, ha, Nat.le_refl _⟩
theorem passM_okd (L : Ld) (now : Int) (h : L.ok) (h0 : 0 ≤ now) (h1 : now ≤ 18446744073709551615) : (passM L now).ok := by
  refine ⟨?_, h.adm, h.key, h.qt, h.nd, h.len⟩
  have := h.time
  unfold passM
  dsimp only
  split <;> omega
theorem feedM_ok (L : Ld) (c : Cn) (now : Int) (bs : List Int) (hL : L.ok) (h0 : 0 ≤ now) (h1 : now ≤ 18446744073709551615) (hc : Bytes c.waits) (hb : Bytes bs) : (feedM L c now bs).1.ok ∧ Bytes (feedM L c now bs).2.1.waits ∧ (feedM L c now bs).2.1.waits.length ≤ c.waits.length + bs.length := by
  cases h : c.bad with
  | true => rw [feedM_bad _ _ _ _ h]; exact ⟨passM_okd L now hL h0 h1, hc, by simp⟩
  | false =>
    rw [feedM_good _ _ _ _ h]
    obtain ⟨g1, g2, g3⟩ := runL_ok _ (c.waits ++ bs) (passM L now) (Nat.le_refl _) (passM_okd L now hL h0 h1) (hc.app hb)
    rw [List.length_append] at g3
    split
    · exact ⟨g1, fun b hb => by simp at hb, by simp⟩
    · exact ⟨g1, g2, g3⟩
theorem runL_len : ∀ (n : Nat) (a : List Int) (L : Ld), a.length ≤ n → (runL L a).2.1.length ≤ a.length := by
  intro n
  induction n with
  | zero =>
    intro a L h
    have e : a = [] := List.length_eq_zero_iff.1 (by omega)
    subst e
    rw [runL_stop L [] (by simp [rdErr])]
    exact Nat.le_refl _
  | succ n ih =>
    intro a L h
    by_cases h0 : rdErr a = 0
    · rw [runL_step L a h0]
      obtain ⟨r1, r2, _, _⟩ := rdN_ok a h0
      have g := ih (a.drop (rdN a).toNat) (doM L (rdQ a)).1 (by rw [List.length_drop]; omega)
      rw [List.length_drop] at g
      simp only [List.length_cons]
      omega
    · rw [runL_stop L a h0]
      exact Nat.zero_le _
theorem feedM_len (L : Ld) (c : Cn) (now : Int) (bs : List Int) : (feedM L c now bs).2.2.length ≤ c.waits.length + bs.length + 1 := by
  cases h : c.bad with
  | true => rw [feedM_bad _ _ _ _ h]; simp
  | false =>
    rw [feedM_good _ _ _ _ h]
    have g := runL_len _ (c.waits ++ bs) (passM L now) (Nat.le_refl _)
    rw [List.length_append] at g
    split
    · simp only [List.length_append, List.length_cons, List.length_nil]
      omega
    · dsimp only
      omega
theorem numsOf_take (s : ByteArray) (n : Nat) : numsOf (s.extract 0 n) = (numsOf s).take n := by
  simp [numsOf, List.map_take]
theorem numsOf_drop (s : ByteArray) (n : Nat) : numsOf (s.extract n s.size) = (numsOf s).drop n := by
  simp [numsOf, List.map_drop]
  exact List.take_of_length_le (by simp)
end Go.Proofs.YtlamgpeiolfffaaGreatDoor
