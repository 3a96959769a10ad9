import Derived.Test.YtekjhmemiflbdaaDoorRoundA
import Derived.Laws.IdiomStrings
import Derived.Laws.BytesArg
namespace Go.Proofs.YtekjhmemiflbdaaDoor
open Go.RowKit

/-- A string's bytes, as numbers. -/
def numsOf (s : ByteArray) : List Int := s.data.toList.map (fun b => (b.toNat : Int))
theorem numsOf_length (s : ByteArray) : (numsOf s).length = s.size := by simp [numsOf]
theorem numsOf_append (a b : ByteArray) : numsOf (a ++ b) = numsOf a ++ numsOf b := by simp [numsOf]
theorem numsOf_str (xs : List Int) (h : ∀ x ∈ xs, 0 ≤ x ∧ x ≤ 255) : numsOf (strOfNums xs) = xs := by
  unfold numsOf
  rw [strOfNums_data, List.map_map]
  conv => rhs; rw [← List.map_id xs]
  apply List.map_congr_left
  intro x hx
  have := h x hx
  simp
  omega
theorem numsOf_range (s : ByteArray) : ∀ x ∈ numsOf s, 0 ≤ x ∧ x ≤ 255 := by
  intro x hx
  obtain ⟨b, _, rfl⟩ := List.mem_map.1 hx
  have := b.toNat_lt
  omega
theorem getD_range {bs : List Int} (h : ∀ x ∈ bs, 0 ≤ x ∧ x ≤ 255) (j : Nat) : 0 ≤ bs.getD j 0 ∧ bs.getD j 0 ≤ 255 := by
  by_cases hj : j < bs.length
  · rw [List.getD_eq_getElem?_getD, List.getElem?_eq_getElem hj]; exact h _ (List.getElem_mem hj)
  · rw [List.getD_eq_getElem?_getD, List.getElem?_eq_none (by omega)]; decide

theorem src_bytes (w2 : World) (S : ByteArray) (c cap : Nat) (n : Nat) (hn : n = S.size) : Src ((w2.alloc (.cells (bytesRow S c) 5 ((bytesRow S c).size, (bytesRow S c).size + 1))).drew) (.slice (some ⟨w2.heap.size, 0, none⟩) n cap) (numsOf S) := by
  have hl := numsOf_length S
  by_cases h0 : S.size = 0
  · exact .inl ⟨List.eq_nil_of_length_eq_zero (by omega), .inr ⟨w2.heap.size, 0, cap, by rw [hn, h0]⟩⟩
  · refine .inr ⟨by omega, w2.heap.size, 0, cap, by rw [hl, hn], by simp, ?_⟩
    intro j u hj
    have hjl : j < (numsOf S).length := by
      have := (List.getElem?_eq_some_iff.1 hj).1
      simpa using this
    show (w2.alloc _).cell? ⟨w2.heap.size, 0 + j, none⟩ = some u
    rw [Nat.zero_add, World.cell?_alloc_mark]
    · rw [← hj]
      have hjs : j < S.data.size := by simpa [hl] using hjl
      unfold bytesRow numsOf
      rw [Array.getElem?_append_left (by simpa using hjs)]
      simp
      rfl

theorem rdTo_ok (c : Nat → Int) (hr : ∀ j, 0 ≤ c j ∧ c j ≤ 255) : 0 ≤ rdTo c 8 ∧ rdTo c 8 ≤ 18446744073709551615 := by
  have h := rdTo_bound c hr 8
  omega
theorem rdQ_ok (bs : List Int) (hr : ∀ j, 0 ≤ bs.getD j 0 ∧ bs.getD j 0 ≤ 255) : (rdQ bs).ok := by
  have one : (0 : Int) ≤ 1 ∧ (1 : Int) ≤ 255 := by decide
  have two : (0 : Int) ≤ 2 ∧ (2 : Int) ≤ 255 := by decide
  have z : (0 : Int) ≤ 0 ∧ (0 : Int) ≤ 255 := by decide
  have z2 : (0 : Int) ≤ 0 ∧ (0 : Int) ≤ 18446744073709551615 := by decide
  unfold rdQ
  repeat' split
  · exact ⟨one, hr _, hr _, hr _, hr _, hr _, hr _, hr _, hr _, hr _, rdTo_ok _ (fun j => hr (11 + j)), rdTo_ok _ (fun j => hr (19 + j)), z2⟩
  · exact ⟨two, hr _, hr _, hr _, hr _, hr _, hr _, hr _, hr _, z, z2, z2, rdTo_ok _ (fun j => hr (10 + j))⟩
  · exact ⟨hr _, hr _, hr _, hr _, hr _, hr _, hr _, hr _, hr _, z, z2, z2, z2⟩
  · exact ⟨hr _, z, z, z, z, z, z, z, z, z, z2, z2, z2⟩
  · exact ⟨z, z, z, z, z, z, z, z, z, z, z2, z2, z2⟩
theorem enc_range (q : Rq) (h : q.ok) : ∀ x ∈ q.enc, 0 ≤ x ∧ x ≤ 255 := by
  have hb : ∀ (v : Int) x, x ∈ be8 v → 0 ≤ x ∧ x ≤ 255 := by
    intro v x hx
    simp only [be8, List.mem_cons, List.not_mem_nil, or_false] at hx
    rcases hx with rfl | rfl | rfl | rfl | rfl | rfl | rfl | rfl <;> exact nb_range v _
  intro x hx
  unfold Rq.enc encReq at hx
  have := h.op; have := h.k0; have := h.k1; have := h.k2; have := h.k3; have := h.k4; have := h.k5; have := h.k6; have := h.k7; have := h.kd
  repeat' split at hx
  all_goals simp only [List.mem_append, List.mem_cons, List.not_mem_nil, or_false] at hx
  · rcases hx with (hx | hx) | hx
    · omega
    · exact hb _ _ hx
    · exact hb _ _ hx
  · rcases hx with hx | hx
    · omega
    · exact hb _ _ hx
  · omega
  · omega
end Go.Proofs.YtekjhmemiflbdaaDoor
