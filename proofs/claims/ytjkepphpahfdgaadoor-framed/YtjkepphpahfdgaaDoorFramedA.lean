import Derived.Test.YtjkepphpahfdgaaDoorReads
import Derived.Test.YtjkepphpahfdgaaDoorRep
import Derived.Test.YtjkepphpahfdgaaDoorRoundM
namespace Go.Proofs.YtjkepphpahfdgaaDoor
open Go.RowKit

theorem own_later {w w' : World} {base n B : Nat} {v : Value} {xs : List Value} (h : w.ownsRow base 5 1 v n xs) (hb : Below B w w') (hB : B = w.heap.size) : w'.ownsRow base 5 1 v n xs := by
  subst hB
  obtain ⟨h1, h2⟩ := h
  refine ⟨h1, ?_⟩
  rcases h2 with h2 | ⟨g, cap, cur, hv, hg, hh, r⟩
  · exact .inl h2
  · exact .inr ⟨g, cap, cur, hv, hg, by rw [hb.block g (Array.getElem?_eq_some_iff.1 hh).1]; exact hh, r⟩
theorem src0_own {w : World} {base n : Nat} {v : Value} {bs : List Int} (h : w.ownsRow base 5 1 v n (bs.map (Value.int .u8))) (hn : bs.length = n) : Src0 w v bs := by
  by_cases h0 : n = 0
  · have hb : bs = [] := List.eq_nil_of_length_eq_zero (by omega)
    rcases h.2 with ⟨h2, _⟩ | ⟨g, cap, cur, hv, _⟩
    · exact .inl ⟨hb, .inl h2⟩
    · exact .inl ⟨hb, .inr ⟨g, cap, by rw [hv, h0]⟩⟩
  · obtain ⟨g, cap, hv, _, hg, hc, hcell⟩ := own_shape h (by omega) hn
    subst hn
    exact .inr ⟨by omega, g, cap, hv, hc, hg, hcell⟩
theorem src0_bytes (w2 : World) (S : ByteArray) (n : Nat) (hn : n = S.size) (c : Nat) (hc : S.size ≤ c) : Src0 ((w2.alloc (.cells (bytesRow S c) 5 ((bytesRow S c).size, (bytesRow S c).size + 1))).drew) (.slice (some ⟨w2.heap.size, 0, none⟩) n c) (numsOf S) := by
  have hl := numsOf_length S
  by_cases h0 : S.size = 0
  · exact .inl ⟨List.eq_nil_of_length_eq_zero (by omega), .inr ⟨w2.heap.size, c, by rw [hn, h0]⟩⟩
  · refine .inr ⟨by omega, w2.heap.size, c, by rw [hl, hn], by omega, by simp, ?_⟩
    intro j hj
    show (w2.alloc _).cell? ⟨w2.heap.size, j, none⟩ = _
    rw [World.cell?_alloc_mark]
    have hjs : j < S.data.size := by simpa [hl] using hj
    unfold bytesRow numsOf
    rw [Array.getElem?_append_left (by simpa using hjs)]
    simp only [List.getD, Array.getElem?_map, List.getElem?_map, Array.getElem?_toList, Array.getElem?_eq_getElem hjs, Option.map_some, Option.getD_some]
theorem conv_own {w : World} {base n : Nat} {v : Value} {bs : List Int} (h : w.ownsRow base 5 1 v n (bs.map (Value.int .u8))) (hn : bs.length = n) : (convert 31 9 v).run Tryd.prog w = .ok (.string (strOfNums bs)) w := by
  rcases h.2 with ⟨h2, h0⟩ | ⟨g, cap, cur, hv, _⟩
  · have hb : bs = [] := List.eq_nil_of_length_eq_zero (by omega)
    subst hb h2
    exact run_convert_bytes_nil w 31 5 Tryd.underlying31 Tryd.underlying5 0 0 9 Tryd.underlying9
  · subst hv
    refine run_convert_bytes_arg (P := Tryd.prog) w 31 5 Tryd.underlying31 Tryd.underlying5 g 0 n cap bs hn (fun i hi => ?_) 9 Tryd.underlying9
    rw [Nat.zero_add, h.cellAt i (by omega)]
    simp [List.getD, List.getElem?_eq_getElem (show i < bs.length by omega)]
theorem encRep_length (c a b : Int) : (encRep c a b).length = 18 := rfl
theorem encRep_range (c a b : Int) (hc : 0 ≤ c ∧ c ≤ 255) : ∀ x ∈ encRep c a b, 0 ≤ x ∧ x ≤ 255 := by
  have hb : ∀ (v : Int) x, x ∈ be8 v → 0 ≤ x ∧ x ≤ 255 := by
    intro v x hx
    simp only [be8, List.mem_cons, List.not_mem_nil, or_false] at hx
    rcases hx with rfl | rfl | rfl | rfl | rfl | rfl | rfl | rfl <;> exact nb_range v _
  intro x hx
  simp only [encRep, List.mem_append, List.mem_cons, List.not_mem_nil, or_false] at hx
  rcases hx with (hx | hx) | hx
  · omega
  · exact hb _ _ hx
  · exact hb _ _ hx
end Go.Proofs.YtjkepphpahfdgaaDoor
