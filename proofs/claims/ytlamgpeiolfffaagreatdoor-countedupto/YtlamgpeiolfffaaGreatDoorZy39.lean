import Derived.Test.YtlamgpeiolfffaaGreatDoorZy37
set_option linter.unusedSectionVars false
namespace Go.Proofs.YtlamgpeiolfffaaGreatDoor
open Go.RowKit
variable [dK] [iK]

/-- The document's answer to a request. -/
theorem ask57 (bb base : Nat) (lv : Value) (B : Bk) (q : Rq) (w : World) (h : BookAt w bb base lv B) (hB : B.ok) (hq : q.ok) (ho : q.op ∈ [1, 2, 3, 4, 5, 6]) (hba : base ≤ w.heap.size) :
    Calls Tryz.prog 57 #[.pointer (some ⟨bb, 0, none⟩), rqv q] w (AskPost bb base lv B q w) := by
  simp only [List.mem_cons, List.not_mem_nil, or_false] at ho
  rcases ho with ho | ho | ho | ho | ho | ho
  · by_cases hs : soundM q.kd q.x q.y
    · cases hi : idx q.key B.ls with
      | none =>
        by_cases hf : B.ls.length = 12
        · exact ask57_full bb base lv B q w h hB hq ho hs hi hf
        · exact ask57_def bb base lv B q w h hB hq ho hs hi hf hba
      | some i => exact ask57_exists bb base lv B q w h hB hq ho hs i hi
    · exact ask57_bad bb base lv B q w h hB hq ho hs
  · cases hi : idx q.key B.ls with
    | none => exact ask57_no bb base lv B q w h hB hq (Or.inl ho) hi
    | some i => exact ask57_2 bb base lv B q w h hB hq ho i hi
  · cases hi : idx q.key B.ls with
    | none => exact ask57_no bb base lv B q w h hB hq (Or.inr (Or.inl ho)) hi
    | some i => exact ask57_3 bb base lv B q w h hB hq ho i hi
  · cases hi : idx q.key B.ls with
    | none => exact ask57_no bb base lv B q w h hB hq (Or.inr (Or.inr ho)) hi
    | some i => exact ask57_4 bb base lv B q w h hB hq ho i hi
  · exact ask57_5 bb base lv B q w h hB hq ho
  · exact ask57_6 bb base lv B q w h hB hq ho

theorem admitM_ok (B : Bk) (i : Nat) (l : Ln) (n : Int) (hB : B.ok) (hl : l.ok) (hn : 0 ≤ n ∧ n ≤ 18446744073709551615) : (admitM B i l n).1.ok := by
  have hT := hB.time
  have hx := hl.x
  have hy := hl.y
  have hat := hl.at_
  unfold admitM
  split
  · rename_i hok
    dsimp only
    split
    · refine ⟨hT, by rw [List.length_set]; exact hB.len, fun l' hl' => ?_⟩
      rcases List.mem_or_eq_of_mem_set hl' with h | rfl
      · exact hB.ln l' h
      · have hw : 0 ≤ lnWin B.time l ∧ lnWin B.time l ≤ 18446744073709551615 := by
          unfold lnWin
          split
          · omega
          · rename_i hk
            have := hl.yp hk
            have h1 : 0 ≤ B.time / l.y := Int.ediv_nonneg (by omega) (by omega)
            have h2 : B.time / l.y ≤ B.time := Int.ediv_le_self _ (by omega)
            omega
        have ha : 0 ≤ (lnAdm B.time l n).1 ∧ (lnAdm B.time l n).1 ≤ 18446744073709551615 := by
          unfold lnAdm at hok ⊢
          split
          · rename_i hk
            rw [if_pos hk] at hok
            have hkx : 1 ≤ l.x := by rcases hl.kd with h | h <;> omega
            have hnx : 0 ≤ n * l.x := Int.mul_nonneg hn.1 (by omega)
            unfold spacedM
            generalize hS : (if l.at_ < B.time then B.time else l.at_) = S
            have hS0 : 0 ≤ S := by rw [← hS]; split <;> omega
            split
            · exact hat
            · split
              · exact ⟨Int.le_refl _, (by decide : (0 : Int) ≤ 18446744073709551615)⟩
              · rename_i h1
                split
                · dsimp only
                  omega
                · exact ⟨Int.le_refl _, (by decide : (0 : Int) ≤ 18446744073709551615)⟩
          · rename_i hk
            unfold windowedM
            have hs : 0 ≤ (standsM B.time l).1 := by
              unfold standsM
              rw [if_neg hk]
              split <;> dsimp only <;> omega
            split
            · dsimp only; omega
            · split <;> exact ⟨Int.le_refl _, (by decide : (0 : Int) ≤ 18446744073709551615)⟩
        exact ⟨hl.kd, hx, hy, ha, hw⟩
    · exact hB
  · exact hB
theorem askM_ok (B : Bk) (q : Rq) (hB : B.ok) (hq : q.ok) : (askM B q).1.ok := by
  unfold askM
  split
  · split
    · exact hB
    · rename_i hs
      split
      · exact hB
      · split
        · exact hB
        · rename_i hf
          refine ⟨hB.time, ?_, fun l hl => ?_⟩
          · have := hB.len
            show (B.ls ++ [_]).length ≤ 12
            rw [List.length_append, List.length_singleton]
            omega
          · rcases List.mem_append.1 hl with h | h
            · exact hB.ln l h
            · simp at h
              subst h
              exact ⟨Decidable.not_not.1 hs, hq.x, hq.y, by simp, by simp⟩
  · split
    · exact hB
    · split
      · exact hB
      · cases hi : idx q.key B.ls with
        | none => exact hB
        | some i =>
          dsimp only
          split
          · exact hB
          · split
            · refine ⟨hB.time, ?_, fun l hl => hB.ln l (List.mem_of_mem_eraseIdx hl)⟩
              exact Nat.le_trans (List.length_eraseIdx_le _ _) hB.len
            · have hlt := idx_lt hi
              have hgd : B.ls.getD i ⟨q.key, 0, 0, 0, 0, 0⟩ = B.ls[i] := by simp [List.getD, List.getElem?_eq_getElem hlt]
              rw [hgd]
              exact admitM_ok B i _ q.n hB (hB.ln _ (List.getElem_mem hlt)) hq.n
end Go.Proofs.YtlamgpeiolfffaaGreatDoor
