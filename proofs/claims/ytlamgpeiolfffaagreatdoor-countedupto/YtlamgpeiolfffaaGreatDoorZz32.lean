import Derived.Test.YtlamgpeiolfffaaGreatDoorZz23
import Derived.Test.YtlamgpeiolfffaaGreatDoorZz20
import Derived.Test.YtlamgpeiolfffaaGreatDoorZz31
import Derived.Test.YtlamgpeiolfffaaGreatDoorZz00
import Derived.Test.YtlamgpeiolfffaaGreatDoorZz01
namespace Go.Proofs.YtlamgpeiolfffaaGreatDoor

theorem rdQ_op (bs : List Int) (h : rdErr bs = 0) : (rdQ bs).op ∈ [1, 2, 3, 4, 5, 6] := by
  have key : bs.getD 1 0 = 1 ∨ bs.getD 1 0 = 2 ∨ bs.getD 1 0 = 3 ∨ bs.getD 1 0 = 4 ∨ bs.getD 1 0 = 5 ∨ bs.getD 1 0 = 6 := by
    match bs, h with
    | [], h => simp [rdErr] at h
    | [b0], h =>
      simp only [rdErr] at h
      split at h <;> omega
    | b0 :: b1 :: t, h =>
      simp only [rdErr] at h
      split at h
      · omega
      · rename_i h1
        split at h
        · rename_i h2
          show b1 = 1 ∨ b1 = 2 ∨ b1 = 3 ∨ b1 = 4 ∨ b1 = 5 ∨ b1 = 6
          unfold reqLen at h2
          split at h2
          · omega
          · split at h2
            · omega
            · split at h2
              · omega
              · split at h2
                · omega
                · omega
        · omega
  simp only [List.mem_cons, List.not_mem_nil, or_false]
  rcases key with k | k | k | k | k | k
  · rw [rdQ_1 bs h k]; simp
  · rw [rdQ_2 bs h k]; simp
  · rw [rdQ_3 bs h (Or.inl k)]; simp only []; omega
  · rw [rdQ_3 bs h (Or.inr k)]; simp only []; omega
  · rw [rdQ_5 bs h (Or.inl k)]; simp only []; omega
  · rw [rdQ_5 bs h (Or.inr k)]; simp only []; omega
theorem rqL_good : ∀ (n : Nat) (bs : List Int), bs.length ≤ n → Bytes bs → ∀ q ∈ (rqL bs).1, q.ok ∧ q.op ∈ [1, 2, 3, 4, 5, 6] := by
  intro n
  induction n with
  | zero =>
    intro bs h _
    have e : bs = [] := List.length_eq_zero_iff.1 (by omega)
    subst e
    rw [rqL_stop [] (by simp [rdErr])]
    simp
  | succ n ih =>
    intro bs h hb
    by_cases h0 : rdErr bs = 0
    · obtain ⟨r1, r2, _, _⟩ := rdN_ok bs h0
      rw [rqL_step bs h0]
      intro q hq
      rcases List.mem_cons.1 hq with rfl | hq
      · exact ⟨rdQ_ok bs hb, rdQ_op bs h0⟩
      · exact ih _ (by rw [List.length_drop]; omega) (hb.drop _) q hq
    · rw [rqL_stop bs h0]
      simp

theorem admM_code (z : Qt) (T n : Int) : (admM z T n).2.c = 2 ∨ (admM z T n).2.c = 3 := by
  unfold admM admS admW
  repeat' split
  all_goals simp
theorem doM_7 (L : Ld) (q : Rq) : (doM L q).2.c ≠ 7 := by
  unfold doM
  by_cases h2 : q.op = 2
  · rw [if_neg (by omega), if_pos h2]
    cases fnd q.key L.ks with
    | none => simp
    | some z =>
      have := admM_code z L.time q.n
      simp only []
      omega
  · rw [if_neg h2]
    repeat' split
    all_goals simp
theorem doM_adm (L : Ld) (q : Rq) : (doM L q).1.adm = if (doM L q).2.c = 2 then (L.adm + q.n) % 18446744073709551616 else L.adm := by
  unfold doM
  repeat' split
  all_goals first
    | rfl
    | simp_all

/-- The ledger and the document's book stand alike. -/
structure Sim (L : Ld) (B : Bk) : Prop where
  time : L.time = B.time
  lines : Lines B.time L.ks B.ls
  lok : L.ok
  bok : B.ok
theorem Sim.step {L : Ld} {B : Bk} (h : Sim L B) (q : Rq) (hq : q.ok) (ho : q.op ∈ [1, 2, 3, 4, 5, 6]) : (doM L q).2 = (askM B q).2 ∧ Sim (doM L q).1 (askM B q).1 := by
  obtain ⟨h1, h2, h3⟩ := ask_sim L B q h.lok hq h.time h.lines ho
  have ht : (doM L q).1.time = L.time := by
    unfold doM
    repeat' split
    all_goals rfl
  refine ⟨h1, ?_, ?_, (doM_ok L q h.lok hq).1, askM_ok B q h.bok hq⟩
  · rw [ht, h.time, h2]
  · rw [h2]; exact h3
theorem Sim.pass {L : Ld} {B : Bk} (h : Sim L B) (now : Int) (h0 : 0 ≤ now) (h1 : now ≤ 18446744073709551615) : Sim (passM L now) (tellM B now) := by
  have hL := passM_okd L now h.lok h0 h1
  have ht : (passM L now).time = (tellM B now).time := by unfold passM tellM; rw [h.time]
  refine ⟨ht, ?_, hL, ?_⟩
  · refine Lines.mono (T := B.time) ?_ h.lok.qt h.lines
    unfold tellM
    simp only []
    split <;> omega
  · refine ⟨?_, h.bok.len, h.bok.ln⟩
    rw [← ht]
    exact hL.time
/-- Requests asked of the book one behind the other. -/
def askL : Bk → List Rq → Bk × List Rp
  | B, [] => (B, [])
  | B, q :: t => ((askL (askM B q).1 t).1, (askM B q).2 :: (askL (askM B q).1 t).2)
theorem Sim.list : ∀ (qs : List Rq) {L : Ld} {B : Bk}, Sim L B → (∀ q ∈ qs, q.ok ∧ q.op ∈ [1, 2, 3, 4, 5, 6]) → (doL L qs).2 = (askL B qs).2 ∧ Sim (doL L qs).1 (askL B qs).1
  | [], _, _, h, _ => ⟨rfl, h⟩
  | q :: t, L, B, h, hq => by
    obtain ⟨h1, h2⟩ := h.step q (hq q List.mem_cons_self).1 (hq q List.mem_cons_self).2
    obtain ⟨h3, h4⟩ := Sim.list t h2 (fun q' hq' => hq q' (List.mem_cons_of_mem _ hq'))
    exact ⟨by show (doM L q).2 :: _ = (askM B q).2 :: _; rw [h1, h3], h4⟩
/-- A feeding, by its requests. -/
theorem feedM_rq (L : Ld) (c : Cn) (now : Int) (bs : List Int) (hb : c.bad = false) :
    feedM L c now bs = if (rqL (c.waits ++ bs)).2.2 = 2 then ((doL (passM L now) (rqL (c.waits ++ bs)).1).1, ⟨[], true⟩, (doL (passM L now) (rqL (c.waits ++ bs)).1).2 ++ [⟨6, 0, 0⟩])
      else ((doL (passM L now) (rqL (c.waits ++ bs)).1).1, ⟨(rqL (c.waits ++ bs)).2.1, false⟩, (doL (passM L now) (rqL (c.waits ++ bs)).1).2) := by
  have h := runL_rqL _ (c.waits ++ bs) (passM L now) (Nat.le_refl _)
  unfold runL at h
  unfold feedM
  rw [if_neg (by simp [hb]), h]
theorem feedM_end (L : Ld) (c : Cn) (now : Int) (bs : List Int) (hb : c.bad = true) : feedM L c now bs = (passM L now, c, []) := by
  unfold feedM
  rw [if_pos hb]
end Go.Proofs.YtlamgpeiolfffaaGreatDoor

namespace Go.Proofs.YtlamgpeiolfffaaGreatDoor
open Go.RowKit


set_option maxRecDepth 100000 in
set_option maxHeartbeats 1000000 in
theorem refreq1 (k0 k1 k2 k3 k4 k5 k6 k7 kd x y n : Int) (w : World) (hx0 : 0 ≤ x) (hx1 : x ≤ 18446744073709551615) (hy0 : 0 ≤ y) (hy1 : y ≤ 18446744073709551615) :
    Calls Tryz.prog 49 #[.agg #[.int .u8 1, .int .u8 k0, .int .u8 k1, .int .u8 k2, .int .u8 k3, .int .u8 k4, .int .u8 k5, .int .u8 k6, .int .u8 k7, .int .u8 kd, .int .u64 x, .int .u64 y, .int .u64 n]] w
      fun e w' => ∃ v', e = .returned v' ∧ w'.ownsRow w.heap.size 5 1 v' 27 (([26, 1, k0, k1, k2, k3, k4, k5, k6, k7, kd] ++ be8 x ++ be8 y).map (Value.int .u8)) ∧ Below w.heap.size w w' := by
  obtain ⟨i0, hi, hz0, hz1, hz2⟩ := info_parts Tryz.info5
  have hc1 : ∀ j, ((w.alloc (.cells #[.int .u8 1, .int .u8 k0, .int .u8 k1, .int .u8 k2, .int .u8 k3, .int .u8 k4, .int .u8 k5, .int .u8 k6, .int .u8 k7, .int .u8 kd, .int .u64 x, .int .u64 y, .int .u64 n] 58)).alloc (.cells #[.int .u8 26, .int .u8 1] 5)).cell? ⟨w.heap.size, j, none⟩ = (#[.int .u8 1, .int .u8 k0, .int .u8 k1, .int .u8 k2, .int .u8 k3, .int .u8 k4, .int .u8 k5, .int .u8 k6, .int .u8 k7, .int .u8 kd, .int .u64 x, .int .u64 y, .int .u64 n] : Array Value)[j]? := fun j => (World.cell?_alloc_past _ _ _ (by simp)).trans (cell_box w _ _ j)
  have hown1 : ((w.alloc (.cells #[.int .u8 1, .int .u8 k0, .int .u8 k1, .int .u8 k2, .int .u8 k3, .int .u8 k4, .int .u8 k5, .int .u8 k6, .int .u8 k7, .int .u8 kd, .int .u64 x, .int .u64 y, .int .u64 n] 58)).alloc (.cells #[.int .u8 26, .int .u8 1] 5)).ownsRow (w.heap.size + 1) 5 1 (.slice (some ⟨w.heap.size + 1, 0, none⟩) 2 2) 2 [.int .u8 26, .int .u8 1] := by
    have h := World.ownsRow_lit (base := w.heap.size + 1) (e := 5) (size := 1) (w.alloc (.cells #[.int .u8 1, .int .u8 k0, .int .u8 k1, .int .u8 k2, .int .u8 k3, .int .u8 k4, .int .u8 k5, .int .u8 k6, .int .u8 k7, .int .u8 kd, .int .u64 x, .int .u64 y, .int .u64 n] 58)) #[.int .u8 26, .int .u8 1] 2 (by simp) (by unfold maxLen; omega) rfl
    simpa using h
  have hB1 : Below w.heap.size w ((w.alloc (.cells #[.int .u8 1, .int .u8 k0, .int .u8 k1, .int .u8 k2, .int .u8 k3, .int .u8 k4, .int .u8 k5, .int .u8 k6, .int .u8 k7, .int .u8 kd, .int .u64 x, .int .u64 y, .int .u64 n] 58)).alloc (.cells #[.int .u8 26, .int .u8 1] 5)) := ((Below.refl _ w).alloc (Nat.le_refl _) _).alloc (by simp) _
  have hs1 : w.heap.size + 1 < ((w.alloc (.cells #[.int .u8 1, .int .u8 k0, .int .u8 k1, .int .u8 k2, .int .u8 k3, .int .u8 k4, .int .u8 k5, .int .u8 k6, .int .u8 k7, .int .u8 kd, .int .u64 x, .int .u64 y, .int .u64 n] 58)).alloc (.cells #[.int .u8 26, .int .u8 1] 5)).heap.size := by simp
  have hl : reqLen 1 = 26 := rfl
  go_enter Tryz.func49, Tryz.ntmps49
  go_wp2_with (first | (go_at_call 78; refine (size_any _ _).mono ?_; rintro e w' ⟨rfl, rfl⟩) | (at_builtin; refine wpList_append_own _ rfl (.tmp 17) (.tmp 19) 69 rfl (w.heap.size + 1) 5 i0 (.int .u8 0) 1 1 Tryz.underlying69 hi hz0 hz1 hz2 rfl (by decide) (.slice (some ⟨w.heap.size + 1, 0, none⟩) 2 2) 2 _ rfl hown1 ⟨w.heap.size, 1, none⟩ 8 8 [.int .u8 k0, .int .u8 k1, .int .u8 k2, .int .u8 k3, .int .u8 k4, .int .u8 k5, .int .u8 k6, .int .u8 k7] rfl rfl (src_of hc1 _ (key_src _ _ _ _ _ _ _ _ _ _ _ _ _)) (by simp [Value.oneCell']) (by unfold maxLen; omega) (by omega) (by simp) ?_; intro v2 w2 hown2 hgrow2 _; have hs2 := Nat.lt_of_lt_of_le hs1 hgrow2.size; have hD2 := (Below.refl (w.heap.size + 1) _).grown hgrow2 (Nat.le_of_lt hs1) (fun kk hkk => (hown1.lt kk hkk).1); have hc2 := fun j => (hD2.cell (p := ⟨w.heap.size, j, none⟩) (Nat.lt_succ_self _)).trans (hc1 j)) | (at_builtin; (refine wpList_append_own _ rfl (.tmp 24) (.tmp 28) 69 rfl (w.heap.size + 1) 5 i0 (.int .u8 0) 1 1 Tryz.underlying69 hi hz0 hz1 hz2 rfl (by decide) v2 10 _ rfl (hown2.alloc _) ⟨w2.heap.size, 0, none⟩ 1 1 [.int .u8 kd] rfl rfl (cell_one_new _ _ _) (by simp [Value.oneCell']) (by unfold maxLen; omega) (by omega) (by simp; omega) ?_); intro v3 w3 hown3 hgrow3 _; have hs3 : w.heap.size + 1 < w3.heap.size := (Nat.lt_of_lt_of_le (by simp; omega) hgrow3.size); have hD3 := (hD2.alloc (Nat.le_of_lt hs2) (.cells #[.int .u8 kd] 5)).grown hgrow3 (by simp; omega) (fun kk hkk => (hown2.lt kk hkk).1); have hc3 := fun j => (hD3.cell (p := ⟨w.heap.size, j, none⟩) (Nat.lt_succ_self _)).trans (hc1 j)))
  refine (refnum_any v3 11 (w.heap.size + 1) _ _ _ hown3 (by omega) (by omega) hx0 hx1).mono ?_
  rintro e w4 ⟨v4, rfl, hown4, hb4⟩
  have hs4 : w.heap.size + 1 < w4.heap.size := by have := hb4.size; omega
  have hc4 := fun j => (hb4.cell (p := ⟨w.heap.size, j, none⟩) (Nat.lt_succ_self _)).trans (hc3 j)
  go_wp2_with fail
  refine (refnum_any v4 19 (w.heap.size + 1) _ _ _ hown4 (by omega) (by omega) hy0 hy1).mono ?_
  rintro e w5 ⟨v5, rfl, hown5, hb5⟩
  have hc5 := fun j => (hb5.cell (p := ⟨w.heap.size, j, none⟩) (Nat.lt_succ_self _)).trans (hc4 j)
  go_wp2
  go_ret
  exact ⟨_, rfl, own_down (b := w.heap.size + 1) (by omega) (by simpa using hown5), hB1.trans (((hD3.trans hb4).trans hb5).mono (by omega))⟩

set_option maxRecDepth 100000 in
set_option maxHeartbeats 1000000 in
theorem refreq2 (k0 k1 k2 k3 k4 k5 k6 k7 kd x y n : Int) (w : World) (hn0 : 0 ≤ n) (hn1 : n ≤ 18446744073709551615) :
    Calls Tryz.prog 49 #[.agg #[.int .u8 2, .int .u8 k0, .int .u8 k1, .int .u8 k2, .int .u8 k3, .int .u8 k4, .int .u8 k5, .int .u8 k6, .int .u8 k7, .int .u8 kd, .int .u64 x, .int .u64 y, .int .u64 n]] w
      fun e w' => ∃ v', e = .returned v' ∧ w'.ownsRow w.heap.size 5 1 v' 18 (([17, 2, k0, k1, k2, k3, k4, k5, k6, k7] ++ be8 n).map (Value.int .u8)) ∧ Below w.heap.size w w' := by
  obtain ⟨i0, hi, hz0, hz1, hz2⟩ := info_parts Tryz.info5
  have hc1 : ∀ j, ((w.alloc (.cells #[.int .u8 2, .int .u8 k0, .int .u8 k1, .int .u8 k2, .int .u8 k3, .int .u8 k4, .int .u8 k5, .int .u8 k6, .int .u8 k7, .int .u8 kd, .int .u64 x, .int .u64 y, .int .u64 n] 58)).alloc (.cells #[.int .u8 17, .int .u8 2] 5)).cell? ⟨w.heap.size, j, none⟩ = (#[.int .u8 2, .int .u8 k0, .int .u8 k1, .int .u8 k2, .int .u8 k3, .int .u8 k4, .int .u8 k5, .int .u8 k6, .int .u8 k7, .int .u8 kd, .int .u64 x, .int .u64 y, .int .u64 n] : Array Value)[j]? := fun j => (World.cell?_alloc_past _ _ _ (by simp)).trans (cell_box w _ _ j)
  have hown1 : ((w.alloc (.cells #[.int .u8 2, .int .u8 k0, .int .u8 k1, .int .u8 k2, .int .u8 k3, .int .u8 k4, .int .u8 k5, .int .u8 k6, .int .u8 k7, .int .u8 kd, .int .u64 x, .int .u64 y, .int .u64 n] 58)).alloc (.cells #[.int .u8 17, .int .u8 2] 5)).ownsRow (w.heap.size + 1) 5 1 (.slice (some ⟨w.heap.size + 1, 0, none⟩) 2 2) 2 [.int .u8 17, .int .u8 2] := by
    have h := World.ownsRow_lit (base := w.heap.size + 1) (e := 5) (size := 1) (w.alloc (.cells #[.int .u8 2, .int .u8 k0, .int .u8 k1, .int .u8 k2, .int .u8 k3, .int .u8 k4, .int .u8 k5, .int .u8 k6, .int .u8 k7, .int .u8 kd, .int .u64 x, .int .u64 y, .int .u64 n] 58)) #[.int .u8 17, .int .u8 2] 2 (by simp) (by unfold maxLen; omega) rfl
    simpa using h
  have hB1 : Below w.heap.size w ((w.alloc (.cells #[.int .u8 2, .int .u8 k0, .int .u8 k1, .int .u8 k2, .int .u8 k3, .int .u8 k4, .int .u8 k5, .int .u8 k6, .int .u8 k7, .int .u8 kd, .int .u64 x, .int .u64 y, .int .u64 n] 58)).alloc (.cells #[.int .u8 17, .int .u8 2] 5)) := ((Below.refl _ w).alloc (Nat.le_refl _) _).alloc (by simp) _
  have hs1 : w.heap.size + 1 < ((w.alloc (.cells #[.int .u8 2, .int .u8 k0, .int .u8 k1, .int .u8 k2, .int .u8 k3, .int .u8 k4, .int .u8 k5, .int .u8 k6, .int .u8 k7, .int .u8 kd, .int .u64 x, .int .u64 y, .int .u64 n] 58)).alloc (.cells #[.int .u8 17, .int .u8 2] 5)).heap.size := by simp
  have hl : reqLen 2 = 17 := rfl
  go_enter Tryz.func49, Tryz.ntmps49
  go_wp2_with (first | (go_at_call 78; refine (size_any _ _).mono ?_; rintro e w' ⟨rfl, rfl⟩) | (at_builtin; refine wpList_append_own _ rfl (.tmp 17) (.tmp 19) 69 rfl (w.heap.size + 1) 5 i0 (.int .u8 0) 1 1 Tryz.underlying69 hi hz0 hz1 hz2 rfl (by decide) (.slice (some ⟨w.heap.size + 1, 0, none⟩) 2 2) 2 _ rfl hown1 ⟨w.heap.size, 1, none⟩ 8 8 [.int .u8 k0, .int .u8 k1, .int .u8 k2, .int .u8 k3, .int .u8 k4, .int .u8 k5, .int .u8 k6, .int .u8 k7] rfl rfl (src_of hc1 _ (key_src _ _ _ _ _ _ _ _ _ _ _ _ _)) (by simp [Value.oneCell']) (by unfold maxLen; omega) (by omega) (by simp) ?_; intro v2 w2 hown2 hgrow2 _; have hs2 := Nat.lt_of_lt_of_le hs1 hgrow2.size; have hD2 := (Below.refl (w.heap.size + 1) _).grown hgrow2 (Nat.le_of_lt hs1) (fun kk hkk => (hown1.lt kk hkk).1); have hc2 := fun j => (hD2.cell (p := ⟨w.heap.size, j, none⟩) (Nat.lt_succ_self _)).trans (hc1 j)))
  refine (refnum_any v2 10 (w.heap.size + 1) _ _ _ hown2 (by omega) (by omega) hn0 hn1).mono ?_
  rintro e w3 ⟨v3, rfl, hown3, hb3⟩
  go_wp2
  go_ret
  exact ⟨_, rfl, own_down (b := w.heap.size + 1) (by omega) (by simpa using hown3), hB1.trans ((hD2.trans hb3).mono (by omega))⟩

set_option maxRecDepth 100000 in
set_option maxHeartbeats 1000000 in
theorem refreq3 (k0 k1 k2 k3 k4 k5 k6 k7 kd x y n : Int) (w : World) :
    Calls Tryz.prog 49 #[.agg #[.int .u8 3, .int .u8 k0, .int .u8 k1, .int .u8 k2, .int .u8 k3, .int .u8 k4, .int .u8 k5, .int .u8 k6, .int .u8 k7, .int .u8 kd, .int .u64 x, .int .u64 y, .int .u64 n]] w
      fun e w' => ∃ v', e = .returned v' ∧ w'.ownsRow w.heap.size 5 1 v' 10 (([9, 3, k0, k1, k2, k3, k4, k5, k6, k7]).map (Value.int .u8)) ∧ Below w.heap.size w w' := by
  obtain ⟨i0, hi, hz0, hz1, hz2⟩ := info_parts Tryz.info5
  have hc1 : ∀ j, ((w.alloc (.cells #[.int .u8 3, .int .u8 k0, .int .u8 k1, .int .u8 k2, .int .u8 k3, .int .u8 k4, .int .u8 k5, .int .u8 k6, .int .u8 k7, .int .u8 kd, .int .u64 x, .int .u64 y, .int .u64 n] 58)).alloc (.cells #[.int .u8 9, .int .u8 3] 5)).cell? ⟨w.heap.size, j, none⟩ = (#[.int .u8 3, .int .u8 k0, .int .u8 k1, .int .u8 k2, .int .u8 k3, .int .u8 k4, .int .u8 k5, .int .u8 k6, .int .u8 k7, .int .u8 kd, .int .u64 x, .int .u64 y, .int .u64 n] : Array Value)[j]? := fun j => (World.cell?_alloc_past _ _ _ (by simp)).trans (cell_box w _ _ j)
  have hown1 : ((w.alloc (.cells #[.int .u8 3, .int .u8 k0, .int .u8 k1, .int .u8 k2, .int .u8 k3, .int .u8 k4, .int .u8 k5, .int .u8 k6, .int .u8 k7, .int .u8 kd, .int .u64 x, .int .u64 y, .int .u64 n] 58)).alloc (.cells #[.int .u8 9, .int .u8 3] 5)).ownsRow (w.heap.size + 1) 5 1 (.slice (some ⟨w.heap.size + 1, 0, none⟩) 2 2) 2 [.int .u8 9, .int .u8 3] := by
    have h := World.ownsRow_lit (base := w.heap.size + 1) (e := 5) (size := 1) (w.alloc (.cells #[.int .u8 3, .int .u8 k0, .int .u8 k1, .int .u8 k2, .int .u8 k3, .int .u8 k4, .int .u8 k5, .int .u8 k6, .int .u8 k7, .int .u8 kd, .int .u64 x, .int .u64 y, .int .u64 n] 58)) #[.int .u8 9, .int .u8 3] 2 (by simp) (by unfold maxLen; omega) rfl
    simpa using h
  have hB1 : Below w.heap.size w ((w.alloc (.cells #[.int .u8 3, .int .u8 k0, .int .u8 k1, .int .u8 k2, .int .u8 k3, .int .u8 k4, .int .u8 k5, .int .u8 k6, .int .u8 k7, .int .u8 kd, .int .u64 x, .int .u64 y, .int .u64 n] 58)).alloc (.cells #[.int .u8 9, .int .u8 3] 5)) := ((Below.refl _ w).alloc (Nat.le_refl _) _).alloc (by simp) _
  have hs1 : w.heap.size + 1 < ((w.alloc (.cells #[.int .u8 3, .int .u8 k0, .int .u8 k1, .int .u8 k2, .int .u8 k3, .int .u8 k4, .int .u8 k5, .int .u8 k6, .int .u8 k7, .int .u8 kd, .int .u64 x, .int .u64 y, .int .u64 n] 58)).alloc (.cells #[.int .u8 9, .int .u8 3] 5)).heap.size := by simp
  have hl : reqLen 3 = 9 := rfl
  go_enter Tryz.func49, Tryz.ntmps49
  go_wp2_with (first | (go_at_call 78; refine (size_any _ _).mono ?_; rintro e w' ⟨rfl, rfl⟩) | (at_builtin; refine wpList_append_own _ rfl (.tmp 17) (.tmp 19) 69 rfl (w.heap.size + 1) 5 i0 (.int .u8 0) 1 1 Tryz.underlying69 hi hz0 hz1 hz2 rfl (by decide) (.slice (some ⟨w.heap.size + 1, 0, none⟩) 2 2) 2 _ rfl hown1 ⟨w.heap.size, 1, none⟩ 8 8 [.int .u8 k0, .int .u8 k1, .int .u8 k2, .int .u8 k3, .int .u8 k4, .int .u8 k5, .int .u8 k6, .int .u8 k7] rfl rfl (src_of hc1 _ (key_src _ _ _ _ _ _ _ _ _ _ _ _ _)) (by simp [Value.oneCell']) (by unfold maxLen; omega) (by omega) (by simp) ?_; intro v2 w2 hown2 hgrow2 _; have hs2 := Nat.lt_of_lt_of_le hs1 hgrow2.size; have hD2 := (Below.refl (w.heap.size + 1) _).grown hgrow2 (Nat.le_of_lt hs1) (fun kk hkk => (hown1.lt kk hkk).1); have hc2 := fun j => (hD2.cell (p := ⟨w.heap.size, j, none⟩) (Nat.lt_succ_self _)).trans (hc1 j)))
  go_ret
  exact ⟨_, rfl, own_down (b := w.heap.size + 1) (by omega) (by simpa using hown2), hB1.trans (hD2.mono (by omega))⟩

set_option maxRecDepth 100000 in
set_option maxHeartbeats 1000000 in
theorem refreq4 (k0 k1 k2 k3 k4 k5 k6 k7 kd x y n : Int) (w : World) :
    Calls Tryz.prog 49 #[.agg #[.int .u8 4, .int .u8 k0, .int .u8 k1, .int .u8 k2, .int .u8 k3, .int .u8 k4, .int .u8 k5, .int .u8 k6, .int .u8 k7, .int .u8 kd, .int .u64 x, .int .u64 y, .int .u64 n]] w
      fun e w' => ∃ v', e = .returned v' ∧ w'.ownsRow w.heap.size 5 1 v' 10 (([9, 4, k0, k1, k2, k3, k4, k5, k6, k7]).map (Value.int .u8)) ∧ Below w.heap.size w w' := by
  obtain ⟨i0, hi, hz0, hz1, hz2⟩ := info_parts Tryz.info5
  have hc1 : ∀ j, ((w.alloc (.cells #[.int .u8 4, .int .u8 k0, .int .u8 k1, .int .u8 k2, .int .u8 k3, .int .u8 k4, .int .u8 k5, .int .u8 k6, .int .u8 k7, .int .u8 kd, .int .u64 x, .int .u64 y, .int .u64 n] 58)).alloc (.cells #[.int .u8 9, .int .u8 4] 5)).cell? ⟨w.heap.size, j, none⟩ = (#[.int .u8 4, .int .u8 k0, .int .u8 k1, .int .u8 k2, .int .u8 k3, .int .u8 k4, .int .u8 k5, .int .u8 k6, .int .u8 k7, .int .u8 kd, .int .u64 x, .int .u64 y, .int .u64 n] : Array Value)[j]? := fun j => (World.cell?_alloc_past _ _ _ (by simp)).trans (cell_box w _ _ j)
  have hown1 : ((w.alloc (.cells #[.int .u8 4, .int .u8 k0, .int .u8 k1, .int .u8 k2, .int .u8 k3, .int .u8 k4, .int .u8 k5, .int .u8 k6, .int .u8 k7, .int .u8 kd, .int .u64 x, .int .u64 y, .int .u64 n] 58)).alloc (.cells #[.int .u8 9, .int .u8 4] 5)).ownsRow (w.heap.size + 1) 5 1 (.slice (some ⟨w.heap.size + 1, 0, none⟩) 2 2) 2 [.int .u8 9, .int .u8 4] := by
    have h := World.ownsRow_lit (base := w.heap.size + 1) (e := 5) (size := 1) (w.alloc (.cells #[.int .u8 4, .int .u8 k0, .int .u8 k1, .int .u8 k2, .int .u8 k3, .int .u8 k4, .int .u8 k5, .int .u8 k6, .int .u8 k7, .int .u8 kd, .int .u64 x, .int .u64 y, .int .u64 n] 58)) #[.int .u8 9, .int .u8 4] 2 (by simp) (by unfold maxLen; omega) rfl
    simpa using h
  have hB1 : Below w.heap.size w ((w.alloc (.cells #[.int .u8 4, .int .u8 k0, .int .u8 k1, .int .u8 k2, .int .u8 k3, .int .u8 k4, .int .u8 k5, .int .u8 k6, .int .u8 k7, .int .u8 kd, .int .u64 x, .int .u64 y, .int .u64 n] 58)).alloc (.cells #[.int .u8 9, .int .u8 4] 5)) := ((Below.refl _ w).alloc (Nat.le_refl _) _).alloc (by simp) _
  have hs1 : w.heap.size + 1 < ((w.alloc (.cells #[.int .u8 4, .int .u8 k0, .int .u8 k1, .int .u8 k2, .int .u8 k3, .int .u8 k4, .int .u8 k5, .int .u8 k6, .int .u8 k7, .int .u8 kd, .int .u64 x, .int .u64 y, .int .u64 n] 58)).alloc (.cells #[.int .u8 9, .int .u8 4] 5)).heap.size := by simp
  have hl : reqLen 4 = 9 := rfl
  go_enter Tryz.func49, Tryz.ntmps49
  go_wp2_with (first | (go_at_call 78; refine (size_any _ _).mono ?_; rintro e w' ⟨rfl, rfl⟩) | (at_builtin; refine wpList_append_own _ rfl (.tmp 17) (.tmp 19) 69 rfl (w.heap.size + 1) 5 i0 (.int .u8 0) 1 1 Tryz.underlying69 hi hz0 hz1 hz2 rfl (by decide) (.slice (some ⟨w.heap.size + 1, 0, none⟩) 2 2) 2 _ rfl hown1 ⟨w.heap.size, 1, none⟩ 8 8 [.int .u8 k0, .int .u8 k1, .int .u8 k2, .int .u8 k3, .int .u8 k4, .int .u8 k5, .int .u8 k6, .int .u8 k7] rfl rfl (src_of hc1 _ (key_src _ _ _ _ _ _ _ _ _ _ _ _ _)) (by simp [Value.oneCell']) (by unfold maxLen; omega) (by omega) (by simp) ?_; intro v2 w2 hown2 hgrow2 _; have hs2 := Nat.lt_of_lt_of_le hs1 hgrow2.size; have hD2 := (Below.refl (w.heap.size + 1) _).grown hgrow2 (Nat.le_of_lt hs1) (fun kk hkk => (hown1.lt kk hkk).1); have hc2 := fun j => (hD2.cell (p := ⟨w.heap.size, j, none⟩) (Nat.lt_succ_self _)).trans (hc1 j)))
  go_ret
  exact ⟨_, rfl, own_down (b := w.heap.size + 1) (by omega) (by simpa using hown2), hB1.trans (hD2.mono (by omega))⟩

set_option maxRecDepth 100000 in
set_option maxHeartbeats 1000000 in
theorem refreq5 (k0 k1 k2 k3 k4 k5 k6 k7 kd x y n : Int) (w : World) :
    Calls Tryz.prog 49 #[.agg #[.int .u8 5, .int .u8 k0, .int .u8 k1, .int .u8 k2, .int .u8 k3, .int .u8 k4, .int .u8 k5, .int .u8 k6, .int .u8 k7, .int .u8 kd, .int .u64 x, .int .u64 y, .int .u64 n]] w
      fun e w' => ∃ v', e = .returned v' ∧ w'.ownsRow w.heap.size 5 1 v' 2 (([1, 5]).map (Value.int .u8)) ∧ Below w.heap.size w w' := by
  obtain ⟨i0, hi, hz0, hz1, hz2⟩ := info_parts Tryz.info5
  have hc1 : ∀ j, ((w.alloc (.cells #[.int .u8 5, .int .u8 k0, .int .u8 k1, .int .u8 k2, .int .u8 k3, .int .u8 k4, .int .u8 k5, .int .u8 k6, .int .u8 k7, .int .u8 kd, .int .u64 x, .int .u64 y, .int .u64 n] 58)).alloc (.cells #[.int .u8 1, .int .u8 5] 5)).cell? ⟨w.heap.size, j, none⟩ = (#[.int .u8 5, .int .u8 k0, .int .u8 k1, .int .u8 k2, .int .u8 k3, .int .u8 k4, .int .u8 k5, .int .u8 k6, .int .u8 k7, .int .u8 kd, .int .u64 x, .int .u64 y, .int .u64 n] : Array Value)[j]? := fun j => (World.cell?_alloc_past _ _ _ (by simp)).trans (cell_box w _ _ j)
  have hown1 : ((w.alloc (.cells #[.int .u8 5, .int .u8 k0, .int .u8 k1, .int .u8 k2, .int .u8 k3, .int .u8 k4, .int .u8 k5, .int .u8 k6, .int .u8 k7, .int .u8 kd, .int .u64 x, .int .u64 y, .int .u64 n] 58)).alloc (.cells #[.int .u8 1, .int .u8 5] 5)).ownsRow (w.heap.size + 1) 5 1 (.slice (some ⟨w.heap.size + 1, 0, none⟩) 2 2) 2 [.int .u8 1, .int .u8 5] := by
    have h := World.ownsRow_lit (base := w.heap.size + 1) (e := 5) (size := 1) (w.alloc (.cells #[.int .u8 5, .int .u8 k0, .int .u8 k1, .int .u8 k2, .int .u8 k3, .int .u8 k4, .int .u8 k5, .int .u8 k6, .int .u8 k7, .int .u8 kd, .int .u64 x, .int .u64 y, .int .u64 n] 58)) #[.int .u8 1, .int .u8 5] 2 (by simp) (by unfold maxLen; omega) rfl
    simpa using h
  have hB1 : Below w.heap.size w ((w.alloc (.cells #[.int .u8 5, .int .u8 k0, .int .u8 k1, .int .u8 k2, .int .u8 k3, .int .u8 k4, .int .u8 k5, .int .u8 k6, .int .u8 k7, .int .u8 kd, .int .u64 x, .int .u64 y, .int .u64 n] 58)).alloc (.cells #[.int .u8 1, .int .u8 5] 5)) := ((Below.refl _ w).alloc (Nat.le_refl _) _).alloc (by simp) _
  have hs1 : w.heap.size + 1 < ((w.alloc (.cells #[.int .u8 5, .int .u8 k0, .int .u8 k1, .int .u8 k2, .int .u8 k3, .int .u8 k4, .int .u8 k5, .int .u8 k6, .int .u8 k7, .int .u8 kd, .int .u64 x, .int .u64 y, .int .u64 n] 58)).alloc (.cells #[.int .u8 1, .int .u8 5] 5)).heap.size := by simp
  have hl : reqLen 5 = 1 := rfl
  go_enter Tryz.func49, Tryz.ntmps49
  go_wp2_with (go_at_call 78; refine (size_any _ _).mono ?_; rintro e w' ⟨rfl, rfl⟩)
  go_ret
  exact ⟨_, rfl, own_down (b := w.heap.size + 1) (by omega) (by simpa using hown1), hB1⟩

set_option maxRecDepth 100000 in
set_option maxHeartbeats 1000000 in
theorem refreq6 (k0 k1 k2 k3 k4 k5 k6 k7 kd x y n : Int) (w : World) :
    Calls Tryz.prog 49 #[.agg #[.int .u8 6, .int .u8 k0, .int .u8 k1, .int .u8 k2, .int .u8 k3, .int .u8 k4, .int .u8 k5, .int .u8 k6, .int .u8 k7, .int .u8 kd, .int .u64 x, .int .u64 y, .int .u64 n]] w
      fun e w' => ∃ v', e = .returned v' ∧ w'.ownsRow w.heap.size 5 1 v' 2 (([1, 6]).map (Value.int .u8)) ∧ Below w.heap.size w w' := by
  obtain ⟨i0, hi, hz0, hz1, hz2⟩ := info_parts Tryz.info5
  have hc1 : ∀ j, ((w.alloc (.cells #[.int .u8 6, .int .u8 k0, .int .u8 k1, .int .u8 k2, .int .u8 k3, .int .u8 k4, .int .u8 k5, .int .u8 k6, .int .u8 k7, .int .u8 kd, .int .u64 x, .int .u64 y, .int .u64 n] 58)).alloc (.cells #[.int .u8 1, .int .u8 6] 5)).cell? ⟨w.heap.size, j, none⟩ = (#[.int .u8 6, .int .u8 k0, .int .u8 k1, .int .u8 k2, .int .u8 k3, .int .u8 k4, .int .u8 k5, .int .u8 k6, .int .u8 k7, .int .u8 kd, .int .u64 x, .int .u64 y, .int .u64 n] : Array Value)[j]? := fun j => (World.cell?_alloc_past _ _ _ (by simp)).trans (cell_box w _ _ j)
  have hown1 : ((w.alloc (.cells #[.int .u8 6, .int .u8 k0, .int .u8 k1, .int .u8 k2, .int .u8 k3, .int .u8 k4, .int .u8 k5, .int .u8 k6, .int .u8 k7, .int .u8 kd, .int .u64 x, .int .u64 y, .int .u64 n] 58)).alloc (.cells #[.int .u8 1, .int .u8 6] 5)).ownsRow (w.heap.size + 1) 5 1 (.slice (some ⟨w.heap.size + 1, 0, none⟩) 2 2) 2 [.int .u8 1, .int .u8 6] := by
    have h := World.ownsRow_lit (base := w.heap.size + 1) (e := 5) (size := 1) (w.alloc (.cells #[.int .u8 6, .int .u8 k0, .int .u8 k1, .int .u8 k2, .int .u8 k3, .int .u8 k4, .int .u8 k5, .int .u8 k6, .int .u8 k7, .int .u8 kd, .int .u64 x, .int .u64 y, .int .u64 n] 58)) #[.int .u8 1, .int .u8 6] 2 (by simp) (by unfold maxLen; omega) rfl
    simpa using h
  have hB1 : Below w.heap.size w ((w.alloc (.cells #[.int .u8 6, .int .u8 k0, .int .u8 k1, .int .u8 k2, .int .u8 k3, .int .u8 k4, .int .u8 k5, .int .u8 k6, .int .u8 k7, .int .u8 kd, .int .u64 x, .int .u64 y, .int .u64 n] 58)).alloc (.cells #[.int .u8 1, .int .u8 6] 5)) := ((Below.refl _ w).alloc (Nat.le_refl _) _).alloc (by simp) _
  have hs1 : w.heap.size + 1 < ((w.alloc (.cells #[.int .u8 6, .int .u8 k0, .int .u8 k1, .int .u8 k2, .int .u8 k3, .int .u8 k4, .int .u8 k5, .int .u8 k6, .int .u8 k7, .int .u8 kd, .int .u64 x, .int .u64 y, .int .u64 n] 58)).alloc (.cells #[.int .u8 1, .int .u8 6] 5)).heap.size := by simp
  have hl : reqLen 6 = 1 := rfl
  go_enter Tryz.func49, Tryz.ntmps49
  go_wp2_with (go_at_call 78; refine (size_any _ _).mono ?_; rintro e w' ⟨rfl, rfl⟩)
  go_ret
  exact ⟨_, rfl, own_down (b := w.heap.size + 1) (by omega) (by simpa using hown1), hB1⟩

set_option maxRecDepth 100000 in
set_option maxHeartbeats 1000000 in
theorem refreq0 (op k0 k1 k2 k3 k4 k5 k6 k7 kd x y n : Int) (w : World) (h : reqLen op = 0) :
    Calls Tryz.prog 49 #[.agg #[.int .u8 op, .int .u8 k0, .int .u8 k1, .int .u8 k2, .int .u8 k3, .int .u8 k4, .int .u8 k5, .int .u8 k6, .int .u8 k7, .int .u8 kd, .int .u64 x, .int .u64 y, .int .u64 n]] w fun e w' => e = .returned (.slice none 0 0) ∧ Below w.heap.size w w' := by
  go_enter Tryz.func49, Tryz.ntmps49
  go_wp2_with (go_at_call 78; refine (size_any _ _).mono ?_; rintro e w' ⟨rfl, rfl⟩)
  go_ret
  exact ⟨rfl, (Below.refl _ w).alloc (Nat.le_refl _) _⟩

theorem refreq_any (op k0 k1 k2 k3 k4 k5 k6 k7 kd x y n : Int) (w : World) (hx0 : 0 ≤ x) (hx1 : x ≤ 18446744073709551615) (hy0 : 0 ≤ y) (hy1 : y ≤ 18446744073709551615) (hn0 : 0 ≤ n) (hn1 : n ≤ 18446744073709551615) :
    Calls Tryz.prog 49 #[.agg #[.int .u8 op, .int .u8 k0, .int .u8 k1, .int .u8 k2, .int .u8 k3, .int .u8 k4, .int .u8 k5, .int .u8 k6, .int .u8 k7, .int .u8 kd, .int .u64 x, .int .u64 y, .int .u64 n]] w
      fun e w' => ∃ v', e = .returned v' ∧ w'.ownsRow w.heap.size 5 1 v' (encReq op k0 k1 k2 k3 k4 k5 k6 k7 kd x y n).length ((encReq op k0 k1 k2 k3 k4 k5 k6 k7 kd x y n).map (Value.int .u8)) ∧ Below w.heap.size w w' := by
  by_cases h1 : op = 1
  · subst h1; exact refreq1 k0 k1 k2 k3 k4 k5 k6 k7 kd x y n w hx0 hx1 hy0 hy1
  by_cases h2 : op = 2
  · subst h2; exact refreq2 k0 k1 k2 k3 k4 k5 k6 k7 kd x y n w hn0 hn1
  by_cases h3 : op = 3
  · subst h3; exact refreq3 k0 k1 k2 k3 k4 k5 k6 k7 kd x y n w
  by_cases h4 : op = 4
  · subst h4; exact refreq4 k0 k1 k2 k3 k4 k5 k6 k7 kd x y n w
  by_cases h5 : op = 5
  · subst h5; exact refreq5 k0 k1 k2 k3 k4 k5 k6 k7 kd x y n w
  by_cases h6 : op = 6
  · subst h6; exact refreq6 k0 k1 k2 k3 k4 k5 k6 k7 kd x y n w
  have h0 : reqLen op = 0 := by simp [reqLen, h1, h2, h3, h4, h5, h6]
  have e0 : encReq op k0 k1 k2 k3 k4 k5 k6 k7 kd x y n = [] := by simp [encReq, h1, h2, h3, h4, h5, h6]
  rw [e0]
  refine (refreq0 op k0 k1 k2 k3 k4 k5 k6 k7 kd x y n w h0).mono ?_
  rintro e w' ⟨rfl, hb⟩
  exact ⟨_, rfl, World.ownsRow_nil _ _ _ _, hb⟩
end Go.Proofs.YtlamgpeiolfffaaGreatDoor

namespace Go.Proofs.YtlamgpeiolfffaaGreatDoor
open Go.RowKit

set_option maxRecDepth 100000 in
theorem pick20 (c n : Int) (w : World) (hn : 0 < n) (hn1 : n ≤ 1000000000) (h0 : -9223372036854775808 ≤ c) (h1 : c ≤ 9223372036854775807) :
    Calls Tryz.prog 20 #[.int .i64 c, .int .i64 n] w fun e w' => e = .returned (.int .i64 (pickM c n)) ∧ w' = w := by
  have hnz : ¬ n = 0 := by omega
  by_cases h : c < 0
  · have e : pickM c n = -((c + 1).tmod n) := by unfold pickM; rw [if_pos h, ← Int.neg_tmod, Int.tmod_eq_emod_of_nonneg (by omega)]
    have k1 : IntKind.i64.wrap (c + 1) = c + 1 := by rw [IntKind.wrap_i64]; omega
    have k2 : IntKind.i64.wrap (-(c + 1)) = -(c + 1) := by rw [IntKind.wrap_i64]; omega
    rw [e]
    clear e
    go_enter Tryz.func20, Tryz.ntmps20
    go_wp2
    go_ret
    exact ⟨rfl, rfl⟩
  · have e : pickM c n = c % n := by unfold pickM; rw [if_neg h]
    rw [e]
    clear e
    go_enter Tryz.func20, Tryz.ntmps20
    go_wp2
    go_ret
    exact ⟨rfl, rfl⟩


theorem reqref49 (q : Rq) (hq : q.ok) (w : World) :
    Calls Tryz.prog 49 #[.agg #[.int .u8 q.op, .int .u8 q.k0, .int .u8 q.k1, .int .u8 q.k2, .int .u8 q.k3, .int .u8 q.k4, .int .u8 q.k5, .int .u8 q.k6, .int .u8 q.k7, .int .u8 q.kd, .int .u64 q.x, .int .u64 q.y, .int .u64 q.n]] w
      fun e w' => ∃ a c, e = .returned (.slice a q.enc.length c) ∧ w'.ownsRow w.heap.size 5 1 (.slice a q.enc.length c) q.enc.length (q.enc.map (Value.int .u8)) ∧ Below w.heap.size w w' := by
  refine (refreq_any q.op q.k0 q.k1 q.k2 q.k3 q.k4 q.k5 q.k6 q.k7 q.kd q.x q.y q.n w hq.x.1 hq.x.2 hq.y.1 hq.y.2 hq.n.1 hq.n.2).mono ?_
  rintro e w' ⟨v, rfl, ho, hb⟩
  obtain ⟨a, c, rfl⟩ := own_slice ho
  exact ⟨a, c, rfl, ho, hb⟩

set_option maxRecDepth 100000 in
set_option maxHeartbeats 2000000 in
/-- quotaledgerlaw.written: requests, one behind the other, and bytes. -/
theorem written32 (ao : Option Addr) (n cap : Nat) (qs : List Rq) (raw : ByteArray) (w : World) (hn : qs.length = n) (hnc : n ≤ cap) (hn1 : n ≤ 1000) (hr : raw.size ≤ 20000) (hok : ∀ q ∈ qs, q.ok)
    (hc : 0 < n → ∃ A o, ao = some ⟨A, o, none⟩ ∧ A < w.heap.size ∧ ∀ i (h : i < qs.length) j, j < 13 → w.cell? ⟨A, o + i * 13 + j, none⟩ = (#[.int .u8 qs[i].op, .int .u8 qs[i].k0, .int .u8 qs[i].k1, .int .u8 qs[i].k2, .int .u8 qs[i].k3, .int .u8 qs[i].k4, .int .u8 qs[i].k5, .int .u8 qs[i].k6, .int .u8 qs[i].k7, .int .u8 qs[i].kd, .int .u64 qs[i].x, .int .u64 qs[i].y, .int .u64 qs[i].n] : Array Value)[j]?) :
    Calls Tryz.prog 32 #[.slice ao n cap, .string raw] w fun e w' => e = .returned (.string (strOfNums (encQs qs) ++ raw)) ∧ Below w.heap.size w w' := by
  have HC := hide hc
  have HN := hide hn
  have HOK := hide hok
  clear hc hn hok
  go_enter Tryz.func32, Tryz.ntmps32
  go_wp2
  go_loopw [5, 6] (fun s5 s6 wr => ∃ i : Nat, i ≤ n ∧ s6 = .int .i64 i ∧ wr.ownsRow w.heap.size 5 1 s5 (encQs (qs.take i)).length ((encQs (qs.take i)).map (Value.int .u8)) ∧ Below w.heap.size w wr) (fun _ s6 _ => n - (intOf s6).toNat)
  case atStart => exact ⟨0, by omega, rfl, World.ownsRow_nil _ _ _ _, Below.refl _ _⟩
  case round =>
    obtain ⟨i, hi, rfl, hown, hb⟩ := hrel
    have hle : (encQs (qs.take i)).length ≤ 27000 := by have := encQs_len (qs.take i); rw [List.length_take] at this; omega
    have HOWN := hide hown
    have hwr := hb.size
    clear hown
    by_cases hlt : i < n
    · have hil : i < qs.length := by rw [HN.out]; exact hlt
      obtain ⟨A, o, rfl, hA, hcc⟩ := HC.out (by omega)
      obtain ⟨q, hq⟩ : ∃ q, q = qs[i] := ⟨_, rfl⟩
      have hqo : q.ok := hq ▸ HOK.out _ (List.getElem_mem hil)
      have hcell : ∀ j, j < 13 → wr.cell? ⟨A, o + i * 13 + j, none⟩ = (#[.int .u8 q.op, .int .u8 q.k0, .int .u8 q.k1, .int .u8 q.k2, .int .u8 q.k3, .int .u8 q.k4, .int .u8 q.k5, .int .u8 q.k6, .int .u8 q.k7, .int .u8 q.kd, .int .u64 q.x, .int .u64 q.y, .int .u64 q.n] : Array Value)[j]? := fun j hj => by
        rw [hb.cell (p := ⟨A, o + i * 13 + j, none⟩) hA, hq]
        exact hcc i hil j hj
      have k0 := hcell 0 (by omega)
      have k1 := hcell 1 (by omega)
      have k2 := hcell 2 (by omega)
      have k3 := hcell 3 (by omega)
      have k4 := hcell 4 (by omega)
      have k5 := hcell 5 (by omega)
      have k6 := hcell 6 (by omega)
      have k7 := hcell 7 (by omega)
      have k8 := hcell 8 (by omega)
      have k9 := hcell 9 (by omega)
      have k10 := hcell 10 (by omega)
      have k11 := hcell 11 (by omega)
      have k12 := hcell 12 (by omega)
      rw [Nat.add_zero] at k0
      have HQ := hide hq
      have hel := enc_len q
      clear hcell hcc hq
      go_wp2_with fail
      refine (reqref49 q hqo _).mono ?_
      rintro e w2 ⟨a2, c2, rfl, hown2, hb2⟩
      have HO2 := hide hown2
      have HOW : Hid (w2.ownsRow w.heap.size 5 1 u5 (encQs (qs.take i)).length ((encQs (qs.take i)).map (Value.int .u8))) := hide (own_kept HOWN.out (fun g hg => hb2.block g (own_ltE HOWN.out hg).2))
      have hs2 := hb2.size
      have hB2 : Below w.heap.size w w2 := hb.trans (hb2.mono hwr)
      have HB2 := hide hB2
      clear k0 k1 k2 k3 k4 k5 k6 k7 k8 k9 k10 k11 k12 hown2 hB2
      go_wp2_with (at_builtin; refine wpList_append_srcA rfl _ _ rfl w.heap.size u5 _ (encQs (qs.take i)) rfl HOW.out (.slice a2 q.enc.length c2) q.enc rfl (Sl.of_own HO2.out).src (by omega) (by omega) ?_; intro v3 w3 hown3 hgr3 hloc3)
      go_roundw
      case rel =>
        have htk : qs.take (i + 1) = qs.take i ++ [qs[i]] := by rw [List.take_add_one, List.getElem?_eq_getElem hil]; rfl
        have hen : encQs (qs.take (i + 1)) = encQs (qs.take i) ++ q.enc := by rw [htk, ← HQ.out]; unfold encQs; rw [List.flatMap_append]; simp only [List.flatMap_cons, List.flatMap_nil, List.append_nil]
        refine ⟨i + 1, by omega, by go_num, ?_, ?_⟩
        · rw [hen, List.length_append]; exact hown3
        · exact ⟨hgr3.os.trans HB2.out.os, hgr3.tape.trans HB2.out.tape, hgr3.output.trans HB2.out.output, Nat.le_trans HB2.out.size hgr3.size, fun k hk => (hgr3.block k (by omega) (fun e => by have := own_ltE HOW.out e.symm; omega)).trans (HB2.out.block k hk)⟩
      case measure => simp [intOf]; omega
    · obtain rfl : i = n := by omega
      have etk : qs.take i = qs := List.take_of_length_le (by rw [HN.out]; exact Nat.le_refl _)
      rw [etk] at HOWN hle
      have hcv := conv_own HOWN.out rfl
      obtain ⟨st, hst⟩ : ∃ st, st = strOfNums (encQs qs) := ⟨_, rfl⟩
      have hsz : st.size ≤ 27000 := by rw [hst, strOfNums_size]; exact hle
      rw [← hst] at hcv
      have HST := hide hst
      clear hst
      go_wp2
      go_ret
      refine ⟨?_, hb⟩
      rw [HST.out]
      rfl
end Go.Proofs.YtlamgpeiolfffaaGreatDoor
