import Derived.Test.YtnlgndpcddngoaaGreatDoorZb03
import Derived.Test.YtnlgndpcddngoaaGreatDoorZb04
import Derived.Test.YtnlgndpcddngoaaGreatDoorZb05
import Derived.Test.YtnlgndpcddngoaaGreatDoorZb06
import Derived.Test.YtnlgndpcddngoaaGreatDoorZb00
import Derived.Test.YtnlgndpcddngoaaGreatDoorZa22
import Derived.Test.YtnlgndpcddngoaaGreatDoorZa21
namespace Go.Proofs.YtnlgndpcddngoaaGreatDoor
open Go.RowKit

theorem read16 (vb : Value) (bs : List Int) (w : World) (hs : Sl w vb bs) (hlen : bs.length ≤ 1048576) (hr : ∀ j, 0 ≤ bs.getD j 0 ∧ bs.getD j 0 ≤ 255) (q : Rq) (hq : q = rdQ bs) (m er : Int) (hm : m = rdN bs) (her : er = rdErr bs) :
    Calls Tryz.prog 85 #[vb] w fun e w' => e = .returned (.tuple #[.agg #[.int .u8 q.op, .int .u8 q.k0, .int .u8 q.k1, .int .u8 q.k2, .int .u8 q.k3, .int .u8 q.k4, .int .u8 q.k5, .int .u8 q.k6, .int .u8 q.k7, .int .u8 q.kd, .int .u64 q.x, .int .u64 q.y, .int .u64 q.n], .int .i64 m, .int .i64 er]) ∧ Below w.heap.size w w' := by
  subst hq hm her
  rcases hs with ⟨rfl, rfl | ⟨g, so, cap, rfl⟩⟩ | ⟨hp, g, so, cap, rfl, hcap, hg, hc⟩
  · exact rr16_nil _ _ w
  · exact rr16_nil _ _ w
  have bad : ∀ k : Int, rdErr bs = k → k ≠ 0 → (Calls Tryz.prog 85 #[.slice (some ⟨g, so, none⟩) bs.length cap] w fun e w' => e = .returned (.tuple #[.agg #[.int .u8 0, .int .u8 0, .int .u8 0, .int .u8 0, .int .u8 0, .int .u8 0, .int .u8 0, .int .u8 0, .int .u8 0, .int .u8 0, .int .u64 0, .int .u64 0, .int .u64 0], .int .i64 0, .int .i64 k]) ∧ Below w.heap.size w w') →
      Calls Tryz.prog 85 #[.slice (some ⟨g, so, none⟩) bs.length cap] w fun e w' => e = .returned (.tuple #[.agg #[.int .u8 (rdQ bs).op, .int .u8 (rdQ bs).k0, .int .u8 (rdQ bs).k1, .int .u8 (rdQ bs).k2, .int .u8 (rdQ bs).k3, .int .u8 (rdQ bs).k4, .int .u8 (rdQ bs).k5, .int .u8 (rdQ bs).k6, .int .u8 (rdQ bs).k7, .int .u8 (rdQ bs).kd, .int .u64 (rdQ bs).x, .int .u64 (rdQ bs).y, .int .u64 (rdQ bs).n], .int .i64 (rdN bs), .int .i64 (rdErr bs)]) ∧ Below w.heap.size w w' := by
    intro k hk hk0 h
    have e0 : ¬ rdErr bs = 0 := by omega
    have e2 : rdQ bs = Rq.zero := by unfold rdQ; rw [if_neg e0]
    have e3 : rdN bs = 0 := by unfold rdN; rw [if_neg e0]
    rw [e2, e3, hk]
    exact h
  cases bs with
  | nil => simp at hp
  | cons b0 t =>
    have c0 : w.cell? ⟨g, so, none⟩ = some (.int .u8 b0) := hc 0 hp
    have r0 : 0 ≤ b0 ∧ b0 ≤ 255 := hr 0
    by_cases hlo : b0 < 1
    · exact bad 2 (by simp [rdErr, hlo]) (by omega) (rr16_zero g so _ cap b0 w hp hg c0 (by omega))
    by_cases hhi : 26 < b0
    · exact bad 2 (by simp [rdErr, hhi]) (by omega) (rr16_high g so _ cap b0 w hp hg c0 hhi r0.2)
    have hor : ¬ (b0 < 1 ∨ 26 < b0) := by omega
    cases t with
    | nil => exact bad 1 (by simp [rdErr, hor]) (by omega) (rr16_one g so _ cap b0 w hp hg c0 (by omega) (by omega) rfl)
    | cons b1 t =>
      have hn2 : 1 < (b0 :: b1 :: t).length := by simp
      have c1 : w.cell? ⟨g, so + 1, none⟩ = some (.int .u8 b1) := hc 1 hn2
      by_cases heq : b0 = reqLen b1
      · by_cases hle : (((b0 :: b1 :: t).length : Nat) : Int) ≤ b0
        · exact bad 1 (by simp only [rdErr]; rw [if_neg hor, if_pos heq, if_pos hle]) (by omega) (rr16_short g so _ cap b0 w hp hg c0 (by omega) (by omega) hn2 b1 c1 heq hle)
        · have e1 : rdErr (b0 :: b1 :: t) = 0 := by simp only [rdErr]; rw [if_neg hor, if_pos heq, if_neg hle]
          have e3 : rdN (b0 :: b1 :: t) = b0 + 1 := by simp [rdN, e1]
          rw [e1, e3]
          by_cases h1 : b1 = 1
          · subst h1
            obtain rfl : b0 = 26 := heq
            rw [rdQ_1 _ e1 rfl]
            exact rr16_1 g so _ cap (fun j => (26 :: 1 :: t).getD j 0) w (by omega) hcap hlen hg hc hr rfl rfl
          by_cases h2 : b1 = 2
          · subst h2
            obtain rfl : b0 = 17 := heq
            rw [rdQ_2 _ e1 rfl]
            exact rr16_2 g so _ cap (fun j => (17 :: 2 :: t).getD j 0) w (by omega) hcap hlen hg hc hr rfl rfl
          by_cases h3 : b1 = 3
          · subst h3
            obtain rfl : b0 = 9 := heq
            rw [rdQ_3 _ e1 (Or.inl rfl)]
            exact rr16_3 g so _ cap (fun j => (9 :: 3 :: t).getD j 0) w (by omega) hcap hlen hg hc hr rfl rfl
          by_cases h4 : b1 = 4
          · subst h4
            obtain rfl : b0 = 9 := heq
            rw [rdQ_3 _ e1 (Or.inr rfl)]
            exact rr16_4 g so _ cap (fun j => (9 :: 4 :: t).getD j 0) w (by omega) hcap hlen hg hc hr rfl rfl
          by_cases h5 : b1 = 5
          · subst h5
            obtain rfl : b0 = 1 := heq
            rw [rdQ_5 _ e1 (Or.inl rfl)]
            exact rr16_5 g so _ cap (fun j => (1 :: 5 :: t).getD j 0) w (by omega) hcap hlen hg hc hr rfl rfl
          by_cases h6 : b1 = 6
          · subst h6
            obtain rfl : b0 = 1 := heq
            rw [rdQ_5 _ e1 (Or.inr rfl)]
            exact rr16_6 g so _ cap (fun j => (1 :: 6 :: t).getD j 0) w (by omega) hcap hlen hg hc hr rfl rfl
          exact absurd heq (by simp [reqLen, h1, h2, h3, h4, h5, h6]; omega)
      · exact bad 2 (by simp only [rdErr]; rw [if_neg hor, if_neg heq]) (by omega) (rr16_bad g so _ cap b0 w hp hg c0 (by omega) (by omega) hn2 b1 c1 heq)

theorem read18 (vb : Value) (bs : List Int) (w : World) (hs : Sl w vb bs) (hlen : bs.length ≤ 1048576) (hr : ∀ j, 0 ≤ bs.getD j 0 ∧ bs.getD j 0 ≤ 255) (r : Rp) (hq : r = rpQ bs) (m er : Int) (hm : m = rpN bs) (her : er = rpErr bs) :
    Calls Tryz.prog 56 #[vb] w fun e w' => e = .returned (.tuple #[.agg #[.int .u8 r.c, .int .u64 r.a, .int .u64 r.b], .int .i64 m, .int .i64 er]) ∧ Below w.heap.size w w' := by
  subst hq hm her
  rcases hs with ⟨rfl, rfl | ⟨g, so, cap, rfl⟩⟩ | ⟨hp, g, so, cap, rfl, hcap, hg, hc⟩
  · exact rr18_nil _ _ w
  · exact rr18_nil _ _ w
  have bad : ∀ k : Int, rpErr bs = k → k ≠ 0 → (Calls Tryz.prog 56 #[.slice (some ⟨g, so, none⟩) bs.length cap] w fun e w' => e = .returned (.tuple #[.agg #[.int .u8 0, .int .u64 0, .int .u64 0], .int .i64 0, .int .i64 k]) ∧ Below w.heap.size w w') →
      Calls Tryz.prog 56 #[.slice (some ⟨g, so, none⟩) bs.length cap] w fun e w' => e = .returned (.tuple #[.agg #[.int .u8 (rpQ bs).c, .int .u64 (rpQ bs).a, .int .u64 (rpQ bs).b], .int .i64 (rpN bs), .int .i64 (rpErr bs)]) ∧ Below w.heap.size w w' := by
    intro k hk hk0 h
    have e0 : ¬ rpErr bs = 0 := by omega
    have e2 : rpQ bs = ⟨0, 0, 0⟩ := by unfold rpQ; rw [if_neg e0]
    have e3 : rpN bs = 0 := by unfold rpN; rw [if_neg e0]
    rw [e2, e3, hk]
    exact h
  cases bs with
  | nil => simp at hp
  | cons b0 t =>
    have c0 : w.cell? ⟨g, so, none⟩ = some (.int .u8 b0) := hc 0 hp
    by_cases h17 : b0 = 17
    · have hor : ¬ (b0 < 17 ∨ 17 < b0) := by omega
      cases t with
      | nil => exact bad 1 (by simp [rpErr, hor]) (by omega) (rr18_one g so _ cap b0 w hp hg c0 h17 rfl)
      | cons b1 t =>
        have hn2 : 1 < (b0 :: b1 :: t).length := by simp
        have c1 : w.cell? ⟨g, so + 1, none⟩ = some (.int .u8 b1) := hc 1 hn2
        by_cases hlo : b1 < 1
        · have hne : ¬ b0 = repLen b1 := by simp [repLen, hlo, h17]
          exact bad 2 (by simp only [rpErr]; rw [if_neg hor, if_neg hne]) (by omega) (rr18_low g so _ cap b0 w hp hg c0 h17 hn2 b1 c1 hlo)
        by_cases hhi : 9 < b1
        · have hne : ¬ b0 = repLen b1 := by simp [repLen, hhi, h17]
          exact bad 2 (by simp only [rpErr]; rw [if_neg hor, if_neg hne]) (by omega) (rr18_high g so _ cap b0 w hp hg c0 h17 hn2 b1 c1 hlo hhi)
        have heq : b0 = repLen b1 := by simp [repLen, hlo, hhi, h17]
        by_cases hle : (((b0 :: b1 :: t).length : Nat) : Int) ≤ b0
        · exact bad 1 (by simp only [rpErr]; rw [if_neg hor, if_pos heq, if_pos hle]) (by omega) (rr18_short g so _ cap b0 w hp hg c0 h17 hn2 b1 c1 hlo hhi (by omega))
        · have e1 : rpErr (b0 :: b1 :: t) = 0 := by simp only [rpErr]; rw [if_neg hor, if_pos heq, if_neg hle]
          have e2 : rpQ (b0 :: b1 :: t) = ⟨b1, num8 (b0 :: b1 :: t) 2, num8 (b0 :: b1 :: t) 10⟩ := by unfold rpQ; rw [if_pos e1]; rfl
          have e3 : rpN (b0 :: b1 :: t) = 18 := by unfold rpN; rw [if_pos e1]
          rw [e1, e2, e3]
          exact rr18_ok g so _ cap (fun j => (b0 :: b1 :: t).getD j 0) w (by omega) hcap hlen hg hc hr h17 hlo hhi
    · have hor : b0 < 17 ∨ 17 < b0 := by omega
      exact bad 2 (by simp only [rpErr]; rw [if_pos hor]) (by omega) (rr18_head g so _ cap b0 w hp hg c0 h17)
end Go.Proofs.YtnlgndpcddngoaaGreatDoor
