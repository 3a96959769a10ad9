import Derived.Test.YtlamgpeiolfffaaGreatDoorAsk
import Derived.Test.YtlamgpeiolfffaaGreatDoorPuA
set_option linter.unusedSectionVars false
namespace Go.Proofs.YtlamgpeiolfffaaGreatDoor
open Go.RowKit
variable [dK] [iK]

/-- A host with one key, which stands so; its blocks are those of G. -/
def AskAt (w : World) (hb : Nat) (T : Int) (z : Qt) (B : Nat) (G : Nat → Prop) : Prop := ∃ db nb sb mb blk A F cv cb, HostAt w hb db nb sb mb blk ⟨T, A, [(kK, z)]⟩ F B cv 3 cb (fun _ => ⟨[], false⟩) ∧ 0 ≤ A ∧ A ≤ 18446744073709551615 ∧ G = HG hb db F cv 3 cb
theorem AskAt.kept {w w' : World} {hb : Nat} {T : Int} {z : Qt} {B : Nat} {G : Nat → Prop} (h : AskAt w hb T z B G) (hs : w.heap.size ≤ w'.heap.size) (hk : ∀ k, k < w.heap.size → w'.heap[k]? = w.heap[k]?) : AskAt w' hb T z B G := by
  obtain ⟨db, nb, sb, mb, blk, A, F, cv, cb, H, h1, h2, h3⟩ := h
  exact ⟨db, nb, sb, mb, blk, A, F, cv, cb, H.kept hs hk, h1, h2, h3⟩
theorem AskAt.lt {w : World} {hb : Nat} {T : Int} {z : Qt} {B : Nat} {G : Nat → Prop} (h : AskAt w hb T z B G) (b : Nat) (hb' : G b) : b < w.heap.size := by
  obtain ⟨db, nb, sb, mb, blk, A, F, cv, cb, H, h1, h2, rfl⟩ := h
  exact H.lt b hb'
theorem AskAt.lo {w : World} {hb : Nat} {T : Int} {z : Qt} {B : Nat} {G : Nat → Prop} (h : AskAt w hb T z B G) (b : Nat) (hb' : G b) : B ≤ b := by
  obtain ⟨db, nb, sb, mb, blk, A, F, cv, cb, H, h1, h2, rfl⟩ := h
  exact H.lo b hb'
theorem kK_ok : kK.ok := ⟨by simp [kK], by simp [kK], by simp [kK], by simp [kK], by simp [kK], by simp [kK], by simp [kK], by simp [kK]⟩
theorem ask_at (hb : Nat) (T : Int) (z : Qt) (B : Nat) (G : Nat → Prop) (n at_ : Int) (w : World) (H : AskAt w hb T z B G) (hB : B ≤ w.heap.size) (hB0 : 0 < B) (hz : z.ok) (hT : 0 ≤ T ∧ T ≤ 18446744073709551615) (hn : 0 ≤ n ∧ n ≤ 18446744073709551615) (ha : 0 ≤ at_ ∧ at_ ≤ 18446744073709551615)
    (hgl : w.cell? ⟨0, 0, none⟩ = some (.iface 201 (.agg #[.pointer (some ⟨1, 88, none⟩)]))) (T' : Int) (z' : Qt) (r : Rp) (hT' : T' = if T < at_ then at_ else T) (hr : admM z T' n = (z', r)) :
    Calls Tryz.prog 13 #[.pointer (some ⟨hb, 0, none⟩), .int .u64 n, .int .u64 at_] w fun e w' => ∃ G', e = .returned (.tuple #[.agg #[.int .u8 r.c, .int .u64 r.a, .int .u64 r.b], .bool true]) ∧ AskAt w' hb T' z' B G' ∧ Keep G w w' ∧ ∀ b, G' b → G b ∨ w.heap.size ≤ b := by
  obtain ⟨db, nb, sb, mb, blk, A, F, cv, cb, H, h1, h2, rfl⟩ := H
  have hT2 : 0 ≤ T' ∧ T' ≤ 18446744073709551615 := by rw [hT']; split <;> omega
  obtain ⟨o1, o2, o3⟩ := admM_ok z T' n hz hT2.1 hT2.2 hn.1
  rw [hr] at o1 o2 o3
  refine (ask13 hb db nb sb mb blk T A z F B cv cb n at_ w H hB hB0 hn ha ⟨hT, ⟨h1, h2⟩, fun p hp => by simp at hp; rw [hp]; exact kK_ok, fun p hp => by simp at hp; rw [hp]; exact hz, by simp, by simp⟩ hgl T' _ z' r hT' rfl hr ⟨by rcases o3 with h | h <;> (have h : r.c = _ := h; omega), by rcases o3 with h | h <;> (have h : r.c = _ := h; omega), o2.a, o2.b⟩).mono ?_
  rintro e w' ⟨F', cv', cb', rfl, H', hk', hg'⟩
  refine ⟨_, rfl, ⟨db, nb, sb, mb, blk, _, F', cv', cb', H', ?_, ?_, rfl⟩, hk', hg'⟩ <;> (split <;> omega)
theorem opened_at (kd x y blk : Int) (w : World) (hso : soundM kd x y) (hx : 0 ≤ x ∧ x ≤ 18446744073709551615) (hy : 0 ≤ y ∧ y ≤ 18446744073709551615) (hgl : w.cell? ⟨0, 0, none⟩ = some (.iface 201 (.agg #[.pointer (some ⟨1, 88, none⟩)]))) :
    Calls Tryz.prog 8 #[.agg #[.int .u8 kd, .int .u64 x, .int .u64 y], .int .u64 blk] w fun e w' => ∃ hb G, e = .returned (.pointer (some ⟨hb, 0, none⟩)) ∧ AskAt w' hb 0 ⟨kd, x, y, 0, 0⟩ w.heap.size G ∧ Below w.heap.size w w' := by
  refine (opened8 kd x y blk w hso hx hy hgl).mono ?_
  rintro e w' ⟨hb, db, nb, sb, mb, F, cv, cb, rfl, H, hb'⟩
  exact ⟨hb, _, rfl, ⟨db, nb, sb, mb, blk, 0, F, cv, cb, H, by decide, by decide, rfl⟩, hb'⟩

/-- How memory stands between the asks of Drawn. -/
structure Dw (w W : World) (hb : Nat) (T : Int) (z : Qt) (B : Nat) (G : Nat → Prop) : Prop where
  ask : AskAt W hb T z B G
  bs : B ≤ W.heap.size
  wB : w.heap.size ≤ B
  b0 : 0 < w.heap.size
  gl : w.cell? ⟨0, 0, none⟩ = some (.iface 201 (.agg #[.pointer (some ⟨1, 88, none⟩)]))
  be : Below w.heap.size w W
theorem Dw.box {w W : World} {hb : Nat} {T : Int} {z : Qt} {B : Nat} {G : Nat → Prop} (h : Dw w W hb T z B G) (o : Obj) : Dw w (W.alloc o) hb T z B G := by
  refine ⟨h.ask.kept (by simp) (fun k hk => heapOld _ _ hk), ?_, h.wB, h.b0, h.gl, h.be.alloc h.be.size _⟩
  rw [World.size_alloc]
  exact Nat.le_succ_of_le h.bs
theorem Dw.new {w W : World} {hb : Nat} {T : Int} {z : Qt} {B : Nat} {G : Nat → Prop} (h : Dw w W hb T z B G) : ¬ G W.heap.size := fun hG => by
  have := h.ask.lt _ hG
  omega
theorem ask_dw (w W : World) (hb : Nat) (T : Int) (z : Qt) (B : Nat) (G : Nat → Prop) (n at_ : Int) (h : Dw w W hb T z B G) (hz : z.ok) (hT : 0 ≤ T ∧ T ≤ 18446744073709551615) (hn : 0 ≤ n ∧ n ≤ 18446744073709551615) (ha : 0 ≤ at_ ∧ at_ ≤ 18446744073709551615)
    (T' : Int) (z' : Qt) (r : Rp) (hT' : T' = if T < at_ then at_ else T) (hr : admM z T' n = (z', r)) :
    Calls Tryz.prog 13 #[.pointer (some ⟨hb, 0, none⟩), .int .u64 n, .int .u64 at_] W fun e w' => ∃ G', e = .returned (.tuple #[.agg #[.int .u8 r.c, .int .u64 r.a, .int .u64 r.b], .bool true]) ∧ Dw w w' hb T' z' B G' ∧ ∀ ab o, W.heap[ab]? = some o → ¬ G ab → w'.heap[ab]? = some o ∧ ¬ G' ab := by
  have hwB := h.wB
  have hb0 := h.b0
  refine (ask_at hb T z B G n at_ W h.ask h.bs (by omega) hz hT hn ha ((h.be.cell (p := ⟨0, 0, none⟩) hb0).trans h.gl) T' z' r hT' hr).mono ?_
  rintro e w' ⟨G', rfl, g1, g2, g3⟩
  refine ⟨G', rfl, ⟨g1, Nat.le_trans h.bs g2.size, h.wB, h.b0, h.gl, h.be.trans (g2.below (Nat.le_trans hwB h.bs) (fun k hk => Nat.le_trans hwB (h.ask.lo k hk)))⟩, fun ab o h1 h2 => ⟨(g2.block ab (ltB h1) h2).trans h1, fun h3 => (g3 ab h3).elim h2 (fun h4 => by have := ltB h1; omega)⟩⟩

/-- What Drawn reckons. -/
structure Dr (kd x y t most : Int) (z1 z2 z3 : Qt) (a2 b2 a3 : Int) : Prop where
  r1 : admM ⟨kd, x, y, 0, 0⟩ t (most + 1) = (z1, ⟨3, 18446744073709551615, 0⟩)
  r2 : admM z1 t most = (z2, ⟨2, a2, b2⟩)
  r3 : admM z2 t 1 = (z3, ⟨3, a3, 0⟩)
  m0 : most = 0 → a3 = 18446744073709551615
  m1 : most ≠ 0 → t < a3 ∧ a3 ≤ 3000 ∧ admM z3 (a3 - 1) 1 = (z3, ⟨3, a3, 0⟩) ∧ (admM z3 a3 1).2.c = 2
  mr : 0 ≤ most ∧ most ≤ 300
theorem dr_of (kind x y t : Int) (p : Int × Int × Int) (hp : p = polM kind x y) (ht : 1 ≤ t ∧ t ≤ 2000) (most : Int) (hm : most = if p.1 = 1 then p.2.2 / p.2.1 + 1 else p.2.1) : ∃ z1 z2 z3 a2 b2 a3, Dr p.1 p.2.1 p.2.2 t most z1 z2 z3 a2 b2 a3 := by
  have r1 := pickM_ok x 50 (by omega)
  have r2 := pickM_ok y 200 (by omega)
  have r3 := pickM_ok x 20 (by omega)
  have r4 := pickM_ok y 100 (by omega)
  unfold polM at hp
  split at hp
  · subst hp
    dsimp only at hm ⊢
    rw [if_neg (by omega)] at hm
    obtain ⟨g1, g2, g3, g4⟩ := drawn_window (pickM x 20) (1 + pickM y 100) t (by omega) (by omega) ht
    rw [hm]
    by_cases h0 : pickM x 20 = 0
    · refine ⟨_, _, (admM ⟨2, pickM x 20, 1 + pickM y 100, pickM x 20, t / (1 + pickM y 100)⟩ t 1).1, _, _, 18446744073709551615, g1, g2, ?_, fun _ => rfl, fun h => absurd h0 h, by omega⟩
      rw [← g3 h0]
    · obtain ⟨g5, g6, g7, g8, g9⟩ := g4 h0
      exact ⟨_, _, _, _, _, _, g1, g2, g5, fun h => absurd h h0, fun _ => ⟨g6, g7, g8, g9⟩, by omega⟩
  · subst hp
    dsimp only at hm ⊢
    rw [if_pos rfl] at hm
    obtain ⟨g1, g2, g3, g4, g5, g6, g7⟩ := drawn_spaced (1 + pickM x 50) (pickM y 200) t most (by omega) (by omega) ht hm
    have d0 : 0 ≤ pickM y 200 / (1 + pickM x 50) := Int.ediv_nonneg (by omega) (by omega)
    have d1 : pickM y 200 / (1 + pickM x 50) ≤ pickM y 200 := Int.ediv_le_self _ (by omega)
    exact ⟨_, _, _, _, _, _, g1, g2, g3, fun h => by omega, fun _ => ⟨g4, g5, g6, g7⟩, by omega⟩
theorem pol_ok (kind x y : Int) (p : Int × Int × Int) (hp : p = polM kind x y) : soundM p.1 p.2.1 p.2.2 ∧ (0 ≤ p.2.1 ∧ p.2.1 ≤ 50) ∧ (0 ≤ p.2.2 ∧ p.2.2 ≤ 200) ∧ (p.1 = 1 ∨ p.1 = 2) ∧ (p.1 = 1 → 1 ≤ p.2.1) := by
  have r1 := pickM_ok x 50 (by omega)
  have r2 := pickM_ok y 200 (by omega)
  have r3 := pickM_ok x 20 (by omega)
  have r4 := pickM_ok y 100 (by omega)
  unfold polM at hp
  split at hp
  · subst hp
    exact ⟨Or.inr ⟨rfl, by show 1 ≤ 1 + pickM y 100; omega⟩, by dsimp only; omega, by dsimp only; omega, Or.inr rfl, fun h => by simp at h⟩
  · subst hp
    exact ⟨Or.inl ⟨rfl, by show 1 ≤ 1 + pickM x 50; omega⟩, by dsimp only; omega, by dsimp only; omega, Or.inl rfl, fun _ => by dsimp only; omega⟩
end Go.Proofs.YtlamgpeiolfffaaGreatDoor
