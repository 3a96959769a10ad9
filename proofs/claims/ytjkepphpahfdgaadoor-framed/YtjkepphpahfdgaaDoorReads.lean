import Derived.Test.YtjkepphpahfdgaaDoorRd
import Derived.Test.YtjkepphpahfdgaaDoorEqa
namespace Go.Proofs.YtjkepphpahfdgaaDoor
open Go.RowKit

set_option maxRecDepth 100000 in
set_option maxHeartbeats 2000000 in
theorem reads_any (vb : Value) (bs : List Int) (w : World) (hs : Src0 w vb bs) (hlen : bs.length ≤ 1048576) (hr : ∀ j, 0 ≤ bs.getD j 0 ∧ bs.getD j 0 ≤ 255)
    (hgl : w.cell? ⟨0, 0, none⟩ = some (.iface 89 (.agg #[.pointer (some ⟨1, 46, none⟩)]))) :
    Calls Tryd.prog 9 #[vb] w fun e w' => e = .returned (.bool true) ∧ Below w.heap.size w w' := by
  have hlt0 : 0 < w.heap.size := by
    rcases Nat.eq_zero_or_pos w.heap.size with h0 | h
    · simp [World.cell?, h0] at hgl
    · exact h
  obtain ⟨q, hq⟩ : ∃ q, q = rdQ bs := ⟨_, rfl⟩
  obtain ⟨m, hm⟩ : ∃ m, m = rdN bs := ⟨_, rfl⟩
  obtain ⟨er, her⟩ : ∃ er, er = rdErr bs := ⟨_, rfl⟩
  obtain ⟨r, hrr⟩ : ∃ r, r = rpQ bs := ⟨_, rfl⟩
  obtain ⟨k, hk⟩ : ∃ k, k = rpN bs := ⟨_, rfl⟩
  obtain ⟨ef, hef⟩ : ∃ ef, ef = rpErr bs := ⟨_, rfl⟩
  have HQ := hide hq
  have HM := hide hm
  have HE := hide her
  have HRR := hide hrr
  have HK := hide hk
  have HF := hide hef
  have HG := hide hgl
  have HR := hide hr
  clear hq hm her hrr hk hef hgl hr
  go_enter Tryd.func9, Tryd.ntmps9
  go_wp2_with fail
  refine (read10 vb bs w hs.src hlen HR.out q HQ.out m er HM.out HE.out HG.out).mono ?_
  rintro e w1 ⟨rfl, hb1⟩
  have hs1 := hs.later hb1 rfl
  go_wp2_with fail
  refine (read16 vb bs _ (hs1.later ((Below.refl _ w1).alloc (Nat.le_refl _) _) rfl) hlen HR.out q HQ.out m er HM.out HE.out).mono ?_
  rintro e w2 ⟨rfl, hb2⟩
  have hD2 : Below w1.heap.size w1 w2 := ((Below.refl _ w1).alloc (Nat.le_refl _) _).trans (hb2.mono (by simp))
  have hs2 := hs1.later hD2 rfl
  go_wp2_with fail
  have hA2 : Below w2.heap.size w2 (w2.alloc (.cells #[.int .u8 q.op, .int .u8 q.k0, .int .u8 q.k1, .int .u8 q.k2, .int .u8 q.k3, .int .u8 q.k4, .int .u8 q.k5, .int .u8 q.k6, .int .u8 q.k7, .int .u8 q.kd, .int .u64 q.x, .int .u64 q.y, .int .u64 q.n] 28)) := (Below.refl _ w2).alloc (Nat.le_refl _) _
  have hB2 : Below w.heap.size w w2 := hb1.trans (hD2.mono hb1.size)
  refine (read17 vb bs _ (hs2.later hA2 rfl).src hlen HR.out r HRR.out k ef HK.out HF.out ((hA2.cell (p := ⟨0, 0, none⟩) (Nat.lt_of_lt_of_le hlt0 hB2.size)).trans ((hB2.cell (p := ⟨0, 0, none⟩) hlt0).trans HG.out))).mono ?_
  rintro e w3 ⟨rfl, hb3⟩
  have hD3 : Below w2.heap.size w2 w3 := hA2.trans (hb3.mono (by simp))
  have hs3 := hs2.later hD3 rfl
  go_wp2_with fail
  refine (read18 vb bs _ (hs3.later ((Below.refl _ w3).alloc (Nat.le_refl _) _) rfl) hlen HR.out r HRR.out k ef HK.out HF.out).mono ?_
  rintro e w4 ⟨rfl, hb4⟩
  have hD4 : Below w3.heap.size w3 w4 := ((Below.refl _ w3).alloc (Nat.le_refl _) _).trans (hb4.mono (by simp))
  have z2 : w1.heap.size < w2.heap.size := by have := hb2.size; simp at this; omega
  have z3 : w2.heap.size < w3.heap.size := by have := hb3.size; simp at this; omega
  have z4 : w3.heap.size < w4.heap.size := by have := hb4.size; simp at this; omega
  have hx : ∀ j, w4.cell? ⟨w1.heap.size, j, none⟩ = (#[.int .u8 q.op, .int .u8 q.k0, .int .u8 q.k1, .int .u8 q.k2, .int .u8 q.k3, .int .u8 q.k4, .int .u8 q.k5, .int .u8 q.k6, .int .u8 q.k7, .int .u8 q.kd, .int .u64 q.x, .int .u64 q.y, .int .u64 q.n] : Array Value)[j]? := fun j => (hD4.cell (p := ⟨w1.heap.size, j, none⟩) (Nat.lt_trans z2 z3)).trans ((hD3.cell (p := ⟨w1.heap.size, j, none⟩) z2).trans ((hb2.cell (p := ⟨w1.heap.size, j, none⟩) (by simp)).trans (cell_box w1 _ _ j)))
  have hy : ∀ j, w4.cell? ⟨w2.heap.size, j, none⟩ = (#[.int .u8 q.op, .int .u8 q.k0, .int .u8 q.k1, .int .u8 q.k2, .int .u8 q.k3, .int .u8 q.k4, .int .u8 q.k5, .int .u8 q.k6, .int .u8 q.k7, .int .u8 q.kd, .int .u64 q.x, .int .u64 q.y, .int .u64 q.n] : Array Value)[j]? := fun j => (hD4.cell (p := ⟨w2.heap.size, j, none⟩) z3).trans ((hb3.cell (p := ⟨w2.heap.size, j, none⟩) (by simp)).trans (cell_box w2 _ _ j))
  have hu : ∀ j, w4.cell? ⟨w3.heap.size, j, none⟩ = (#[.int .u8 r.c, .int .u64 r.a, .int .u64 r.b] : Array Value)[j]? := fun j => (hb4.cell (p := ⟨w3.heap.size, j, none⟩) (by simp)).trans (cell_box w3 _ _ j)
  have hB4 : Below w.heap.size w w4 := (hB2.trans (hD3.mono (by have := hB2.size; omega))).trans (hD4.mono (by have := hB2.size; omega))
  have z1 : w.heap.size ≤ w1.heap.size := hb1.size
  have y2 : w1.heap.size < w4.heap.size := by omega
  have y3 : w2.heap.size < w4.heap.size := by omega
  clear hs hs1 hs2 hs3 hb1 hb2 hb3 hb4 hD2 hD3 hD4 hA2 hB2 z2 z3
  have hke := key_eq
  go_wp2
  go_ret
  exact ⟨rfl, hB4.alloc (by omega) _⟩
end Go.Proofs.YtjkepphpahfdgaaDoor
