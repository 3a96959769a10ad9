import Derived.Test.YtnlgndpcddngoaaGreatDoorZc45
import Derived.Test.YtnlgndpcddngoaaGreatDoorZc25
import Derived.Test.YtnlgndpcddngoaaGreatDoorZc42
import Derived.Test.YtnlgndpcddngoaaGreatDoorZc18
import Derived.Deep.RegionLaw
set_option linter.unusedSectionVars false
namespace Go.Proofs.YtnlgndpcddngoaaGreatDoor
open Go.RowKit Go.Maps
variable [dK] [iK]

theorem SrvK.dskF {db : Nat} {blk : Int} {k : Nat} {w : World} {st : Int} {sb : Nat} {L : Ld} {F : Nat → Prop} (h : SrvK db blk k w st sb L F) : F db := by
  obtain ⟨c, _, _, _, h⟩ := h
  obtain ⟨mp, g, FD, _, _, _, h4, h5, _⟩ := h.mem
  exact h5 db h4.own
theorem SrvK.dsk {db : Nat} {blk : Int} {k : Nat} {w : World} {st : Int} {sb : Nat} {L : Ld} {F : Nat → Prop} (h : SrvK db blk k w st sb L F) : ∃ mb nb l f, w.heap[db]? = some (.cells #[.map (some mb), .map (some nb), .slice none 0 0, .int .i64 l, .int .i64 f, .bool false] 88) := by
  obtain ⟨c, _, _, _, h⟩ := h
  obtain ⟨mp, g, FD, _, _, _, h4, _⟩ := h.mem
  obtain ⟨mb, nb, l, f, h1, _⟩ := h4.mem
  exact ⟨mb, nb, l, f, h1⟩
/-- The disk is told anew that it never goes down. -/
theorem SrvK.refill {db : Nat} {blk : Int} {k : Nat} {w w' : World} {st : Int} {sb : Nat} {L : Ld} {F : Nat → Prop} (h : SrvK db blk k w st sb L F) {mb nb : Nat} {l f : Int} (hd : w.heap[db]? = some (.cells #[.map (some mb), .map (some nb), .slice none 0 0, .int .i64 l, .int .i64 f, .bool false] 88))
    (hd' : w'.heap[db]? = some (.cells #[.map (some mb), .map (some nb), .slice none 0 0, .int .i64 (-1), .int .i64 (-1), .bool false] 88)) (hs : w.heap.size ≤ w'.heap.size) (hk : ∀ b, F b → b ≠ db → w'.heap[b]? = w.heap[b]?) : SrvK db blk 4000000 w' st sb L F := by
  obtain ⟨c, k1, k2, k3, h⟩ := h
  obtain ⟨mp, g, FD, h1, h2, h3, h4, h5, h6, h7, h8, h9, h10, h11, h12, h13⟩ := h.mem
  obtain ⟨mb', nb', l', f', m1, m2, m3, m4, m5, m6, m7, m8⟩ := h4.mem
  rw [hd] at m1
  simp at m1
  obtain ⟨rfl, rfl, _, _⟩ := m1
  have ne : ∀ x, ¬ FD x → x ≠ db := fun x hx e => hx (e ▸ h4.own)
  have nm : mb ≠ db := m2.map.ne hd
  have nn : nb ≠ db := m3.map.ne hd
  have ns : ∀ (p : Bool × (Nat × ByteArray)), w.heap[p.2.1]? = some (.cells #[.string p.2.2] 9) → p.2.1 ≠ db := fun p hp e => by rw [e, hd] at hp; simp at hp
  exact ⟨c, k1, k2, k3, ⟨⟨mp, g, FD, (hk sb h.own (ne sb h11)).trans h1, MapG.kept h2 (hk mp h6 (ne mp h9)), h3.kept (hk g h7 (ne g h8)), ⟨⟨mb, nb, -1, -1, hd', m2.kept (hk mb (h5 _ m6) nm) (fun p hp => hk _ (h5 _ (h4.sD p hp)) (ns p (m2.str p hp))), m3.kept (hk nb (h5 _ m7) nn) (fun p hp => hk _ (h5 _ (h4.sN p hp)) (ns p (m3.str p hp))), by omega, by omega, m6, m7, m8⟩, h4.sD, h4.sN, h4.own, fun b hF => Nat.lt_of_lt_of_le (h4.lt b hF) hs⟩, h5, h6, h7, h8, h9, h10, h11, h12, h13⟩, h.own, fun b hF => Nat.lt_of_lt_of_le (h.lt b hF) hs⟩⟩
end Go.Proofs.YtnlgndpcddngoaaGreatDoor

namespace Go.Proofs.YtnlgndpcddngoaaGreatDoor
open Go.RowKit
variable [dK] [iK]

set_option maxRecDepth 100000 in
set_option maxHeartbeats 2000000 in
theorem hostopen16 (hb db nb mb : Nat) (sv cv : Value) (blk l f : Int) (w : World) (hblk : 0 ≤ blk ∧ blk ≤ 18446744073709551615) (hh : w.heap[hb]? = some (.cells #[.pointer (some ⟨db, 0, none⟩), sv, cv, .int .u64 blk] 82)) (hd : w.heap[db]? = some (.cells #[.map (some mb), .map (some nb), .slice none 0 0, .int .i64 l, .int .i64 f, .bool false] 88)) (hm : w.heap[mb]? = some (.map #[] 0)) (hn : w.heap[nb]? = some (.map #[] 0)) (hmn : mb ≠ nb) :
    Calls Tryz.prog 20 #[.pointer (some ⟨hb, 0, none⟩), .int .i64 (-1), .int .i64 (-1), .int .i64 0, .int .i64 0] w fun e w' => ∃ sb F, e = .returned (.int .i64 0) ∧ w.heap.size ≤ sb ∧ w'.heap[hb]? = some (.cells #[.pointer (some ⟨db, 0, none⟩), .pointer (some ⟨sb, 0, none⟩), .slice none 0 0, .int .u64 blk] 82) ∧ SrvK db blk 0 w' 0 sb ⟨0, 0, []⟩ F ∧ (∀ b, F b → b = db ∨ b = mb ∨ b = nb ∨ w.heap.size ≤ b) ∧ ¬ F hb ∧ Keep (fun b => b = hb ∨ b = db) w w' := by
  have lh := ltB hh
  have ld := ltB hd
  have hne : hb ≠ db := by
    intro e; subst e
    rw [hh] at hd; simp at hd
  have hnd : nb ≠ db := by
    intro e; subst e
    rw [hd] at hn; simp at hn
  have hmd : mb ≠ db := by
    intro e; subst e
    rw [hd] at hm; simp at hm
  have hmh : mb ≠ hb := by
    intro e; subst e
    rw [hh] at hm; simp at hm
  have hnh : nb ≠ hb := by
    intro e; subst e
    rw [hh] at hn; simp at hn
  obtain ⟨V, hV⟩ : ∃ V, V = ((w.setCell ⟨db, 3, none⟩ (.int .i64 (-1))).setCell ⟨db, 4, none⟩ (.int .i64 (-1))).drew := ⟨_, rfl⟩
  have hhV : V.heap[hb]? = some (.cells #[.pointer (some ⟨db, 0, none⟩), sv, cv, .int .u64 blk] 82) := by rw [hV, heapDrew, heapSetO hne, heapSetO hne]; exact hh
  have hdV : V.heap[db]? = some (.cells #[.map (some mb), .map (some nb), .slice none 0 0, .int .i64 (-1), .int .i64 (-1), .bool false] 88) := by rw [hV, heapDrew]; simpa using heapSet (heapSet hd 3 (.int .i64 (-1))) 4 (.int .i64 (-1))
  have hmV : V.heap[mb]? = some (.map #[] 0) := by rw [hV, heapDrew, heapSetO hmd, heapSetO hmd]; exact hm
  have hnV : V.heap[nb]? = some (.map #[] 0) := by rw [hV, heapDrew, heapSetO hnd, heapSetO hnd]; exact hn
  have hKV : Keep (fun b => b = hb ∨ b = db) w V := hV ▸ (Keep.set (S := fun b => b = hb ∨ b = db) (b := db) (Keep.set (S := fun b => b = hb ∨ b = db) (b := db) (Keep.refl _ w) (Or.inl (Or.inr rfl)) _ _) (Or.inl (Or.inr rfl)) _ _).drew
  have a0 := cellB hh 0
  have a1 := cellB hd
  have a2 := frozenB hd
  have n1 : ¬ hb = db := hne
  have n2 : ¬ db = hb := fun e => hne e.symm
  go_enter Tryz.func20, Tryz.ntmps20
  go_upto_region 1 with fail
  go_cut [] (fun wx => wx = V)
  case first =>
    go_region_held3 (fun w' => w'.cell? ⟨hb, 0, none⟩ = some (.pointer (some ⟨db, 0, none⟩))) (go_keep) (fail)
    all_goals (go_wp2_with fail; go_meet)
    all_goals exact hV.symm
  case rest =>
    subst hcut
    clear hV a0 a1 a2
    have hdD := (heapDrew _ db).trans hdV
    have hmD := (heapDrew _ mb).trans hmV
    have hnD := (heapDrew _ nb).trans hnV
    have b0 := cellB hhV 0
    have b3 := cellB hhV 3
    go_upto_region 2 with fail
    go_region_held3 (fun w' => w'.cell? ⟨hb, 0, none⟩ = some (.pointer (some ⟨db, 0, none⟩)) ∧ w'.cell? ⟨hb, 3, none⟩ = some (.int .u64 blk)) (first | go_keep | (exact ⟨cellB hh2 0, cellB hh2 3⟩))
      (first | (go_at_call 34; refine (open34 db mb nb blk _ hblk hdD (DirAt.empty hmD) (DirAt.empty hnD) hmn).mono ?_; rintro e w2 ⟨sb, F, rfl, hsb, hS2, hF2, hb2⟩; have hh2 := (hb2.block hb (ltB hhV)).trans hhV))
    have hsz2 := hb2.size
    have hszV := hKV.size
    have hd2 := (hb2.block db (ltB hdV)).trans hdV
    go_wp2_with fail
    refine (told_nil _).mono ?_
    rintro e w3 ⟨rfl, hb3⟩
    have hh3 := (hb3.block hb (ltB hh2)).trans hh2
    have hd3 := (hb3.block db (ltB hd2)).trans hd2
    have hS3 := hS2.below hb3 (Nat.le_refl _)
    have c1 := cellB hh3
    have c2 := frozenB hh3
    clear b0 b3
    go_wp2_with fail
    obtain ⟨U, hU⟩ : ∃ U, U = (w3.setCell ⟨hb, 1, none⟩ (.pointer (some ⟨sb, 0, none⟩))).setCell ⟨hb, 2, none⟩ (.slice none 0 0) := ⟨_, rfl⟩
    rw [← hU]
    have hhU : U.heap[hb]? = some (.cells #[.pointer (some ⟨db, 0, none⟩), .pointer (some ⟨sb, 0, none⟩), .slice none 0 0, .int .u64 blk] 82) := by rw [hU]; simpa using heapSet (heapSet hh3 1 (.pointer (some ⟨sb, 0, none⟩))) 2 (.slice none 0 0)
    have hdU : U.heap[db]? = some (.cells #[.map (some mb), .map (some nb), .slice none 0 0, .int .i64 (-1), .int .i64 (-1), .bool false] 88) := by rw [hU, heapSetO n2, heapSetO n2]; exact hd3
    have hFw : ∀ b, F b → b = db ∨ b = mb ∨ b = nb ∨ w.heap.size ≤ b := fun b h => (hF2 b h).imp id (fun h => h.imp id (fun h => h.imp id (fun h => Nat.le_trans hszV h)))
    have hFh : ∀ b, F b → b ≠ hb := fun b h e => by
      rcases hFw b h with h | h | h | h
      · exact n1 (e.symm.trans h)
      · exact hmh (h.symm.trans e)
      · exact hnh (h.symm.trans e)
      · omega
    have hSU : SrvK db blk 4000000 U 0 sb ⟨0, 0, []⟩ F := hS3.kept (by rw [hU]; simp) (fun b hb' => by rw [hU, heapSetO (hFh b hb'), heapSetO (hFh b hb')])
    have hKU : Keep (fun b => b = hb ∨ b = db) w U := by
      have k1 := (hKV.drew.trans (Keep.of_below hb2)).trans (Keep.of_below hb3)
      rw [hU]
      exact Keep.set (S := fun b => b = hb ∨ b = db) (b := hb) (Keep.set (S := fun b => b = hb ∨ b = db) (b := hb) k1 (Or.inl (Or.inl rfl)) _ _) (Or.inl (Or.inl rfl)) _ _
    clear hU c1 c2
    refine (after28 hb db (some mb) (some nb) _ _ _ _ (-1) (-1) 0 0 U hhU hdU).mono ?_
    rintro e w4 ⟨rfl, g1, g2⟩
    go_wp2
    go_ret
    refine ⟨sb, F, rfl, Nat.le_trans hszV hsb, (g2.block hb (ltB hhU) hne).trans hhU, (hSU.refill hdU g1 g2.size (fun b hF hne' => g2.block b (hSU.lt b hF) hne')).less (by omega), hFw, fun h => hFh hb h rfl, hKU.then g2 (fun i _ h => Or.inr h)⟩
end Go.Proofs.YtnlgndpcddngoaaGreatDoor

namespace Go.Proofs.YtnlgndpcddngoaaGreatDoor
open Go.RowKit
variable [dK] [iK]

/-- The blocks of a host. -/
def HG (hb db : Nat) (F : Nat → Prop) (cv : Value) (m : Nat) (cb : Nat → Nat) (b : Nat) : Prop := b = hb ∨ b = db ∨ F b ∨ cv.ownBlock = some b ∨ ∃ i, i < m ∧ b = cb i
/-- A host in memory: its disk, its ledger, its connections. -/
structure HostAt (w : World) (hb db _nb sb : Nat) (_mb : Option Nat) (blk : Int) (L : Ld) (F : Nat → Prop) (B : Nat) (cv : Value) (m : Nat) (cb : Nat → Nat) (c : Nat → Cn) : Prop where
  hh : w.heap[hb]? = some (.cells #[.pointer (some ⟨db, 0, none⟩), .pointer (some ⟨sb, 0, none⟩), cv, .int .u64 blk] 82)
  hd : F db
  hs : SrvK db blk 0 w 0 sb L F
  hc : ∀ i, i < m → ConnAt w sb (cb i) (c i) F
  hi : ∀ i j, i < m → j < m → cb i = cb j → i = j
  ho : w.ownsRow B 83 1 cv m (ptrs cb m)
  hF : ∀ g, (g = hb ∨ False ∨ cv.ownBlock = some g) → ¬ F g
  lo : ∀ b, HG hb db F cv m cb b → B ≤ b
  fr : ∀ i, m ≤ i → c i = ⟨[], false⟩

theorem Tryz.info76 : (Tryz.prog.info? 83).map (fun i => (i.zero, i.size, i.bytes)) = some (some (.pointer none), 1, 8) := by kernel_rfl

theorem connect25' (sb : Nat) (w : World) : Calls Tryz.prog 29 #[.pointer (some ⟨sb, 0, none⟩)] w fun e w' => e = .returned (.pointer (some ⟨w.heap.size, 0, none⟩)) ∧ w'.heap[w.heap.size]? = some (.cells #[.pointer (some ⟨sb, 0, none⟩), .slice none 0 0, .bool false] 112) ∧ w'.heap.size = w.heap.size + 1 ∧ Below w.heap.size w w' := by
  refine (connect25 sb w).mono ?_
  rintro e w' ⟨rfl, rfl⟩
  exact ⟨rfl, heapNew _ _, by simp, (Below.refl _ w).alloc (Nat.le_refl _) _⟩

/-- Connect in a region that draws. -/
theorem step_connect {ops : Array Oper} {o : Oper} {a : Act} {w : World} {K : Act → World → Prop} {Q : Exit → Act → World → Prop} {E : Prop} (hg : o.guard = none) (x : Operand)
    (hop : o.op = .call { callee := .value (.func 29), args := #[x], argTypes := #[79] }) (sb : Nat) (hx : a.eval x = .pointer (some ⟨sb, 0, none⟩))
    (hK : ∀ w', w'.heap[w.heap.size]? = some (.cells #[.pointer (some ⟨sb, 0, none⟩), .slice none 0 0, .bool false] 112) → w'.heap.size = w.heap.size + 1 → Below w.heap.size w w' → K (a.put o.dst (.pointer (some ⟨w.heap.size, 0, none⟩))) w') :
    if Region.wanted o (yielded ops a.tmps) = true then Oper.wp Tryz.prog o a w K Q else E := by
  have hw : Region.wanted o (yielded ops a.tmps) = true := by simp [Region.wanted, hg]
  rw [if_pos hw]
  have hr : (execOp a.eval o).run Tryz.prog w = .ok (.enter 29 #[.pointer (some ⟨sb, 0, none⟩)]) w := by
    simp [execOp, hop, resolve, invoke, go_sem]
    rw [← hx]
    cases x <;> simp [Act.eval]
  unfold Oper.wp
  rw [hr, Oper.upon_enter]
  refine (connect25' sb w).mono ?_
  rintro e w' ⟨rfl, h1, h2, h3⟩
  exact hK w' h1 h2 h3

/-- One connection more. -/
theorem HostAt.more {wr w2 w4 : World} {hb db nb sb : Nat} {mb : Option Nat} {blk : Int} {L : Ld} {F : Nat → Prop} {B : Nat} {cv v5 : Value} {m : Nat} {cb : Nat → Nat} {c : Nat → Cn} {N : Nat} {ob : Obj} (H : HostAt wr hb db nb sb mb blk L F B cv m cb c) (hq : ∀ i, c i = ⟨[], false⟩) (hN : N = wr.heap.size) (hBN : B ≤ N)
    (h2 : w2.heap[N]? = some (.cells #[.pointer (some ⟨sb, 0, none⟩), .slice none 0 0, .bool false] 112)) (hs2 : w2.heap.size = N + 1) (hb2 : Below N wr w2)
    (ho4 : w4.ownsRow B 83 1 v5 (m + 1) (ptrs cb m ++ [.pointer (some ⟨N, 0, none⟩)])) (hg4 : (w2.alloc ob).grownBy w4 cv.ownBlock) (hl4 : v5.ownBlock = cv.ownBlock ∨ v5.ownBlock = some (w2.alloc ob).heap.size) :
    HostAt (w4.setCell ⟨hb, 2, none⟩ v5) hb db nb sb mb blk L F B v5 (m + 1) (fun i => if i = m then N else cb i) c ∧ Keep (HG hb db F cv m cb) wr (w4.setCell ⟨hb, 2, none⟩ v5) ∧ ∀ b, HG hb db F v5 (m + 1) (fun i => if i = m then N else cb i) b → HG hb db F cv m cb b ∨ N ≤ b := by
  have lh : hb < N := hN ▸ ltB H.hh
  have ld : db < N := hN ▸ H.hs.lt db H.hd
  have nhd : db ≠ hb := fun e => H.hF hb (Or.inl rfl) (e ▸ H.hd)
  have nh : cv.ownBlock ≠ some hb := fun e => own_neE H.ho e H.hh (by decide) rfl
  have nd : cv.ownBlock ≠ some db := fun e => H.hF db (Or.inr (Or.inr e)) H.hd
  have nN : cv.ownBlock ≠ some N := fun e => by have := (own_ltE H.ho e).2; omega
  have hA : (w2.alloc ob).heap.size = N + 2 := by rw [World.size_alloc, hs2]
  have X4 : ∀ k, k < N → cv.ownBlock ≠ some k → w4.heap[k]? = wr.heap[k]? := fun k hk hne =>
    ((hg4.block k (by omega) (fun e => hne e.symm)).trans (heapOld w2 ob (by omega))).trans (hb2.block k hk)
  have X : ∀ k, k < N → k ≠ hb → cv.ownBlock ≠ some k → (w4.setCell ⟨hb, 2, none⟩ v5).heap[k]? = wr.heap[k]? := fun k hk h1 hne => (heapSetO h1 _ _).trans (X4 k hk hne)
  have hh4 := (X4 hb lh nh).trans H.hh
  have hsz4 : N + 2 ≤ w4.heap.size := hA ▸ hg4.size
  have hcn : ∀ i, i < m → cb i < N ∧ cb i ≠ hb ∧ cv.ownBlock ≠ some (cb i) := fun i hi => by
    obtain ⟨cw, g1, _⟩ := (H.hc i hi).mem
    refine ⟨hN ▸ ltB g1, fun e => ?_, fun e => own_neE H.ho e g1 (by decide) rfl⟩
    rw [e, H.hh] at g1
    simp at g1
  have hFN : ∀ b, F b → b < N := fun b h => hN ▸ H.hs.lt b h
  have hsz : wr.heap.size ≤ (w4.setCell ⟨hb, 2, none⟩ v5).heap.size := by rw [World.size_setCell]; omega
  refine ⟨⟨by simpa using heapSet hh4 2 v5, H.hd, H.hs.kept hsz (fun b hF => X b (hFN b hF) (fun e => H.hF hb (Or.inl rfl) (e ▸ hF)) (fun e => H.hF b (Or.inr (Or.inr e)) hF)), fun i hi => ?_, fun i j hi hj e => ?_, ?_, fun g hg hFg => ?_, fun b hb' => ?_, fun i hi => H.fr i (by omega)⟩, ⟨hg4.os.trans hb2.os, hg4.tape.trans hb2.tape, hg4.output.trans hb2.output, hsz, fun k hk hG => X k (by omega) (fun e => hG (Or.inl e)) (fun e => hG (Or.inr (Or.inr (Or.inr (Or.inl e)))))⟩, fun b hb' => ?_⟩
  · by_cases him : i = m
    · subst him
      rw [if_pos rfl]
      refine ⟨⟨.slice none 0 0, ?_, Or.inl ⟨by rw [hq i], Or.inl rfl⟩, fun g o n d h => by simp at h⟩, fun h => by have := hFN _ h; omega⟩
      rw [heapSetO (by omega), hg4.block N (by omega) (fun e => nN e.symm), heapOld w2 ob (by omega), h2, hq i]
    · rw [if_neg him]
      obtain ⟨c1, c2, c3⟩ := hcn i (by omega)
      obtain ⟨⟨cw, g1, g2, g3⟩, g4⟩ := H.hc i (by omega)
      refine ⟨⟨cw, (X _ c1 c2 c3).trans g1, ?_, fun g o n d h => ⟨(g3 g o n d h).1, (g3 g o n d h).2.1, Nat.lt_of_lt_of_le (g3 g o n d h).2.2 hsz⟩⟩, g4⟩
      rw [hq i] at g2 ⊢
      rcases g2 with g2 | ⟨g2, _⟩
      · exact Or.inl g2
      · simp at g2
  · by_cases h1 : i = m
    · by_cases h2 : j = m
      · omega
      · rw [if_pos h1, if_neg h2] at e
        have := (hcn j (by omega)).1
        omega
    · by_cases h2 : j = m
      · rw [if_neg h1, if_pos h2] at e
        have := (hcn i (by omega)).1
        omega
      · rw [if_neg h1, if_neg h2] at e
        exact H.hi i j (by omega) (by omega) e
  · have e : ptrs (fun i => if i = m then N else cb i) (m + 1) = ptrs cb m ++ [.pointer (some ⟨N, 0, none⟩)] := by
      unfold ptrs
      rw [List.range_succ, List.map_append]
      congr 1
      · apply List.map_congr_left
        intro i hi
        have := List.mem_range.1 hi
        show Value.pointer (some ⟨if i = m then N else cb i, 0, none⟩) = _
        rw [if_neg (by omega)]
      · simp
    rw [e]
    exact own_keptE ho4 (fun g hg => heapSetO (own_neE ho4 hg hh4 (by decide)) _ _)
  · rcases hg with h | h | h
    · exact H.hF g (Or.inl h) hFg
    · exact H.hF g (Or.inr (Or.inl h)) hFg
    · rcases hl4 with h4 | h4
      · exact H.hF g (Or.inr (Or.inr (h4 ▸ h))) hFg
      · rw [h4, hA] at h
        injection h with h
        have := hFN g hFg
        omega
  · rcases hb' with h | h | h | h | ⟨i, hi, h⟩
    · exact H.lo b (Or.inl h)
    · exact H.lo b (Or.inr (Or.inl h))
    · exact H.lo b (Or.inr (Or.inr (Or.inl h)))
    · exact (own_ltE ho4 h).1
    · dsimp only at h
      split at h
      · omega
      · exact H.lo b (Or.inr (Or.inr (Or.inr (Or.inr ⟨i, by omega, h⟩))))
  · rcases hb' with h | h | h | h | ⟨i, hi, h⟩
    · exact Or.inl (Or.inl h)
    · exact Or.inl (Or.inr (Or.inl h))
    · exact Or.inl (Or.inr (Or.inr (Or.inl h)))
    · rcases hl4 with h4 | h4
      · exact Or.inl (Or.inr (Or.inr (Or.inr (Or.inl (h4 ▸ h)))))
      · rw [h4, hA] at h
        injection h with h
        exact Or.inr (by omega)
    · dsimp only at h
      split at h
      · exact Or.inr (by omega)
      · exact Or.inl (Or.inr (Or.inr (Or.inr (Or.inr ⟨i, by omega, h⟩))))

theorem HostAt.kept {w w' : World} {hb db nb sb : Nat} {mb : Option Nat} {blk : Int} {L : Ld} {F : Nat → Prop} {B : Nat} {cv : Value} {m : Nat} {cb : Nat → Nat} {c : Nat → Cn} (H : HostAt w hb db nb sb mb blk L F B cv m cb c) (hs : w.heap.size ≤ w'.heap.size) (hk : ∀ k, k < w.heap.size → w'.heap[k]? = w.heap[k]?) : HostAt w' hb db nb sb mb blk L F B cv m cb c := by
  refine ⟨(hk hb (ltB H.hh)).trans H.hh, H.hd, H.hs.kept hs (fun b hF => hk b (H.hs.lt b hF)), fun i hi => ?_, H.hi, own_keptE H.ho (fun g hg => hk g (own_ltE H.ho hg).2), H.hF, H.lo, H.fr⟩
  obtain ⟨⟨cw, g1, g2, g3⟩, g4⟩ := H.hc i hi
  exact ⟨⟨cw, (hk _ (ltB g1)).trans g1, g2.kept hs (fun g o n d _ hg => hk g hg), fun g o n d h => ⟨(g3 g o n d h).1, (g3 g o n d h).2.1, Nat.lt_of_lt_of_le (g3 g o n d h).2.2 hs⟩⟩, g4⟩
/-- A host whose connections wait for nothing, its own blocks kept. -/
theorem HostAt.quiet {w w' : World} {hb db nb sb : Nat} {mb : Option Nat} {blk : Int} {L : Ld} {F : Nat → Prop} {B : Nat} {cv : Value} {m : Nat} {cb : Nat → Nat} {c : Nat → Cn} (H : HostAt w hb db nb sb mb blk L F B cv m cb c) (hq : ∀ i, (c i).waits = []) (hs : w.heap.size ≤ w'.heap.size) (hk : ∀ k, HG hb db F cv m cb k → w'.heap[k]? = w.heap[k]?) : HostAt w' hb db nb sb mb blk L F B cv m cb c := by
  refine ⟨(hk hb (Or.inl rfl)).trans H.hh, H.hd, H.hs.kept hs (fun b hF => hk b (Or.inr (Or.inr (Or.inl hF)))), fun i hi => ?_, H.hi, own_keptE H.ho (fun g hg => hk g (Or.inr (Or.inr (Or.inr (Or.inl hg))))), H.hF, H.lo, H.fr⟩
  obtain ⟨⟨cw, g1, g2, g3⟩, g4⟩ := H.hc i hi
  refine ⟨⟨cw, (hk _ (Or.inr (Or.inr (Or.inr (Or.inr ⟨i, hi, rfl⟩))))).trans g1, ?_, fun g o n d h => ⟨(g3 g o n d h).1, (g3 g o n d h).2.1, Nat.lt_of_lt_of_le (g3 g o n d h).2.2 hs⟩⟩, g4⟩
  rw [hq i] at g2 ⊢
  rcases g2 with g2 | ⟨g2, _⟩
  · exact Or.inl g2
  · simp at g2
theorem HostAt.lt {w : World} {hb db nb sb : Nat} {mb : Option Nat} {blk : Int} {L : Ld} {F : Nat → Prop} {B : Nat} {cv : Value} {m : Nat} {cb : Nat → Nat} {c : Nat → Cn} (H : HostAt w hb db nb sb mb blk L F B cv m cb c) (b : Nat) (h : HG hb db F cv m cb b) : b < w.heap.size := by
  rcases h with rfl | rfl | h | h | ⟨i, hi, rfl⟩
  · exact ltB H.hh
  · exact H.hs.lt _ H.hd
  · exact H.hs.lt b h
  · exact (own_ltE H.ho h).2
  · exact ltB (H.hc i hi).mem.choose_spec.1

/-- No connection's waiting bytes lie in this block. -/
def WaitN (w : World) (sb m : Nat) (cb : Nat → Nat) (c : Nat → Cn) (g : Nat) : Prop := ∀ j, j < m → ∀ cw, w.heap[cb j]? = some (.cells #[.pointer (some ⟨sb, 0, none⟩), cw, .bool (c j).bad] 112) → cw.ownBlock ≠ some g
/-- What a feeding leaves of a host. -/
theorem HostAt.fed {w w' : World} {hb db nb sb : Nat} {mb : Option Nat} {blk : Int} {L : Ld} {F : Nat → Prop} {B : Nat} {cv rv : Value} {cb : Nat → Nat} {c : Nat → Cn} {now : Int} {bs : List Int} (H : HostAt w hb db nb sb mb blk L F B cv 3 cb c) (hB : B ≤ w.heap.size) (i : Nat) (hi : i < 3) (P : FeedPost db blk 0 sb (cb i) F L (c i) now bs w rv w') :
    ∃ F', HostAt w' hb db nb sb mb blk (feedM L (c i) now bs).1 F' B cv 3 cb (fun j => if j = i then (feedM L (c i) now bs).2.1 else c j) ∧ Keep (HG hb db F cv 3 cb) w w' ∧ (∀ b, HG hb db F' cv 3 cb b → HG hb db F cv 3 cb b ∨ w.heap.size ≤ b) ∧ w'.ownsRow w.heap.size 5 1 rv (encs (feedM L (c i) now bs).2.2).length ((encs (feedM L (c i) now bs).2.2).map (Value.int .u8)) ∧ (∀ g, g < w.heap.size → WaitN w sb 3 cb c g → WaitN w' sb 3 cb (fun j => if j = i then (feedM L (c i) now bs).2.1 else c j) g) := by
  obtain ⟨F', s1, s2, s3, s4, s5, s6⟩ := P
  obtain ⟨ci, q1, q2, q3⟩ := (H.hc i hi).mem
  obtain ⟨xi, di, ei⟩ := q2.shape
  have hs := s4.size
  have X : ∀ k, k < w.heap.size → ¬ F k → k ≠ cb i → w'.heap[k]? = w.heap[k]? := fun k hk h1 h2 => s4.block k hk (fun h => h.elim h1 h2)
  have nh : hb ≠ cb i := by
    intro e
    rw [← e, H.hh] at q1
    simp at q1
  have hF' : ∀ k, k < w.heap.size → ¬ F k → ¬ F' k := fun k hk h1 h => (s3 k h).elim h1 (fun h => by omega)
  refine ⟨F', ⟨(X hb (ltB H.hh) (H.hF hb (Or.inl rfl)) nh).trans H.hh, s1.dskF, s1, fun j hj => ?_, H.hi, ?_, fun g hg => ?_, fun b hb' => ?_, fun j hj => ?_⟩, s4.mono (fun k h _ => ?_), fun b h => ?_, s5, fun g hg hw j hj cw' hcw' => ?_⟩
  · by_cases e : j = i
    · rw [if_pos e, e]
      exact s2
    · rw [if_neg e]
      obtain ⟨⟨cw, g1, g2, g3⟩, g4⟩ := H.hc j hj
      have hne : cb j ≠ cb i := fun h => e (H.hi j i hj hi h)
      refine ⟨⟨cw, (X _ (ltB g1) g4 hne).trans g1, ?_, fun g o n d h => ⟨hF' g (g3 g o n d h).2.2 (g3 g o n d h).1, (g3 g o n d h).2.1, Nat.lt_of_lt_of_le (g3 g o n d h).2.2 hs⟩⟩, hF' _ (ltB g1) g4⟩
      rcases g2 with g2 | ⟨h1, sg, so, cap, hv, h2, h3⟩
      · exact Or.inl g2
      · refine Or.inr ⟨h1, sg, so, cap, hv, Nat.lt_of_lt_of_le h2 hs, fun z u hz => ?_⟩
        have hgi : sg ≠ cb i := by
          intro e'
          have hl : 0 < (c j).waits.length := h1
          have h0 := h3 0 (.int .u8 ((c j).waits[0])) (by simp [hl])
          rw [e', cellB q1, ei] at h0
          rw [Nat.add_zero] at h0
          match so, h0 with
          | 0, h0 => simp at h0
          | 1, h0 => simp at h0
          | 2, h0 => simp at h0
          | n + 3, h0 => simp at h0
        exact (World.cell?_of_block (w := w) (X sg h2 (g3 sg so _ _ hv).1 hgi)).trans (h3 z u hz)
  · exact own_keptE H.ho (fun g hg => X g (own_ltE H.ho hg).2 (H.hF g (Or.inr (Or.inr hg))) (own_neE H.ho hg q1 (by decide)))
  · refine hF' g ?_ (H.hF g hg)
    rcases hg with rfl | h | h
    · exact ltB H.hh
    · exact h.elim
    · exact (own_ltE H.ho h).2
  · rcases hb' with h | h | h | h | h
    · exact H.lo b (Or.inl h)
    · exact H.lo b (Or.inr (Or.inl h))
    · rcases s3 b h with h | h
      · exact H.lo b (Or.inr (Or.inr (Or.inl h)))
      · omega
    · exact H.lo b (Or.inr (Or.inr (Or.inr (Or.inl h))))
    · exact H.lo b (Or.inr (Or.inr (Or.inr (Or.inr h))))
  · rw [if_neg (by omega)]
    exact H.fr j hj
  · rcases h with h | h
    · exact Or.inr (Or.inr (Or.inl h))
    · exact Or.inr (Or.inr (Or.inr (Or.inr ⟨i, hi, h⟩)))
  · rcases h with h | h | h | h | h
    · exact Or.inl (Or.inl h)
    · exact Or.inl (Or.inr (Or.inl h))
    · rcases s3 b h with h | h
      · exact Or.inl (Or.inr (Or.inr (Or.inl h)))
      · exact Or.inr h
    · exact Or.inl (Or.inr (Or.inr (Or.inr (Or.inl h))))
    · exact Or.inl (Or.inr (Or.inr (Or.inr (Or.inr h))))
  · dsimp only at hcw'
    by_cases e : j = i
    · rw [if_pos e, e] at hcw'
      exact s6 g hg (hw i hi) cw' hcw'
    · rw [if_neg e] at hcw'
      have hm := (H.hc j hj)
      refine hw j hj cw' ((X _ (ltB hm.mem.choose_spec.1) hm.nF (fun h => e (H.hi j i hj hi h))).symm.trans hcw')
/-- Bytes that no connection keeps are written into. -/
theorem HostAt.keptE {w w' : World} {hb db nb sb : Nat} {mb : Option Nat} {blk : Int} {L : Ld} {F : Nat → Prop} {B : Nat} {cv : Value} {m : Nat} {cb : Nat → Nat} {c : Nat → Cn} (H : HostAt w hb db nb sb mb blk L F B cv m cb c) (wb : Nat) (hn : ¬ HG hb db F cv m cb wb) (hw : WaitN w sb m cb c wb) (hs : w.heap.size ≤ w'.heap.size) (hk : ∀ k, k < w.heap.size → k ≠ wb → w'.heap[k]? = w.heap[k]?) : HostAt w' hb db nb sb mb blk L F B cv m cb c := by
  have hne : ∀ k, HG hb db F cv m cb k → k ≠ wb := fun k h e => hn (e ▸ h)
  refine ⟨(hk hb (ltB H.hh) (hne hb (Or.inl rfl))).trans H.hh, H.hd, H.hs.kept hs (fun b hF => hk b (H.hs.lt b hF) (hne b (Or.inr (Or.inr (Or.inl hF))))), fun i hi => ?_, H.hi, own_keptE H.ho (fun g hg => hk g (own_ltE H.ho hg).2 (hne g (Or.inr (Or.inr (Or.inr (Or.inl hg)))))), H.hF, H.lo, H.fr⟩
  obtain ⟨⟨cw, g1, g2, g3⟩, g4⟩ := H.hc i hi
  exact ⟨⟨cw, (hk _ (ltB g1) (hne _ (Or.inr (Or.inr (Or.inr (Or.inr ⟨i, hi, rfl⟩)))))).trans g1, g2.kept hs (fun g o n d e hg => hk g hg (fun e' => hw i hi cw g1 (by rw [e, e']; rfl))), fun g o n d h => ⟨(g3 g o n d h).1, (g3 g o n d h).2.1, Nat.lt_of_lt_of_le (g3 g o n d h).2.2 hs⟩⟩, g4⟩
/-- A host whose disk is told anew that it never goes down. -/
theorem HostAt.refill {w w' : World} {hb db nb sb : Nat} {mb : Option Nat} {blk : Int} {L : Ld} {F : Nat → Prop} {B : Nat} {cv : Value} {m : Nat} {cb : Nat → Nat} {c : Nat → Cn} (H : HostAt w hb db nb sb mb blk L F B cv m cb c) {ma na : Nat} {l f : Int} (hd : w.heap[db]? = some (.cells #[.map (some ma), .map (some na), .slice none 0 0, .int .i64 l, .int .i64 f, .bool false] 88))
    (hd' : w'.heap[db]? = some (.cells #[.map (some ma), .map (some na), .slice none 0 0, .int .i64 (-1), .int .i64 (-1), .bool false] 88)) (hs : w.heap.size ≤ w'.heap.size) (hk : ∀ k, k < w.heap.size → k ≠ db → w'.heap[k]? = w.heap[k]?) : HostAt w' hb db nb sb mb blk L F B cv m cb c ∧ SrvK db blk 4000000 w' 0 sb L F := by
  have hS := H.hs.refill hd hd' hs (fun b hF hne => hk b (H.hs.lt b hF) hne)
  refine ⟨⟨(hk hb (ltB H.hh) (fun e => H.hF hb (Or.inl rfl) (e ▸ H.hd))).trans H.hh, H.hd, hS.less (by omega), fun i hi => ?_, H.hi, own_keptE H.ho (fun g hg => hk g (own_ltE H.ho hg).2 (fun e => H.hF g (Or.inr (Or.inr hg)) (e ▸ H.hd))), H.hF, H.lo, H.fr⟩, hS⟩
  obtain ⟨⟨cw, g1, g2, g3⟩, g4⟩ := H.hc i hi
  exact ⟨⟨cw, (hk _ (ltB g1) (fun e => g4 (e ▸ H.hd))).trans g1, g2.kept hs (fun g o n d e hg => hk g hg (fun e' => (g3 g o n d e).1 (e' ▸ H.hd))), fun g o n d h => ⟨(g3 g o n d h).1, (g3 g o n d h).2.1, Nat.lt_of_lt_of_le (g3 g o n d h).2.2 hs⟩⟩, g4⟩
end Go.Proofs.YtnlgndpcddngoaaGreatDoor

namespace Go.Proofs.YtnlgndpcddngoaaGreatDoor
open Go.RowKit Go.Maps
variable [dK] [iK]

/-- Open over what a ledger left, whatever that is. -/
theorem open_any (db mb nb : Nat) (blk : Int) (c0 : Led) (w : World) (hc : c0.ok) (hblk : c0.blk = blk) (hd : w.heap[db]? = some (.cells #[.map (some mb), .map (some nb), .slice none 0 0, .int .i64 (-1), .int .i64 (-1), .bool false] 88)) (hM : DirAt w mb c0.fsD) (hN : DirAt w nb c0.fsD) (hmn : mb ≠ nb) :
    Calls Tryz.prog 34 #[.iface 78 (.pointer (some ⟨db, 0, none⟩)), .int .u64 blk] w fun e w' => ∃ sb L' F, e = .returned (.tuple #[.pointer (some ⟨sb, 0, none⟩), .nilIface]) ∧ w.heap.size ≤ sb ∧ SrvK db blk 3999999 w' 0 sb L' F ∧ Rec blk c0.ld L' ∧ (∀ b, F b → b = db ∨ b = mb ∨ b = nb ∨ (∃ p ∈ c0.fsD, b = p.2.1) ∨ w.heap.size ≤ b) ∧ Keep (fun c => c = db) w w' := by
  by_cases hne : c0.fsD ≠ [] ∨ c0.es ≠ []
  · exact open34f db mb nb blk c0 w hc hblk hne hd hM hN hmn
  · have e1 : c0.fsD = [] := Decidable.byContradiction fun h => hne (Or.inl h)
    have e2 : c0.es = [] := by
      cases h : c0.es with
      | nil => rfl
      | cons x r => exact absurd (Or.inr (by rw [h]; simp)) hne
    rw [e1] at hM hN ⊢
    refine (open34 db mb nb blk w (hblk ▸ hc.blk) hd hM hN hmn).mono ?_
    rintro e w' ⟨sb, F, rfl, h1, h2, h3, h4⟩
    refine ⟨sb, ⟨0, 0, []⟩, F, rfl, h1, h2.less (by omega), ⟨hc.time.1, rfl, fun _ _ => rfl, fun k z hz => ?_⟩, fun b hb => ?_, Keep.of_below h4⟩
    · have : c0.ld.ks = [] := by show stands c0.es = []; rw [e2]; rfl
      rw [this] at hz
      simp [fnd] at hz
    · rcases h3 b hb with h | h | h | h
      · exact Or.inl h
      · exact Or.inr (Or.inl h)
      · exact Or.inr (Or.inr (Or.inl h))
      · exact Or.inr (Or.inr (Or.inr (Or.inr h)))

set_option maxRecDepth 100000 in
set_option maxHeartbeats 2000000 in
theorem hostopen16f (hb db nb mb : Nat) (sv cv : Value) (blk l f : Int) (c0 : Led) (w : World) (hc : c0.ok) (hblk : c0.blk = blk) (hh : w.heap[hb]? = some (.cells #[.pointer (some ⟨db, 0, none⟩), sv, cv, .int .u64 blk] 82)) (hd : w.heap[db]? = some (.cells #[.map (some mb), .map (some nb), .slice none 0 0, .int .i64 l, .int .i64 f, .bool false] 88)) (hm : DirAt w mb c0.fsD) (hn : DirAt w nb c0.fsD) (hmn : mb ≠ nb) :
    Calls Tryz.prog 20 #[.pointer (some ⟨hb, 0, none⟩), .int .i64 (-1), .int .i64 (-1), .int .i64 0, .int .i64 0] w fun e w' => ∃ sb L' F, e = .returned (.int .i64 0) ∧ w.heap.size ≤ sb ∧ w'.heap[hb]? = some (.cells #[.pointer (some ⟨db, 0, none⟩), .pointer (some ⟨sb, 0, none⟩), .slice none 0 0, .int .u64 blk] 82) ∧ SrvK db blk 0 w' 0 sb L' F ∧ Rec blk c0.ld L' ∧ (∀ b, F b → b = db ∨ b = mb ∨ b = nb ∨ (∃ p ∈ c0.fsD, b = p.2.1) ∨ w.heap.size ≤ b) ∧ ¬ F hb ∧ Keep (fun b => b = hb ∨ b = db) w w' := by
  have lh := ltB hh
  have ld := ltB hd
  have hne : hb ≠ db := by
    intro e; subst e
    rw [hh] at hd; simp at hd
  have hnd : nb ≠ db := hn.map.ne hd
  have hmd : mb ≠ db := hm.map.ne hd
  have hmh : mb ≠ hb := hm.map.ne hh
  have hnh : nb ≠ hb := hn.map.ne hh
  have hph : ∀ p ∈ c0.fsD, p.2.1 ≠ hb ∧ p.2.1 ≠ db := fun p hp => ⟨fun e => by have := hm.str p hp; rw [e, hh] at this; simp at this, fun e => by have := hm.str p hp; rw [e, hd] at this; simp at this⟩
  obtain ⟨V, hV⟩ : ∃ V, V = ((w.setCell ⟨db, 3, none⟩ (.int .i64 (-1))).setCell ⟨db, 4, none⟩ (.int .i64 (-1))).drew := ⟨_, rfl⟩
  have hhV : V.heap[hb]? = some (.cells #[.pointer (some ⟨db, 0, none⟩), sv, cv, .int .u64 blk] 82) := by rw [hV, heapDrew, heapSetO hne, heapSetO hne]; exact hh
  have hdV : V.heap[db]? = some (.cells #[.map (some mb), .map (some nb), .slice none 0 0, .int .i64 (-1), .int .i64 (-1), .bool false] 88) := by rw [hV, heapDrew]; simpa using heapSet (heapSet hd 3 (.int .i64 (-1))) 4 (.int .i64 (-1))
  have oV : ∀ x, x ≠ db → V.heap[x]? = w.heap[x]? := fun x hx => by rw [hV, heapDrew, heapSetO hx, heapSetO hx]
  have hmV : DirAt V mb c0.fsD := hm.kept (oV mb hmd) (fun p hp => oV _ (hph p hp).2)
  have hnV : DirAt V nb c0.fsD := hn.kept (oV nb hnd) (fun p hp => oV _ (hph p hp).2)
  have hKV : Keep (fun b => b = hb ∨ b = db) w V := hV ▸ (Keep.set (S := fun b => b = hb ∨ b = db) (b := db) (Keep.set (S := fun b => b = hb ∨ b = db) (b := db) (Keep.refl _ w) (Or.inl (Or.inr rfl)) _ _) (Or.inl (Or.inr rfl)) _ _).drew
  have a0 := cellB hh 0
  have a1 := cellB hd
  have a2 := frozenB hd
  have n1 : ¬ hb = db := hne
  have n2 : ¬ db = hb := fun e => hne e.symm
  go_enter Tryz.func20, Tryz.ntmps20
  go_upto_region 1 with fail
  go_cut [] (fun wx => wx = V)
  case first =>
    go_region_held3 (fun w' => w'.cell? ⟨hb, 0, none⟩ = some (.pointer (some ⟨db, 0, none⟩))) (go_keep) (fail)
    all_goals (go_wp2_with fail; go_meet)
    all_goals exact hV.symm
  case rest =>
    subst hcut
    clear hV a0 a1 a2
    have hdD := (heapDrew _ db).trans hdV
    have hmD : DirAt wc.drew mb c0.fsD := hmV.kept rfl (fun _ _ => rfl)
    have hnD : DirAt wc.drew nb c0.fsD := hnV.kept rfl (fun _ _ => rfl)
    have b0 := cellB hhV 0
    have b3 := cellB hhV 3
    go_upto_region 2 with fail
    go_region_held3 (fun w' => w'.cell? ⟨hb, 0, none⟩ = some (.pointer (some ⟨db, 0, none⟩)) ∧ w'.cell? ⟨hb, 3, none⟩ = some (.int .u64 blk)) (first | go_keep | (exact ⟨cellB hh2 0, cellB hh2 3⟩))
      (first | (go_at_call 34; refine (open_any db mb nb blk c0 _ hc hblk hdD hmD hnD hmn).mono ?_; rintro e w2 ⟨sb, L', F, rfl, hsb, hS2, hRec, hF2, hb2⟩; have hh2 := (hb2.block hb (ltB hhV) hne).trans hhV))
    have hsz2 := hb2.size
    have hszV := hKV.size
    obtain ⟨ma, na, l2, f2, hd2⟩ := hS2.dsk
    go_wp2_with fail
    refine (told_nil _).mono ?_
    rintro e w3 ⟨rfl, hb3⟩
    have hh3 := (hb3.block hb (ltB hh2)).trans hh2
    have hd3 := (hb3.block db (ltB hd2)).trans hd2
    have hS3 := hS2.below hb3 (Nat.le_refl _)
    have c1 := cellB hh3
    have c2 := frozenB hh3
    clear b0 b3
    go_wp2_with fail
    obtain ⟨U, hU⟩ : ∃ U, U = (w3.setCell ⟨hb, 1, none⟩ (.pointer (some ⟨sb, 0, none⟩))).setCell ⟨hb, 2, none⟩ (.slice none 0 0) := ⟨_, rfl⟩
    rw [← hU]
    have hhU : U.heap[hb]? = some (.cells #[.pointer (some ⟨db, 0, none⟩), .pointer (some ⟨sb, 0, none⟩), .slice none 0 0, .int .u64 blk] 82) := by rw [hU]; simpa using heapSet (heapSet hh3 1 (.pointer (some ⟨sb, 0, none⟩))) 2 (.slice none 0 0)
    have hdU : U.heap[db]? = some (.cells #[.map (some ma), .map (some na), .slice none 0 0, .int .i64 l2, .int .i64 f2, .bool false] 88) := by rw [hU, heapSetO n2, heapSetO n2]; exact hd3
    have hFw : ∀ b, F b → b = db ∨ b = mb ∨ b = nb ∨ (∃ p ∈ c0.fsD, b = p.2.1) ∨ w.heap.size ≤ b := fun b h => (hF2 b h).imp id (fun h => h.imp id (fun h => h.imp id (fun h => h.imp id (fun h => Nat.le_trans hszV h))))
    have hFh : ∀ b, F b → b ≠ hb := fun b h e => by
      rcases hFw b h with h | h | h | ⟨p, hp, h⟩ | h
      · exact n1 (e.symm.trans h)
      · exact hmh (h.symm.trans e)
      · exact hnh (h.symm.trans e)
      · exact (hph p hp).1 (h.symm.trans e)
      · omega
    have hSU : SrvK db blk 3999999 U 0 sb L' F := hS3.kept (by rw [hU]; simp) (fun b hb' => by rw [hU, heapSetO (hFh b hb'), heapSetO (hFh b hb')])
    have hKU : Keep (fun b => b = hb ∨ b = db) w U := by
      have k1 := (hKV.drew.then hb2 (fun _ _ h => Or.inr h)).trans (Keep.of_below hb3)
      rw [hU]
      exact Keep.set (S := fun b => b = hb ∨ b = db) (b := hb) (Keep.set (S := fun b => b = hb ∨ b = db) (b := hb) k1 (Or.inl (Or.inl rfl)) _ _) (Or.inl (Or.inl rfl)) _ _
    clear hU c1 c2
    refine (after28 hb db (some ma) (some na) _ _ _ _ l2 f2 0 0 U hhU hdU).mono ?_
    rintro e w4 ⟨rfl, g1, g2⟩
    go_wp2
    go_ret
    refine ⟨sb, L', F, rfl, Nat.le_trans hszV hsb, (g2.block hb (ltB hhU) hne).trans hhU, (hSU.refill hdU g1 g2.size (fun b hF hne' => g2.block b (hSU.lt b hF) hne')).less (by omega), hRec, hFw, fun h => hFh hb h rfl, hKU.then g2 (fun i _ h => Or.inr h)⟩

set_option maxRecDepth 100000 in
set_option maxHeartbeats 1000000 in
/-- The power fails. -/
theorem lose25 (hb db nb0 sb : Nat) (mb0 : Option Nat) (blk : Int) (L : Ld) (F : Nat → Prop) (B : Nat) (cv : Value) (m : Nat) (cb : Nat → Nat) (c : Nat → Cn) (kept part : Int) (w : World) (H : HostAt w hb db nb0 sb mb0 blk L F B cv m cb c) (p0 : -9223372036854775808 ≤ part) (p1 : part ≤ 9223372036854775807) :
    Calls Tryz.prog 25 #[.pointer (some ⟨hb, 0, none⟩), .int .i64 kept, .int .i64 part] w fun e w' => e = .returned (.tuple #[]) ∧ ∃ (c0 : Led) (mb nb : Nat), c0.ok ∧ c0.ld = L ∧ c0.blk = blk ∧ w'.heap[hb]? = some (.cells #[.pointer (some ⟨db, 0, none⟩), .pointer none, cv, .int .u64 blk] 82) ∧ w'.heap[db]? = some (.cells #[.map (some mb), .map (some nb), .slice none 0 0, .int .i64 (-1), .int .i64 (-1), .bool false] 88) ∧ DirAt w' mb c0.fsD ∧ DirAt w' nb c0.fsD ∧ mb ≠ nb ∧ F mb ∧ w.heap.size ≤ nb ∧ (∀ p ∈ c0.fsD, F p.2.1) ∧ Keep (fun b => b = hb ∨ b = db) w w' := by
  obtain ⟨c0, k1, k2, k3, hL⟩ := H.hs
  obtain ⟨mp, g, FD, _, _, _, h4, h5, _⟩ := hL.mem
  obtain ⟨mb, nb, l, f, m1, m2, m3, m4, m5, m6, m7, m8⟩ := h4.mem
  have hne : hb ≠ db := fun e => H.hF hb (Or.inl rfl) (e ▸ H.hd)
  have hmh : mb ≠ hb := m2.map.ne H.hh
  have hmd : mb ≠ db := m2.map.ne m1
  obtain ⟨V, hV⟩ : ∃ V, V = w.setCell ⟨hb, 1, none⟩ (.pointer none) := ⟨_, rfl⟩
  have oV : ∀ x, x ≠ hb → V.heap[x]? = w.heap[x]? := fun x hx => by rw [hV, heapSetO hx]
  have hhV : V.heap[hb]? = some (.cells #[.pointer (some ⟨db, 0, none⟩), .pointer none, cv, .int .u64 blk] 82) := by rw [hV]; simpa using heapSet H.hh 1 (.pointer none)
  have hph : ∀ p ∈ c0.fsD, p.2.1 ≠ hb ∧ p.2.1 ≠ db := fun p hp => ⟨fun e => by have := m2.str p hp; rw [e, H.hh] at this; simp at this, fun e => by have := m2.str p hp; rw [e, m1] at this; simp at this⟩
  have hdV := (oV db (fun e => hne e.symm)).trans m1
  have hmV : DirAt V mb c0.fsD := m2.kept (oV mb hmh) (fun p hp => oV _ (hph p hp).1)
  have hKV : Keep (fun b => b = hb ∨ b = db) w V := hV ▸ Keep.set (S := fun b => b = hb ∨ b = db) (b := hb) (Keep.refl _ w) (Or.inl (Or.inl rfl)) _ _
  have HC := hide (crash39 db mb _ _ _ _ c0.fsD kept part V p0 p1 hdV hmV)
  have a0 := cellB H.hh
  have a1 := frozenB H.hh
  have b0 := cellB hhV
  have HQ := hide (And.intro k1 (And.intro k2 (And.intro k3 (And.intro (h5 mb m6) (fun p hp => h5 _ (h4.sD p hp))))))
  have HMV := hide hmV
  have HPH := hide hph
  have HKV := hide hKV
  clear hL k1 k2 k3 h4 h5 m1 m2 m3 m4 m5 m6 m7 m8 hmV hph hKV oV H
  go_enter Tryz.func25, Tryz.ntmps25
  go_upto_region 1 with fail
  rw [← hV]
  have HV := hide hV
  clear hV a0 a1
  go_wp2_with fail
  refine HC.out.mono ?_
  rintro e w2 ⟨rfl, nb', q1, q2, q3, q4⟩
  have HQ2 := hide (And.intro q1 (And.intro q2 (And.intro q3 q4)))
  clear q1 q2 q3 q4
  go_wp2
  go_end0
  obtain ⟨q1, q2, q3, q4⟩ := HQ2.out
  obtain ⟨k1, k2, k3, k4, k5⟩ := HQ.out
  have sV : V.heap.size = w.heap.size := by rw [HV.out]; simp
  have hmV := HMV.out
  refine ⟨rfl, c0, mb, nb', k1, k2, k3, (q4.block hb (ltB hhV) hne).trans hhV, q1, hmV.keep q4 hmd (fun p hp => (HPH.out p hp).2), q3, ?_, k4, by omega, k5, HKV.out.then q4 (fun _ _ h => Or.inr h)⟩
  have := hmV.map.lt
  omega
/-- The host behind a failure and an opening. -/
theorem HostAt.again {w w1 w2 : World} {hb db nb0 sb : Nat} {mb0 : Option Nat} {blk : Int} {L : Ld} {F : Nat → Prop} {B : Nat} {cv : Value} {m : Nat} {cb : Nat → Nat} {c : Nat → Cn} (H : HostAt w hb db nb0 sb mb0 blk L F B cv m cb c) (hB : B ≤ w.heap.size) {c0 : Led} {mb nb sb' : Nat} {L' : Ld} {F' : Nat → Prop} (f1 : F mb) (f2 : w.heap.size ≤ nb) (f3 : ∀ p ∈ c0.fsD, F p.2.1) (k1 : Keep (fun b => b = hb ∨ b = db) w w1)
    (h1 : w2.heap[hb]? = some (.cells #[.pointer (some ⟨db, 0, none⟩), .pointer (some ⟨sb', 0, none⟩), .slice none 0 0, .int .u64 blk] 82)) (h2 : SrvK db blk 0 w2 0 sb' L' F') (h3 : ∀ b, F' b → b = db ∨ b = mb ∨ b = nb ∨ (∃ p ∈ c0.fsD, b = p.2.1) ∨ w1.heap.size ≤ b) (h4 : ¬ F' hb) (k2 : Keep (fun b => b = hb ∨ b = db) w1 w2) :
    HostAt w2 hb db nb0 sb' mb0 blk L' F' B (.slice none 0 0) 0 (fun _ => 0) (fun _ => ⟨[], false⟩) ∧ Keep (HG hb db F cv m cb) w w2 ∧ ∀ b, HG hb db F' (.slice none 0 0) 0 (fun _ => 0) b → HG hb db F cv m cb b ∨ w.heap.size ≤ b := by
  have s1 := k1.size
  have hG : ∀ b, HG hb db F' (.slice none 0 0) 0 (fun _ => 0) b → HG hb db F cv m cb b ∨ w.heap.size ≤ b := fun b hb' => by
    rcases hb' with h | h | h | h | ⟨i, hi, _⟩
    · exact Or.inl (Or.inl h)
    · exact Or.inl (Or.inr (Or.inl h))
    · rcases h3 b h with h | h | h | ⟨p, hp, h⟩ | h
      · exact Or.inl (Or.inr (Or.inl h))
      · exact Or.inl (Or.inr (Or.inr (Or.inl (h ▸ f1))))
      · exact Or.inr (by omega)
      · exact Or.inl (Or.inr (Or.inr (Or.inl (h ▸ f3 p hp))))
      · exact Or.inr (by omega)
    · simp [Value.ownBlock] at h
    · omega
  refine ⟨⟨h1, h2.dskF, h2, fun i hi => absurd hi (Nat.not_lt_zero _), fun i j hi => absurd hi (Nat.not_lt_zero _), World.ownsRow_nil _ _ _ _, fun g hg hF => ?_, fun b hb' => ?_, fun _ _ => rfl⟩, (k1.trans k2).mono (fun b h _ => h.elim Or.inl (fun h => Or.inr (Or.inl h))), hG⟩
  · rcases hg with h | h | h
    · exact h4 (h ▸ hF)
    · exact h
    · simp [Value.ownBlock] at h
  · rcases hG b hb' with h | h
    · exact H.lo b h
    · omega
end Go.Proofs.YtnlgndpcddngoaaGreatDoor
