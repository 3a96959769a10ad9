import Derived.Test.YtlamgpeiolfffaaGreatDoorZy27
import Derived.Test.YtlamgpeiolfffaaGreatDoorZy00
import Derived.Defers
set_option linter.unusedSectionVars false
namespace Go.Proofs.YtlamgpeiolfffaaGreatDoor
open Go.RowKit
variable [dK] [iK]

theorem SrvAt.lock {w : World} {st : Int} {sb : Nat} {L : Ld} {F : Nat → Prop} (h : SrvAt w st sb L F) (st' : Int) : SrvAt (w.setCell ⟨sb, 0, none⟩ (.int .i32 st')) st' sb L F := by
  obtain ⟨mp, h1, h2, h3⟩ := h.mem
  refine ⟨⟨mp, by simpa using heapSet h1 0 (.int .i32 st'), h2.kept fun b e => heapSetO ?_ _ _, h3⟩, h.own, fun b hF => by rw [World.size_setCell]; exact h.lt b hF⟩
  intro e'
  subst e' e
  obtain ⟨_, _, ⟨es, clock, g1, _⟩, _⟩ := h2
  rw [h1] at g1; simp at g1
theorem SrvAt.pass {w w' : World} {st : Int} {sb : Nat} {L : Ld} {F : Nat → Prop} (h : SrvAt w st sb L F) (now : Int) {mp : Option Nat} (h1 : w.heap[sb]? = some (.cells #[.int .i32 st, .int .u32 0, .int .u64 L.time, .map mp, .int .u64 L.adm] 119)) (h1' : w'.heap[sb]? = some (.cells #[.int .i32 st, .int .u32 0, .int .u64 (passM L now).time, .map mp, .int .u64 L.adm] 119)) (hk : Keep (fun b => b = sb) w w') : SrvAt w' st sb (passM L now) F := by
  obtain ⟨mp0, g1, h2, h3⟩ := h.mem
  have e : mp0 = mp := by
    have := g1.symm.trans h1
    simpa using this
  subst e
  refine ⟨⟨mp0, h1', h2.kept fun b e => hk.block b (h2.lt b e) ?_, h3⟩, h.own, fun b hF => Nat.lt_of_lt_of_le (h.lt b hF) hk.size⟩
  intro e'
  subst e' e
  obtain ⟨_, _, ⟨es, clock, g1, _⟩, _⟩ := h2
  rw [h1] at g1; simp at g1
theorem passM_ok (L : Ld) (now : Int) (h : L.ok) (h0 : 0 ≤ now) (h1 : now ≤ 18446744073709551615) : (passM L now).ok := by
  refine ⟨?_, h.adm, h.key, h.qt, h.nd, h.len⟩
  have := h.time
  unfold passM
  dsimp only
  split <;> omega

/-- A connection in memory. -/
structure ConnAt (w : World) (sb cb : Nat) (c : Cn) (F : Nat → Prop) : Prop where
  mem : ∃ cw, w.heap[cb]? = some (.cells #[.pointer (some ⟨sb, 0, none⟩), cw, .bool c.bad] 103) ∧ Src w cw c.waits ∧ ∀ g o n d, cw = .slice (some ⟨g, o, none⟩) n d → ¬ F g ∧ g ≠ cb ∧ g < w.heap.size
  nF : ¬ F cb

set_option maxRecDepth 100000 in
set_option maxHeartbeats 4000000 in
theorem feed27_bad (sb cb : Nat) (F : Nat → Prop) (L : Ld) (cw vb : Value) (now : Int) (w : World) (hS : SrvAt w 0 sb L F) (hcb : w.heap[cb]? = some (.cells #[.pointer (some ⟨sb, 0, none⟩), cw, .bool true] 103)) (hF : ¬ F cb) :
    Calls Tryz.prog 27 #[.pointer (some ⟨cb, 0, none⟩), .int .u64 now, vb] w fun e w' => e = .returned (.slice none 0 0) ∧ SrvAt w' 0 sb (passM L now) F ∧ Keep F w w' := by
  have hne : cb ≠ sb := fun e => hF (e ▸ hS.own)
  have a1 := cellB hcb
  obtain ⟨mp, m1, m2, m3⟩ := hS.mem
  obtain ⟨W, hW⟩ : ∃ W, W = w.setCell ⟨sb, 0, none⟩ (.int .i32 1) := ⟨_, rfl⟩
  have hS1 : SrvAt W 1 sb L F := hW ▸ hS.lock 1
  have hs1 : W.heap[sb]? = some (.cells #[.int .i32 1, .int .u32 0, .int .u64 L.time, .map mp, .int .u64 L.adm] 119) := by rw [hW]; simpa using heapSet m1 0 (.int .i32 1)
  have hc1 : W.heap[cb]? = some (.cells #[.pointer (some ⟨sb, 0, none⟩), cw, .bool true] 103) := hW ▸ (heapSetO hne _ _).trans hcb
  have hK1 : Keep F w W := hW ▸ (Keep.refl F w).set (Or.inl hS.own) _ _
  have a2 := cellB hc1
  go_enter_defers Tryz.func27, Tryz.ntmps27
  go_wp2_with (first | (go_at_call 41; refine (lock41 sb _ _ _ _ _ m1).mono ?_; rintro e w' ⟨rfl, rfl⟩; rw [← hW]; clear hW) | (go_at_call 43; refine (bpass sb _ _ _ _ L.time now (passM L now).time rfl _ hs1).mono ?_; rintro e w2 ⟨rfl, hs2, hk2⟩; have hc2 := (hk2.block cb (ltB hc1) hne).trans hc1; have a3 := cellB hc2))
  refine leaves_cons (f := 42) (args := #[.pointer (some ⟨sb, 0, none⟩)]) (by simp) (by simp [go_sem]) ?_
  refine (unlock42 sb _ _ _ _ .returning _ hs2).mono ?_
  rintro e u' w'' ⟨rfl, rfl, rfl⟩
  have hS2 : SrvAt w2 1 sb (passM L now) F := hS1.pass now hs1 hs2 hk2
  exact ⟨_, results_tmp rfl _ _ _, rfl, hS2.lock 0, (hK1.then hk2 (fun i _ h => h ▸ hS.own)).set (Or.inl hS.own) _ _⟩

/-- What waits in a connection lies where it lay, or in a new block. -/
def NewW (sb cb : Nat) (w w' : World) (b b' : Bool) : Prop := ∀ g, g < w.heap.size → (∀ cw, w.heap[cb]? = some (.cells #[.pointer (some ⟨sb, 0, none⟩), cw, .bool b] 103) → cw.ownBlock ≠ some g) → ∀ cw', w'.heap[cb]? = some (.cells #[.pointer (some ⟨sb, 0, none⟩), cw', .bool b'] 103) → cw'.ownBlock ≠ some g
/-- What a call of Feed leaves. -/
def FeedPost (sb cb : Nat) (F : Nat → Prop) (L : Ld) (c : Cn) (now : Int) (bs : List Int) (w : World) (rv : Value) (w' : World) : Prop :=
  ∃ F', SrvAt w' 0 sb (feedM L c now bs).1 F' ∧ ConnAt w' sb cb (feedM L c now bs).2.1 F' ∧ (∀ b, F' b → F b ∨ w.heap.size ≤ b) ∧ Keep (fun b => F b ∨ b = cb) w w' ∧ w'.ownsRow w.heap.size 5 1 rv (encs (feedM L c now bs).2.2).length ((encs (feedM L c now bs).2.2).map (Value.int .u8)) ∧ NewW sb cb w w' c.bad (feedM L c now bs).2.1.bad

set_option maxRecDepth 100000 in
set_option maxHeartbeats 4000000 in
theorem feed27 (sb cb : Nat) (F : Nat → Prop) (L : Ld) (c : Cn) (vb : Value) (now : Int) (bs : List Int) (w : World) (hS : SrvAt w 0 sb L F) (hL : L.ok) (h0 : 0 ≤ now) (h1 : now ≤ 18446744073709551615) (hC : ConnAt w sb cb c F) (hs : Src w vb bs) (hby : Bytes bs) (hbw : Bytes c.waits) (hlen : c.waits.length + bs.length ≤ 100000)
    (hvF : ∀ g o n d, vb = .slice (some ⟨g, o, none⟩) n d → ¬ F g)
    (hdo : Hid (∀ w1 L F1 q, SrvAt w1 1 sb L F1 → L.ok → q.ok → Calls Tryz.prog 69 #[.pointer (some ⟨sb, 0, none⟩), .agg #[.int .u8 q.op, .int .u8 q.k0, .int .u8 q.k1, .int .u8 q.k2, .int .u8 q.k3, .int .u8 q.k4, .int .u8 q.k5, .int .u8 q.k6, .int .u8 q.k7, .int .u8 q.kd, .int .u64 q.x, .int .u64 q.y, .int .u64 q.n]] w1 fun e w' => e = .returned (.agg #[.int .u8 (doM L q).2.c, .int .u64 (doM L q).2.a, .int .u64 (doM L q).2.b]) ∧ Out w1 1 sb (doM L q).1 F1 w')) :
    Calls Tryz.prog 27 #[.pointer (some ⟨cb, 0, none⟩), .int .u64 now, vb] w fun e w' => ∃ rv, e = .returned rv ∧ FeedPost sb cb F L c now bs w rv w' := by
  obtain ⟨cw, hcb, hsw, hcw⟩ := hC.mem
  have hF := hC.nF
  cases hb : c.bad with
  | true =>
    rw [hb] at hcb
    refine (feed27_bad sb cb F L cw vb now w hS hcb hF).mono ?_
    rintro e w' ⟨rfl, g1, g2⟩
    have em : feedM L c now bs = (passM L now, c, []) := by unfold feedM; rw [if_pos hb]
    refine ⟨_, rfl, F, ?_, ⟨⟨cw, ?_, ?_, fun g o n d h => ⟨(hcw g o n d h).1, (hcw g o n d h).2.1, Nat.lt_of_lt_of_le (hcw g o n d h).2.2 g2.size⟩⟩, ?_⟩, fun b h => Or.inl h, g2.mono (fun k h _ => Or.inl h), ?_, ?_⟩
    · rw [em]; exact g1
    · rw [em]; rw [hb]; exact (g2.block cb (ltB hcb) hF).trans hcb
    · rw [em]; exact hsw.kept g2.size (fun g o n d h hg => g2.block g hg (hcw g o n d h).1)
    · exact hF
    · rw [em]; exact World.ownsRow_nil _ _ _ _
    · rw [em]
      intro g _ h cw' hcw'
      rw [hb] at h hcw'
      exact h cw' (((g2.block cb (ltB hcb) hF).symm.trans hcw'))
  | false =>
    rw [hb] at hcb
    have hne : cb ≠ sb := fun e => hF (e ▸ hS.own)
    have hFl := hS.lt
    have a1 := cellB hcb
    obtain ⟨mp, m1, m2, m3⟩ := hS.mem
    obtain ⟨W, hW⟩ : ∃ W, W = w.setCell ⟨sb, 0, none⟩ (.int .i32 1) := ⟨_, rfl⟩
    have hS1 : SrvAt W 1 sb L F := hW ▸ hS.lock 1
    have hs1 : W.heap[sb]? = some (.cells #[.int .i32 1, .int .u32 0, .int .u64 L.time, .map mp, .int .u64 L.adm] 119) := by rw [hW]; simpa using heapSet m1 0 (.int .i32 1)
    have hc1 : W.heap[cb]? = some (.cells #[.pointer (some ⟨sb, 0, none⟩), cw, .bool false] 103) := hW ▸ (heapSetO hne _ _).trans hcb
    have hK1 : Keep F w W := hW ▸ (Keep.refl F w).set (Or.inl hS.own) _ _
    have a2 := cellB hc1
    obtain ⟨x1, c1, e1⟩ := hsw.shape
    obtain ⟨x2, c2, e2⟩ := hs.shape
    have HSW := hide hsw
    have HSB := hide hs
    have HCW := hide hcw
    have HVF := hide hvF
    clear hsw hs hcw hvF
    subst e1 e2
    go_enter_defers Tryz.func27, Tryz.ntmps27
    go_wp2_with (first | (go_at_call 41; refine (lock41 sb _ _ _ _ _ m1).mono ?_; rintro e w' ⟨rfl, rfl⟩; rw [← hW]; clear hW) | (go_at_call 43; refine (bpass sb _ _ _ _ L.time now (passM L now).time rfl _ hs1).mono ?_; rintro e w2 ⟨rfl, hs2, hk2⟩; have hc2 := (hk2.block cb (ltB hc1) hne).trans hc1; have a3 := cellB hc2))
    have hS2 : SrvAt w2 1 sb (passM L now) F := hS1.pass now hs1 hs2 hk2
    have hK2 : Keep F w w2 := hK1.then hk2 (fun i _ h => h ▸ hS.own)
    have hsz2 := hK2.size
    obtain ⟨V, hV⟩ : ∃ V, V = w2.alloc (.cells #[.slice x1 c.waits.length c1, .slice x2 bs.length c2] 69) := ⟨_, rfl⟩
    have hA : V.heap[w2.heap.size]? = some (.cells #[.slice x1 c.waits.length c1, .slice x2 bs.length c2] 69) := hV ▸ heapNew _ _
    have hKV : Keep F w V := hV ▸ hK2.alloc _
    have hSV : SrvAt V 1 sb (passM L now) F := hV ▸ hS2.kept (by simp) (fun b hb => heapOld _ _ (hS2.lt b hb))
    have hcV : V.heap[cb]? = some (.cells #[.pointer (some ⟨sb, 0, none⟩), .slice x1 c.waits.length c1, .bool false] 103) := hV ▸ upB hc2 _
    have hwV : Src V (.slice x1 c.waits.length c1) c.waits := HSW.out.kept hKV.size (fun g o n d h hg => hKV.block g hg (HCW.out g o n d h).1)
    have hbV : Src V (.slice x2 bs.length c2) bs := HSB.out.kept hKV.size (fun g o n d h hg => hKV.block g hg (HVF.out g o n d h))
    have hszV := hKV.size
    rw [← hV]
    clear hV
    refine (concat2 w2.heap.size _ _ c.waits bs 69 V hA hwV hbV (by omega) (by omega)).mono ?_
    rintro e w3 ⟨v3, rfl, hown3, hb3⟩
    have hS3 := hSV.below hb3 (Nat.le_refl _)
    have hc3 := (hb3.block cb (ltB hcV)).trans hcV
    have hsz3 := hb3.size
    clear a1 a2 a3
    go_wp2_with fail
    refine (read44 1 sb cb F (passM L now) (c.waits ++ bs) v3 _ _ w3 hS3 (passM_ok L now hL h0 h1) hc3 hF (Sl.of_own hown3) (fun g o n d h => by
        have h2 := hown3.lt g (by rw [h]; rfl)
        exact ⟨h2.2, fun hFg => by have := hFl g hFg; omega⟩) (hbw.app hby) (by rw [List.length_append]; exact hlen) hdo).mono ?_
    rintro e w4 ⟨rv, F', rfl, hS4, hF4, hK4, hpost⟩
    go_wp2_with fail
    obtain ⟨mp4, m4, _, _⟩ := hS4.mem
    refine leaves_cons (f := 42) (args := #[.pointer (some ⟨sb, 0, none⟩)]) (by simp) (by simp [go_sem]) ?_
    refine (unlock42 sb _ _ _ _ .returning _ m4).mono ?_
    rintro e u' w'' ⟨rfl, rfl, rfl⟩
    refine ⟨_, results_tmp rfl _ _ _, _, rfl, ?_⟩
    have hKK : Keep (fun b => F b ∨ b = cb) w w4 := ((hKV.trans (Keep.of_below hb3)).mono (fun k h _ => Or.inl h)).then hK4 (fun i hi h => h)
    have hsb := hFl sb hS.own
    have hcl : cb < w.heap.size := ltB hcb
    have hsz4 := hK4.size
    have hF'c : ¬ F' cb := fun h => (hF4 cb h).elim hF (fun h => by omega)
    have em : feedM L c now bs = if (runL (passM L now) (c.waits ++ bs)).2.2.2 = 2 then ((runL (passM L now) (c.waits ++ bs)).1, ⟨[], true⟩, (runL (passM L now) (c.waits ++ bs)).2.1 ++ [⟨6, 0, 0⟩]) else ((runL (passM L now) (c.waits ++ bs)).1, ⟨(runL (passM L now) (c.waits ++ bs)).2.2.1, false⟩, (runL (passM L now) (c.waits ++ bs)).2.1) := by
      unfold feedM
      rw [if_neg (by rw [hb]; simp)]
      rfl
    have hFF : ∀ b, F' b → F b ∨ w.heap.size ≤ b := fun b h => (hF4 b h).imp id (fun h => by omega)
    have hown_set : ∀ v n xs, w4.ownsRow w3.heap.size 5 1 v n xs → (w4.setCell ⟨sb, 0, none⟩ (.int .i32 0)).ownsRow w.heap.size 5 1 v n xs := fun v n xs h => own_down (b := w3.heap.size) (by omega) (own_kept h (fun g hg => heapSetO (by have := (h.lt g hg).1; omega) _ _))
    rcases hpost with ⟨p1, p2, p3⟩ | ⟨p1, wv, p2, p3, p4, p5⟩
    · rw [if_pos p1] at em
      refine ⟨F', ?_, ⟨⟨.slice none 0 0, ?_, Or.inl ⟨by rw [em], Or.inl rfl⟩, fun g o n d h => by simp at h⟩, hF'c⟩, hFF, hKK.set (Or.inl (Or.inl hS.own)) _ _, ?_, ?_⟩
      · rw [em]; exact hS4.lock 0
      · rw [em]; exact (heapSetO hne _ _).trans p2
      · rw [em]; exact hown_set _ _ _ p3
      · rw [em]
        intro g _ _ cw' hcw'
        rw [heapSetO hne, p2] at hcw'
        injection hcw' with hcw'
        injection hcw' with hcw' _ _
        simp at hcw'
        subst hcw'
        simp [Value.ownBlock]
    · rw [if_neg p1] at em
      refine ⟨F', ?_, ⟨⟨wv, ?_, ?_, fun g o n d h => ?_⟩, hF'c⟩, hFF, hKK.set (Or.inl (Or.inl hS.own)) _ _, ?_, ?_⟩
      · rw [em]; exact hS4.lock 0
      · rw [em]; exact (heapSetO hne _ _).trans p2
      · rw [em]; exact Src.of_own (hown_set _ _ _ p3)
      · have hg : wv.ownBlock = some g := by rw [h]; rfl
        refine ⟨p4 g hg, fun e => ?_, ?_⟩
        · have := (p3.lt g hg).1
          omega
        · rw [World.size_setCell]; exact (p3.lt g hg).2
      · rw [em]; exact hown_set _ _ _ p5
      · rw [em]
        intro g hg _ cw' hcw' hown
        rw [heapSetO hne, p2] at hcw'
        injection hcw' with hcw'
        injection hcw' with hcw' _ _
        simp at hcw'
        subst hcw'
        have := (p3.lt g hown).1
        omega
end Go.Proofs.YtlamgpeiolfffaaGreatDoor
