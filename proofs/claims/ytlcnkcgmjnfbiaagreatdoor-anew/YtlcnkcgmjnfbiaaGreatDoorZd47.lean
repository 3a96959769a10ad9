import Derived.Test.YtlcnkcgmjnfbiaaGreatDoorZd46
import Derived.Test.YtlcnkcgmjnfbiaaGreatDoorZd00
import Derived.Test.YtlcnkcgmjnfbiaaGreatDoorZd26
import Derived.Defers
import Derived.Test.YtlcnkcgmjnfbiaaGreatDoorZd45
import Derived.Test.YtlcnkcgmjnfbiaaGreatDoorZd19
import Derived.Deep.RegionLaw
set_option linter.unusedSectionVars false
namespace Go.Proofs.YtlcnkcgmjnfbiaaGreatDoor
open Go.RowKit
variable [dK] [iK]

theorem SrvK.own {db : Nat} {blk D : Int} {k : Nat} {w : World} {st : Int} {sb : Nat} {L : Ld} {F : Nat → Prop} (h : SrvK db blk D k w st sb L F) : F sb := by
  obtain ⟨c, _, _, _, h⟩ := h
  exact h.own
theorem SrvK.mem {db : Nat} {blk D : Int} {k : Nat} {w : World} {st : Int} {sb : Nat} {L : Ld} {F : Nat → Prop} (h : SrvK db blk D k w st sb L F) : ∃ mv mq ms, w.heap[sb]? = some (.cells #[.int .i32 st, .int .u32 0, .int .u64 L.time, mv, mq, ms, .int .u64 L.adm] 139) := by
  obtain ⟨c, _, h2, _, h⟩ := h
  obtain ⟨mp, g, FD, h1, _⟩ := h.mem
  subst h2
  exact ⟨_, _, _, h1⟩
theorem SrvK.lock {db : Nat} {blk D : Int} {k : Nat} {w : World} {st : Int} {sb : Nat} {L : Ld} {F : Nat → Prop} (h : SrvK db blk D k w st sb L F) (st' : Int) : SrvK db blk D k (w.setCell ⟨sb, 0, none⟩ (.int .i32 st')) st' sb L F := by
  obtain ⟨c, k1, k2, k3, h⟩ := h
  obtain ⟨mp, g, FD, h1, h2, h3, h4, h5, h6, h7, h8, h9, h10, h11, h12, h13⟩ := h.mem
  exact ⟨c, k1, k2, k3, ⟨⟨mp, g, FD, by simpa using heapSet h1 0 (.int .i32 st'), MapG.kept h2 (heapSetO (fun e => h13 e.symm) _ _), h3.kept (heapSetO (fun e => h12 e.symm) _ _), h4.kept (by simp) (fun b hb => heapSetO (fun (e : b = sb) => h11 (e ▸ hb)) _ _), h5, h6, h7, h8, h9, h10, h11, h12, h13⟩, h.own, fun b hF => by rw [World.size_setCell]; exact h.lt b hF⟩⟩
theorem SrvK.pass {db : Nat} {blk D : Int} {k : Nat} {w : World} {st : Int} {sb : Nat} {L : Ld} {F : Nat → Prop} (h : SrvK db blk D k w st sb L F) (now : Int) (h0 : 0 ≤ now) (h9 : now ≤ 18446744073709551615) {w' : World} {mv mq ms : Value} (e1 : w.heap[sb]? = some (.cells #[.int .i32 st, .int .u32 0, .int .u64 L.time, mv, mq, ms, .int .u64 L.adm] 139)) (e2 : w'.heap[sb]? = some (.cells #[.int .i32 st, .int .u32 0, .int .u64 (passM L now).time, mv, mq, ms, .int .u64 L.adm] 139)) (hk : Keep (fun b => b = sb) w w') : SrvK db blk D k w' st sb (passM L now) F := by
  obtain ⟨c, k1, k2, k3, h⟩ := h
  obtain ⟨mp, g, FD, h1, h2, h3, h4, h5, h6, h7, h8, h9', h10, h11, h12, h13⟩ := h.mem
  subst k2
  rw [h1] at e1
  simp at e1
  obtain ⟨_, rfl, rfl, rfl, _⟩ := e1
  have htp : c.time ≤ (passM c.ld now).time := by unfold passM; show c.time ≤ if c.ld.time < now then now else c.ld.time; have e : c.ld.time = c.time := rfl; rw [e]; split <;> omega
  refine ⟨⟨(passM c.ld now).time, c.adm, c.blk, c.es, c.turn, c.fsD, c.fsN⟩, ⟨?_, k1.adm, k1.blk, k1.turn, k1.nd, k1.key, k1.qt, k1.fit, k1.len, k1.dur.pass htp⟩, rfl, ⟨k3.1, Dur.pass k3.2 htp⟩, ⟨⟨mp, g, FD, e2, MapG.kept h2 (hk.block mp (h.lt mp h6) (fun e => h13 e.symm)), h3.kept (hk.block g (h.lt g h7) (fun e => h12 e.symm)), h4.kept hk.size (fun b hb => hk.block b (h.lt b (h5 b hb)) (fun e => h11 (e ▸ hb))), h5, h6, h7, h8, h9', h10, h11, h12, h13⟩, h.own, fun b hF => Nat.lt_of_lt_of_le (h.lt b hF) hk.size⟩⟩
  have := k1.time
  show 0 ≤ (passM c.ld now).time ∧ (passM c.ld now).time ≤ 18446744073709551615
  unfold passM
  show 0 ≤ (if c.ld.time < now then now else c.ld.time) ∧ (if c.ld.time < now then now else c.ld.time) ≤ 18446744073709551615
  have e : c.ld.time = c.time := rfl
  rw [e]
  split <;> omega
theorem passM_ok (L : Ld) (now : Int) (h : L.ok) (h0 : 0 ≤ now) (h1 : now ≤ 18446744073709551615) : (passM L now).ok := by
  refine ⟨?_, h.adm, h.key, h.qt, h.nd, h.len⟩
  have := h.time
  unfold passM
  dsimp only
  split <;> omega

/-- A connection in memory. -/
structure ConnAt (w : World) (sb cb : Nat) (c : Cn) (F : Nat → Prop) : Prop where
  mem : ∃ cw, w.heap[cb]? = some (.cells #[.pointer (some ⟨sb, 0, none⟩), cw, .bool c.bad] 156) ∧ Src w cw c.waits ∧ ∀ g o n d, cw = .slice (some ⟨g, o, none⟩) n d → ¬ F g ∧ g ≠ cb ∧ g < w.heap.size
  nF : ¬ F cb

set_option maxRecDepth 100000 in
set_option maxHeartbeats 4000000 in
theorem feed31_bad (db : Nat) (blk D : Int) (k0 : Nat) (sb cb : Nat) (F : Nat → Prop) (L : Ld) (cw vb : Value) (now : Int) (w : World) (hS : SrvK db blk D k0 w 0 sb L F) (hcb : w.heap[cb]? = some (.cells #[.pointer (some ⟨sb, 0, none⟩), cw, .bool true] 156)) (hF : ¬ F cb) (h0 : 0 ≤ now) (h1 : now ≤ 18446744073709551615) :
    Calls Tryz.prog 44 #[.pointer (some ⟨cb, 0, none⟩), .int .u64 now, vb] w fun e w' => e = .returned (.slice none 0 0) ∧ SrvK db blk D k0 w' 0 sb (passM L now) F ∧ Keep F w w' := by
  have hne : cb ≠ sb := fun e => hF (e ▸ hS.own)
  have a1 := cellB hcb
  obtain ⟨mv, mq, ms, m1⟩ := hS.mem
  obtain ⟨W, hW⟩ : ∃ W, W = w.setCell ⟨sb, 0, none⟩ (.int .i32 1) := ⟨_, rfl⟩
  have hS1 : SrvK db blk D k0 W 1 sb L F := hW ▸ hS.lock 1
  have hs1 : W.heap[sb]? = some (.cells #[.int .i32 1, .int .u32 0, .int .u64 L.time, mv, mq, ms, .int .u64 L.adm] 139) := by rw [hW]; simpa using heapSet m1 0 (.int .i32 1)
  have hc1 : W.heap[cb]? = some (.cells #[.pointer (some ⟨sb, 0, none⟩), cw, .bool true] 156) := hW ▸ (heapSetO hne _ _).trans hcb
  have hK1 : Keep F w W := hW ▸ (Keep.refl F w).set (Or.inl hS.own) _ _
  have a2 := cellB hc1
  go_enter_defers Tryz.func44, Tryz.ntmps44
  go_wp2_with (first | (go_at_call 65; refine (lockA ⟨sb, 0, none⟩ _ (cellB m1 0) (frozenB m1 0)).mono ?_; rintro e w' ⟨rfl, rfl⟩; rw [← hW]; clear hW) | (go_at_call 67; refine (bpass sb _ _ _ _ _ _ L.time now (passM L now).time rfl _ hs1).mono ?_; rintro e w2 ⟨rfl, hs2, hk2⟩; have hc2 := (hk2.block cb (ltB hc1) hne).trans hc1; have a3 := cellB hc2))
  refine leaves_cons (f := 66) (args := #[.pointer (some ⟨sb, 0, none⟩)]) (by simp) (by simp [go_sem]) ?_
  refine (unlockA ⟨sb, 0, none⟩ .returning _ (cellB hs2 0) (frozenB hs2 0)).mono ?_
  rintro e u' w'' ⟨rfl, rfl, rfl⟩
  have hS2 : SrvK db blk D k0 w2 1 sb (passM L now) F := hS1.pass now h0 h1 hs1 hs2 hk2
  exact ⟨_, results_tmp rfl _ _ _, rfl, hS2.lock 0, (hK1.then hk2 (fun i _ h => h ▸ hS.own)).set (Or.inl hS.own) _ _⟩

/-- What waits in a connection lies where it lay, or in a new block. -/
def NewW (sb cb : Nat) (w w' : World) (b b' : Bool) : Prop := ∀ g, g < w.heap.size → (∀ cw, w.heap[cb]? = some (.cells #[.pointer (some ⟨sb, 0, none⟩), cw, .bool b] 156) → cw.ownBlock ≠ some g) → ∀ cw', w'.heap[cb]? = some (.cells #[.pointer (some ⟨sb, 0, none⟩), cw', .bool b'] 156) → cw'.ownBlock ≠ some g
/-- The time that the files have behind a call of Feed. -/
def feedD (D : Int) (L : Ld) (c : Cn) (now : Int) (bs : List Int) : Int := if c.bad = true then D else runDL D (passM L now) (c.waits ++ bs)
/-- What a call of Feed leaves. -/
def FeedPost (db : Nat) (blk D : Int) (k0 : Nat) (sb cb : Nat) (F : Nat → Prop) (L : Ld) (c : Cn) (now : Int) (bs : List Int) (w : World) (rv : Value) (w' : World) : Prop :=
  ∃ F', SrvK db blk (feedD D L c now bs) k0 w' 0 sb (feedM L c now bs).1 F' ∧ ConnAt w' sb cb (feedM L c now bs).2.1 F' ∧ (∀ b, F' b → F b ∨ w.heap.size ≤ b) ∧ Keep (fun b => F b ∨ b = cb) w w' ∧ w'.ownsRow w.heap.size 5 1 rv (encs (feedM L c now bs).2.2).length ((encs (feedM L c now bs).2.2).map (Value.int .u8)) ∧ NewW sb cb w w' c.bad (feedM L c now bs).2.1.bad

set_option maxRecDepth 100000 in
set_option maxHeartbeats 4000000 in
theorem feed31 (db : Nat) (blk D : Int) (k0 : Nat) (sb cb : Nat) (F : Nat → Prop) (L : Ld) (c : Cn) (vb : Value) (now : Int) (bs : List Int) (w : World) (hS : SrvK db blk D (4 * (c.waits.length + bs.length) + k0) w 0 sb L F) (hL : L.ok) (h0 : 0 ≤ now) (h1 : now ≤ 18446744073709551615) (hC : ConnAt w sb cb c F) (hs : Src w vb bs) (hby : Bytes bs) (hbw : Bytes c.waits) (hlen : c.waits.length + bs.length ≤ 100000)
    (hvF : ∀ g o n d, vb = .slice (some ⟨g, o, none⟩) n d → ¬ F g)
    (hdo : Hid (∀ kk w1 D L F1 q, SrvK db blk D (kk + 4) w1 1 sb L F1 → L.ok → q.ok → Calls Tryz.prog 111 #[.pointer (some ⟨sb, 0, none⟩), .agg #[.int .u8 q.op, .int .u8 q.k0, .int .u8 q.k1, .int .u8 q.k2, .int .u8 q.k3, .int .u8 q.k4, .int .u8 q.k5, .int .u8 q.k6, .int .u8 q.k7, .int .u8 q.kd, .int .u64 q.x, .int .u64 q.y, .int .u64 q.n]] w1 fun e w' => e = .returned (.agg #[.int .u8 (doM L q).2.c, .int .u64 (doM L q).2.a, .int .u64 (doM L q).2.b]) ∧ OutK db blk (doD D L q) kk w1 1 sb (doM L q).1 F1 w')) :
    Calls Tryz.prog 44 #[.pointer (some ⟨cb, 0, none⟩), .int .u64 now, vb] w fun e w' => ∃ rv, e = .returned rv ∧ FeedPost db blk D k0 sb cb F L c now bs w rv w' := by
  obtain ⟨cw, hcb, hsw, hcw⟩ := hC.mem
  have hF := hC.nF
  cases hb : c.bad with
  | true =>
    rw [hb] at hcb
    refine (feed31_bad db blk D k0 sb cb F L cw vb now w (hS.less (by omega)) hcb hF h0 h1).mono ?_
    rintro e w' ⟨rfl, g1, g2⟩
    have em : feedM L c now bs = (passM L now, c, []) := by unfold feedM; rw [if_pos hb]
    have ed : feedD D L c now bs = D := by unfold feedD; rw [if_pos hb]
    refine ⟨_, rfl, F, ?_, ⟨⟨cw, ?_, ?_, fun g o n d h => ⟨(hcw g o n d h).1, (hcw g o n d h).2.1, Nat.lt_of_lt_of_le (hcw g o n d h).2.2 g2.size⟩⟩, ?_⟩, fun b h => Or.inl h, g2.mono (fun k h _ => Or.inl h), ?_, ?_⟩
    · rw [em, ed]; exact g1
    · rw [em]; rw [hb]; exact (g2.block cb (ltB hcb) hF).trans hcb
    · rw [em]; exact hsw.kept g2.size (fun g o n d h hg => g2.block g hg (hcw g o n d h).1)
    · exact hF
    · rw [em]; exact World.ownsRow_nil _ _ _ _
    · rw [em]
      intro g _ h cw' hcw'
      rw [hb] at h hcw'
      exact h cw' (((g2.block cb (ltB hcb) hF).symm.trans hcw'))
  | false =>
    rw [hb] at hcb
    have hne : cb ≠ sb := fun e => hF (e ▸ hS.own)
    have hFl := hS.lt
    have a1 := cellB hcb
    obtain ⟨mv, mq, ms, m1⟩ := hS.mem
    obtain ⟨W, hW⟩ : ∃ W, W = w.setCell ⟨sb, 0, none⟩ (.int .i32 1) := ⟨_, rfl⟩
    have hS1 : SrvK db blk D (4 * (c.waits.length + bs.length) + k0) W 1 sb L F := hW ▸ hS.lock 1
    have hs1 : W.heap[sb]? = some (.cells #[.int .i32 1, .int .u32 0, .int .u64 L.time, mv, mq, ms, .int .u64 L.adm] 139) := by rw [hW]; simpa using heapSet m1 0 (.int .i32 1)
    have hc1 : W.heap[cb]? = some (.cells #[.pointer (some ⟨sb, 0, none⟩), cw, .bool false] 156) := hW ▸ (heapSetO hne _ _).trans hcb
    have hK1 : Keep F w W := hW ▸ (Keep.refl F w).set (Or.inl hS.own) _ _
    have a2 := cellB hc1
    obtain ⟨x1, c1, e1⟩ := hsw.shape
    obtain ⟨x2, c2, e2⟩ := hs.shape
    have HSW := hide hsw
    have HSB := hide hs
    have HCW := hide hcw
    have HVF := hide hvF
    clear hsw hs hcw hvF
    subst e1 e2
    go_enter_defers Tryz.func44, Tryz.ntmps44
    go_wp2_with (first | (go_at_call 65; refine (lockA ⟨sb, 0, none⟩ _ (cellB m1 0) (frozenB m1 0)).mono ?_; rintro e w' ⟨rfl, rfl⟩; rw [← hW]; clear hW) | (go_at_call 67; refine (bpass sb _ _ _ _ _ _ L.time now (passM L now).time rfl _ hs1).mono ?_; rintro e w2 ⟨rfl, hs2, hk2⟩; have hc2 := (hk2.block cb (ltB hc1) hne).trans hc1; have a3 := cellB hc2))
    have hS2 : SrvK db blk D (4 * (c.waits.length + bs.length) + k0) w2 1 sb (passM L now) F := hS1.pass now h0 h1 hs1 hs2 hk2
    have hK2 : Keep F w w2 := hK1.then hk2 (fun i _ h => h ▸ hS.own)
    have hsz2 := hK2.size
    obtain ⟨V, hV⟩ : ∃ V, V = w2.alloc (.cells #[.slice x1 c.waits.length c1, .slice x2 bs.length c2] 48) := ⟨_, rfl⟩
    have hA : V.heap[w2.heap.size]? = some (.cells #[.slice x1 c.waits.length c1, .slice x2 bs.length c2] 48) := hV ▸ heapNew _ _
    have hKV : Keep F w V := hV ▸ hK2.alloc _
    have hSV : SrvK db blk D (4 * (c.waits.length + bs.length) + k0) V 1 sb (passM L now) F := hV ▸ hS2.kept (by simp) (fun b hb => heapOld _ _ (hS2.lt b hb))
    have hcV : V.heap[cb]? = some (.cells #[.pointer (some ⟨sb, 0, none⟩), .slice x1 c.waits.length c1, .bool false] 156) := hV ▸ upB hc2 _
    have hwV : Src V (.slice x1 c.waits.length c1) c.waits := HSW.out.kept hKV.size (fun g o n d h hg => hKV.block g hg (HCW.out g o n d h).1)
    have hbV : Src V (.slice x2 bs.length c2) bs := HSB.out.kept hKV.size (fun g o n d h hg => hKV.block g hg (HVF.out g o n d h))
    have hszV := hKV.size
    rw [← hV]
    clear hV
    refine (concat2 w2.heap.size _ _ c.waits bs _ V hA hwV hbV (by omega) (by omega)).mono ?_
    rintro e w3 ⟨v3, rfl, hown3, hb3⟩
    have hS3 := hSV.below hb3 (Nat.le_refl _)
    have hc3 := (hb3.block cb (ltB hcV)).trans hcV
    have hsz3 := hb3.size
    clear a1 a2 a3
    go_wp2_with fail
    refine (read48 db blk D k0 1 sb cb F (passM L now) (c.waits ++ bs) v3 _ _ w3 (by rw [List.length_append]; exact hS3) (passM_ok L now hL h0 h1) hc3 hF (Sl.of_own hown3) (fun g o n d h => by
        have h2 := hown3.lt g (by rw [h]; rfl)
        exact ⟨h2.2, fun hFg => by have := hFl g hFg; omega⟩) (hbw.app hby) (by rw [List.length_append]; exact hlen) hdo).mono ?_
    rintro e w4 ⟨rv, F', rfl, hS4, hF4, hK4, hpost⟩
    go_wp2_with fail
    obtain ⟨mv4, mq4, ms4, m4⟩ := hS4.mem
    refine leaves_cons (f := 66) (args := #[.pointer (some ⟨sb, 0, none⟩)]) (by simp) (by simp [go_sem]) ?_
    refine (unlockA ⟨sb, 0, none⟩ .returning _ (cellB m4 0) (frozenB m4 0)).mono ?_
    rintro e u' w'' ⟨rfl, rfl, rfl⟩
    refine ⟨_, results_tmp rfl _ _ _, _, rfl, ?_⟩
    have hKK : Keep (fun b => F b ∨ b = cb) w w4 := ((hKV.trans (Keep.of_below hb3)).mono (fun k h _ => Or.inl h)).then hK4 (fun i hi h => h)
    have hsb := hFl sb hS.own
    have hcl : cb < w.heap.size := ltB hcb
    have hsz4 := hK4.size
    have hF'c : ¬ F' cb := fun h => (hF4 cb h).elim hF (fun h => by omega)
    have em : feedM L c now bs = if (runL (passM L now) (c.waits ++ bs)).2.2.2 = 2 then ((runL (passM L now) (c.waits ++ bs)).1, ⟨[], true⟩, (runL (passM L now) (c.waits ++ bs)).2.1 ++ [⟨6, 0, 0⟩]) else ((runL (passM L now) (c.waits ++ bs)).1, ⟨(runL (passM L now) (c.waits ++ bs)).2.2.1, false⟩, (runL (passM L now) (c.waits ++ bs)).2.1) := by
      unfold feedM
      rw [if_neg (by rw [hb]; simp)]
      rfl
    have ed : feedD D L c now bs = runDL D (passM L now) (c.waits ++ bs) := by unfold feedD; rw [if_neg (by rw [hb]; simp)]
    have hFF : ∀ b, F' b → F b ∨ w.heap.size ≤ b := fun b h => (hF4 b h).imp id (fun h => by omega)
    have hown_set : ∀ v n xs, w4.ownsRow w3.heap.size 5 1 v n xs → (w4.setCell ⟨sb, 0, none⟩ (.int .i32 0)).ownsRow w.heap.size 5 1 v n xs := fun v n xs h => own_down (b := w3.heap.size) (by omega) (own_kept h (fun g hg => heapSetO (by have := (h.lt g hg).1; omega) _ _))
    rcases hpost with ⟨p1, p2, p3⟩ | ⟨p1, wv, p2, p3, p4, p5⟩
    · rw [if_pos p1] at em
      refine ⟨F', ?_, ⟨⟨.slice none 0 0, ?_, Or.inl ⟨by rw [em], Or.inl rfl⟩, fun g o n d h => by simp at h⟩, hF'c⟩, hFF, hKK.set (Or.inl (Or.inl hS.own)) _ _, ?_, ?_⟩
      · rw [em, ed]; exact hS4.lock 0
      · rw [em]; exact (heapSetO hne _ _).trans p2
      · rw [em]; exact hown_set _ _ _ p3
      · rw [em]
        intro g _ _ cw' hcw'
        rw [heapSetO hne, p2] at hcw'
        injection hcw' with hcw'
        injection hcw' with hcw' _ _
        simp at hcw'
        subst hcw'
        simp [Value.ownBlock]
    · rw [if_neg p1] at em
      refine ⟨F', ?_, ⟨⟨wv, ?_, ?_, fun g o n d h => ?_⟩, hF'c⟩, hFF, hKK.set (Or.inl (Or.inl hS.own)) _ _, ?_, ?_⟩
      · rw [em, ed]; exact hS4.lock 0
      · rw [em]; exact (heapSetO hne _ _).trans p2
      · rw [em]; exact Src.of_own (hown_set _ _ _ p3)
      · have hg : wv.ownBlock = some g := by rw [h]; rfl
        refine ⟨p4 g hg, fun e => ?_, ?_⟩
        · have := (p3.lt g hg).1
          omega
        · rw [World.size_setCell]; exact (p3.lt g hg).2
      · rw [em]; exact hown_set _ _ _ p5
      · rw [em]
        intro g hg _ cw' hcw' hown
        rw [heapSetO hne, p2] at hcw'
        injection hcw' with hcw'
        injection hcw' with hcw' _ _
        simp at hcw'
        subst hcw'
        have := (p3.lt g hown).1
        omega
end Go.Proofs.YtlcnkcgmjnfbiaaGreatDoor

namespace Go.Proofs.YtlcnkcgmjnfbiaaGreatDoor
open Go.RowKit Go.Maps
variable [dK] [iK]

/-- Server.do as Conn.read and Conn.Feed want it, given what a sweep does. -/
theorem srvDo (db : Nat) (blk st : Int) (sb : Nat) (hsw : ∀ g kk, Hid (Sweeps g db kk)) :
    Hid (∀ kk w1 D L F1 q, SrvK db blk D (kk + 4) w1 st sb L F1 → L.ok → q.ok → Calls Tryz.prog 111 #[.pointer (some ⟨sb, 0, none⟩), .agg #[.int .u8 q.op, .int .u8 q.k0, .int .u8 q.k1, .int .u8 q.k2, .int .u8 q.k3, .int .u8 q.k4, .int .u8 q.k5, .int .u8 q.k6, .int .u8 q.k7, .int .u8 q.kd, .int .u64 q.x, .int .u64 q.y, .int .u64 q.n]] w1 fun e w' => e = .returned (.agg #[.int .u8 (doM L q).2.c, .int .u64 (doM L q).2.a, .int .u64 (doM L q).2.b]) ∧ OutK db blk (doD D L q) kk w1 st sb (doM L q).1 F1 w') :=
  hide (fun kk w1 D L F1 q hS _ hq => by
    obtain ⟨c, hc, rfl, hb, hL⟩ := hS
    refine (do74 st sb db kk c F1 q w1 hL hc hq (hide (fun w2 h2 => snap115 st sb db kk c F1 w2 h2 hc (fun g => hsw g kk)))).mono ?_
    rintro e w' ⟨rfl, hO⟩
    exact ⟨rfl, hO.k hb⟩)

/-- Conn.Feed, given what a sweep does. -/
theorem feed31s (db : Nat) (blk D : Int) (k0 : Nat) (sb cb : Nat) (F : Nat → Prop) (L : Ld) (c : Cn) (vb : Value) (now : Int) (bs : List Int) (w : World) (hS : SrvK db blk D (4 * (c.waits.length + bs.length) + k0) w 0 sb L F) (h0 : 0 ≤ now) (h1 : now ≤ 18446744073709551615) (hC : ConnAt w sb cb c F) (hs : Src w vb bs) (hby : Bytes bs) (hbw : Bytes c.waits) (hlen : c.waits.length + bs.length ≤ 100000)
    (hvF : ∀ g o n d, vb = .slice (some ⟨g, o, none⟩) n d → ¬ F g) (hsw : ∀ g kk, Hid (Sweeps g db kk)) :
    Calls Tryz.prog 44 #[.pointer (some ⟨cb, 0, none⟩), .int .u64 now, vb] w fun e w' => ∃ rv, e = .returned rv ∧ FeedPost db blk D k0 sb cb F L c now bs w rv w' :=
  feed31 db blk D k0 sb cb F L c vb now bs w hS hS.lok h0 h1 hC hs hby hbw hlen hvF (srvDo db blk 1 sb hsw)
end Go.Proofs.YtlcnkcgmjnfbiaaGreatDoor

namespace Go.Proofs.YtlcnkcgmjnfbiaaGreatDoor
open Go.RowKit Go.Maps
variable [dK] [iK]

theorem methodRemove (h : Value) (w : World) : (Go.method 518 80 h "Remove").run Tryz.prog w = .ok (275, h) w := by kernel_rfl

set_option maxRecDepth 100000 in
set_option maxHeartbeats 2000000 in
/-- What a sweep does. -/
theorem sweep162 (g db k : Nat) : Sweeps g db k := by
  intro w t fsD fsN F ht hS hD hgF
  obtain ⟨mb, nb, l, f, m1, m2, m3, m4, m5, m6, m7, m8⟩ := hD.mem
  obtain ⟨T, hT⟩ : ∃ T, IntKind.u64.wrap (t - 1) = T := ⟨_, rfl⟩
  have hT0 : 0 ≤ T ∧ T ≤ 18446744073709551615 := by rw [← hT, IntKind.wrap_u64]; omega
  obtain ⟨x, hx⟩ : ∃ x, x = (T % 2 == 1) := ⟨_, rfl⟩
  have HNA := name_any T w hT0.1 hT0.2
  rw [← hx] at HNA
  have HNA := hide HNA
  have HNM := hide (names255 db nb _ _ _ _ fsN w m1 m3)
  have hgl := hS.lt
  have hdl := hD.lt db hD.own
  have hgd : g ≠ db := fun e => hgF (e ▸ hD.own)
  have hgm : g ≠ mb := fun e => hgF (e ▸ m6)
  have hgn : g ≠ nb := fun e => hgF (e ▸ m7)
  have hmd : mb ≠ db := m2.map.ne m1
  have hnd : nb ≠ db := m3.map.ne m1
  have a1 := hS.turn
  have a2 := hS.dsk
  have hmn := methodNames (.pointer (some ⟨db, 0, none⟩))
  have hmr := methodRemove (.pointer (some ⟨db, 0, none⟩))
  have hms := methodSync (.pointer (some ⟨db, 0, none⟩))
  have HM1 := hide m1
  have HM2 := hide m2
  have HM3 := hide m3
  have HM4 := hide (And.intro m4 m5)
  have HD := hide hD
  have HS := hide hS
  have HHT := hide ht
  have HX := hide (hx.trans (by rw [← hT]))
  clear m1 m2 m3 m4 m5 hD hS ht hx hT0
  go_enter Tryz.func185, Tryz.ntmps185
  go_wp2_with fail
  refine HNA.out.mono ?_
  rintro e w' ⟨rfl, he⟩
  have he' := he.symm
  clear he
  subst he'
  go_wp2_with fail
  refine HNM.out.mono ?_
  rintro e w1 ⟨v, bs, rfl, hbs, hnl, hnm, hb1⟩
  have HC := contains146 v bs x w1 hnm hnl
  obtain ⟨r, hr⟩ : ∃ r, r = bs.any (fun y => x == y) := ⟨_, rfl⟩
  rw [← hr] at HC
  have HC := hide HC
  have HBS := hide hbs
  have HR := hide hr
  have hS1 : StoAt w1 g db t := HS.out.kept (hb1.block g hgl)
  have hD1 : DskAt w1 db (k + 2) fsD fsN F := HD.out.kept hb1.size (fun b hb => hb1.block b (HD.out.lt b hb))
  have HS1 := hide hS1
  have HD1 := hide hD1
  have HB1 := hide hb1
  have b1 := hS1.dsk
  clear hbs hr hS1 hD1 hb1 hnm a1 a2 HNA HNM
  cases r
  · go_wp2_with (go_at_call 149; refine HC.out.mono ?_; rintro e w' ⟨rfl, he⟩; have he' := he.symm; clear he; subst he')
    go_ret
    exact ⟨rfl, t, fsD, fsN, F, ⟨HHT.out, rfl, Or.inl rfl⟩, HS1.out, HD1.out.less (by omega), fun b hb => Or.inl hb, Keep.of_below HB1.out⟩
  · have hin : (fndG x fsN).isSome = true := by
      refine (HBS.out x).1 ?_
      obtain ⟨y, hy, hxy⟩ := List.any_eq_true.1 HR.out.symm
      have : x = y := by simpa using hxy
      exact this ▸ hy
    have m1 := (HB1.out.block db hdl).trans HM1.out
    have m3 : DirAt w1 nb fsN := HM3.out.kept (HB1.out.block nb (HD.out.lt nb m7)) (fun p hp => HB1.out.block _ (HD.out.lt _ (HD.out.sN p hp)))
    have m2 : DirAt w1 mb fsD := HM2.out.kept (HB1.out.block mb (HD.out.lt mb m6)) (fun p hp => HB1.out.block _ (HD.out.lt _ (HD.out.sD p hp)))
    have h4 := HM4.out
    have HRM := hide (remove257 db nb (.map (some mb)) fsN x l f w1 m1 m3 (by omega) (by omega) hin)
    have HM21 := hide m2
    have HM31 := hide m3
    have HM11 := hide m1
    clear m1 m2 m3 h4
    go_wp2_with (first | (go_at_call 149; refine HC.out.mono ?_; rintro e w' ⟨rfl, he⟩; have he' := he.symm; clear he; subst he') | fail)
    refine HRM.out.mono ?_
    rintro e w2 ⟨rfl, pv, q1, q2, q3, q4⟩
    have hS2 : StoAt w2 g db t := HS1.out.kept (q4.block g HS1.out.lt (fun h => h.elim hgd hgn))
    have hM2 : DirAt w2 mb fsD := HM21.out.keep q4 (fun h => h.elim hmd m8) (fun p hp h => by
      have h1 := HM21.out.str p hp
      rcases h with h | h
      · rw [h, HM11.out] at h1; simp at h1
      · rw [h] at h1; exact HM31.out.map.ne h1 rfl)
    have h4 := HM4.out
    have HSY := hide (sync258d db mb w1.heap.size (.map (some nb)) pv fsD x ⟨#[]⟩ (l - 1) (f - 1) w2 q1 hM2 (by omega) (by omega) q3)
    have c1 := hS2.dsk
    have HS2 := hide hS2
    have HQ := hide (And.intro q1 (And.intro q2 q4))
    have HM22 := hide hM2
    clear q1 q2 q3 q4 hS2 hM2 h4 b1
    go_wp2_with fail
    refine HSY.out.mono ?_
    rintro e w3 ⟨rfl, gg, r1, r2, r3, r4⟩
    have HRR := hide (And.intro r1 (And.intro r3 r4))
    clear r1 r2 r3 r4
    go_wp2
    go_ret
    obtain ⟨r1, r3, r4⟩ := HRR.out
    obtain ⟨q1, q2, q4⟩ := HQ.out
    have h4 := HM4.out
    have hN3 : DirAt w3 nb (delG x fsN) := q2.keep r4 (fun h => h.elim hnd (fun e => m8 e.symm)) (fun p hp h => by
      have h1 := q2.str p hp
      rcases h with h | h
      · rw [h, q1] at h1; simp at h1
      · rw [h] at h1; exact HM22.out.map.ne h1 rfl)
    have s1 := HB1.out.size
    have s2 := q4.size
    have s3 := r4.size
    refine ⟨rfl, t, delG x fsD, delG x fsN, F, ⟨HHT.out, rfl, Or.inr (by rw [HX.out])⟩, HS2.out.kept (r4.block g HS2.out.lt (fun h => h.elim hgd hgm)), ⟨⟨mb, nb, l - 1 - 1, f - 1 - 1, r1, r3, hN3, by omega, by omega, m6, m7, m8⟩, fun p hp => HD.out.sD p (delG_sub.subset hp), fun p hp => HD.out.sN p (delG_sub.subset hp), HD.out.own, fun b hb => by have := HD.out.lt b hb; omega⟩, fun b hb => Or.inl hb, ?_⟩
    refine ((Keep.of_below HB1.out).then q4 (fun i _ h => ?_)).then r4 (fun i _ h => ?_)
    · rcases h with h | h
      · exact Or.inr (h ▸ HD.out.own)
      · exact Or.inr (h ▸ m7)
    · rcases h with h | h
      · exact Or.inr (h ▸ HD.out.own)
      · exact Or.inr (h ▸ m6)
theorem sweeps (g db k : Nat) : Hid (Sweeps g db k) := hide (sweep162 g db k)
end Go.Proofs.YtlcnkcgmjnfbiaaGreatDoor

namespace Go.Proofs.YtlcnkcgmjnfbiaaGreatDoor
open Go.RowKit Go.Maps
variable [dK] [iK]

theorem SrvK.dskF {db : Nat} {blk D : Int} {k : Nat} {w : World} {st : Int} {sb : Nat} {L : Ld} {F : Nat → Prop} (h : SrvK db blk D k w st sb L F) : F db := by
  obtain ⟨c, _, _, _, h⟩ := h
  obtain ⟨mp, g, FD, _, _, _, h4, h5, _⟩ := h.mem
  exact h5 db h4.own
theorem SrvK.dsk {db : Nat} {blk D : Int} {k : Nat} {w : World} {st : Int} {sb : Nat} {L : Ld} {F : Nat → Prop} (h : SrvK db blk D k w st sb L F) : ∃ mb nb l f, w.heap[db]? = some (.cells #[.map (some mb), .map (some nb), .slice none 0 0, .int .i64 l, .int .i64 f, .bool false] 84) := by
  obtain ⟨c, _, _, _, h⟩ := h
  obtain ⟨mp, g, FD, _, _, _, h4, _⟩ := h.mem
  obtain ⟨mb, nb, l, f, h1, _⟩ := h4.mem
  exact ⟨mb, nb, l, f, h1⟩
/-- The disk is told anew that it never goes down. -/
theorem SrvK.refill {db : Nat} {blk D : Int} {k : Nat} {w w' : World} {st : Int} {sb : Nat} {L : Ld} {F : Nat → Prop} (h : SrvK db blk D k w st sb L F) {mb nb : Nat} {l f : Int} (hd : w.heap[db]? = some (.cells #[.map (some mb), .map (some nb), .slice none 0 0, .int .i64 l, .int .i64 f, .bool false] 84))
    (hd' : w'.heap[db]? = some (.cells #[.map (some mb), .map (some nb), .slice none 0 0, .int .i64 (-1), .int .i64 (-1), .bool false] 84)) (hs : w.heap.size ≤ w'.heap.size) (hk : ∀ b, F b → b ≠ db → w'.heap[b]? = w.heap[b]?) : SrvK db blk D 4000000 w' st sb L F := by
  obtain ⟨c, k1, k2, k3, h⟩ := h
  obtain ⟨mp, g, FD, h1, h2, h3, h4, h5, h6, h7, h8, h9, h10, h11, h12, h13⟩ := h.mem
  obtain ⟨mb', nb', l', f', m1, m2, m3, m4, m5, m6, m7, m8⟩ := h4.mem
  rw [hd] at m1
  simp at m1
  obtain ⟨rfl, rfl, _, _⟩ := m1
  have ne : ∀ x, ¬ FD x → x ≠ db := fun x hx e => hx (e ▸ h4.own)
  have nm : mb ≠ db := m2.map.ne hd
  have nn : nb ≠ db := m3.map.ne hd
  have ns : ∀ (p : Bool × (Nat × ByteArray)), w.heap[p.2.1]? = some (.cells #[.string p.2.2] 9) → p.2.1 ≠ db := fun p hp e => by rw [e, hd] at hp; simp at hp
  exact ⟨c, k1, k2, k3, ⟨⟨mp, g, FD, (hk sb h.own (ne sb h11)).trans h1, MapG.kept h2 (hk mp h6 (ne mp h9)), h3.kept (hk g h7 (ne g h8)), ⟨⟨mb, nb, -1, -1, hd', m2.kept (hk mb (h5 _ m6) nm) (fun p hp => hk _ (h5 _ (h4.sD p hp)) (ns p (m2.str p hp))), m3.kept (hk nb (h5 _ m7) nn) (fun p hp => hk _ (h5 _ (h4.sN p hp)) (ns p (m3.str p hp))), by omega, by omega, m6, m7, m8⟩, h4.sD, h4.sN, h4.own, fun b hF => Nat.lt_of_lt_of_le (h4.lt b hF) hs⟩, h5, h6, h7, h8, h9, h10, h11, h12, h13⟩, h.own, fun b hF => Nat.lt_of_lt_of_le (h.lt b hF) hs⟩⟩
end Go.Proofs.YtlcnkcgmjnfbiaaGreatDoor

namespace Go.Proofs.YtlcnkcgmjnfbiaaGreatDoor
open Go.RowKit
variable [dK] [iK]

set_option maxRecDepth 100000 in
set_option maxHeartbeats 2000000 in
theorem hostopen16 (hb db nb mb : Nat) (sv cv : Value) (blk l f : Int) (w : World) (hblk : 0 ≤ blk ∧ blk ≤ 18446744073709551615) (hh : w.heap[hb]? = some (.cells #[.pointer (some ⟨db, 0, none⟩), sv, cv, .int .u64 blk] 88)) (hd : w.heap[db]? = some (.cells #[.map (some mb), .map (some nb), .slice none 0 0, .int .i64 l, .int .i64 f, .bool false] 84)) (hm : w.heap[mb]? = some (.map #[] 0)) (hn : w.heap[nb]? = some (.map #[] 0)) (hmn : mb ≠ nb) :
    Calls Tryz.prog 8 #[.pointer (some ⟨hb, 0, none⟩), .int .i64 (-1), .int .i64 (-1), .int .i64 0, .int .i64 0] w fun e w' => ∃ sb F, e = .returned (.int .i64 0) ∧ w.heap.size ≤ sb ∧ w'.heap[hb]? = some (.cells #[.pointer (some ⟨db, 0, none⟩), .pointer (some ⟨sb, 0, none⟩), .slice none 0 0, .int .u64 blk] 88) ∧ SrvK db blk 0 0 w' 0 sb ⟨0, 0, []⟩ F ∧ (∀ b, F b → b = db ∨ b = mb ∨ b = nb ∨ w.heap.size ≤ b) ∧ ¬ F hb ∧ Keep (fun b => b = hb ∨ b = db) w w' := by
  have lh := ltB hh
  have ld := ltB hd
  have hne : hb ≠ db := by
    intro e; subst e
    rw [hh] at hd; simp at hd
  have hnd : nb ≠ db := by
    intro e; subst e
    rw [hd] at hn; simp at hn
  have hmd : mb ≠ db := by
    intro e; subst e
    rw [hd] at hm; simp at hm
  have hmh : mb ≠ hb := by
    intro e; subst e
    rw [hh] at hm; simp at hm
  have hnh : nb ≠ hb := by
    intro e; subst e
    rw [hh] at hn; simp at hn
  obtain ⟨V, hV⟩ : ∃ V, V = ((w.setCell ⟨db, 3, none⟩ (.int .i64 (-1))).setCell ⟨db, 4, none⟩ (.int .i64 (-1))).drew := ⟨_, rfl⟩
  have hhV : V.heap[hb]? = some (.cells #[.pointer (some ⟨db, 0, none⟩), sv, cv, .int .u64 blk] 88) := by rw [hV, heapDrew, heapSetO hne, heapSetO hne]; exact hh
  have hdV : V.heap[db]? = some (.cells #[.map (some mb), .map (some nb), .slice none 0 0, .int .i64 (-1), .int .i64 (-1), .bool false] 84) := by rw [hV, heapDrew]; simpa using heapSet (heapSet hd 3 (.int .i64 (-1))) 4 (.int .i64 (-1))
  have hmV : V.heap[mb]? = some (.map #[] 0) := by rw [hV, heapDrew, heapSetO hmd, heapSetO hmd]; exact hm
  have hnV : V.heap[nb]? = some (.map #[] 0) := by rw [hV, heapDrew, heapSetO hnd, heapSetO hnd]; exact hn
  have hKV : Keep (fun b => b = hb ∨ b = db) w V := hV ▸ (Keep.set (S := fun b => b = hb ∨ b = db) (b := db) (Keep.set (S := fun b => b = hb ∨ b = db) (b := db) (Keep.refl _ w) (Or.inl (Or.inr rfl)) _ _) (Or.inl (Or.inr rfl)) _ _).drew
  have a0 := cellB hh 0
  have a1 := cellB hd
  have a2 := frozenB hd
  have n1 : ¬ hb = db := hne
  have n2 : ¬ db = hb := fun e => hne e.symm
  go_enter Tryz.func8, Tryz.ntmps8
  go_upto_region 1 with fail
  go_cut [] (fun wx => wx = V)
  case first =>
    go_region_held3 (fun w' => w'.cell? ⟨hb, 0, none⟩ = some (.pointer (some ⟨db, 0, none⟩))) (go_keep) (fail)
    all_goals (go_wp2_with fail; go_meet)
    all_goals exact hV.symm
  case rest =>
    subst hcut
    clear hV a0 a1 a2
    have hdD := (heapDrew _ db).trans hdV
    have hmD := (heapDrew _ mb).trans hmV
    have hnD := (heapDrew _ nb).trans hnV
    have b0 := cellB hhV 0
    have b3 := cellB hhV 3
    go_upto_region 2 with fail
    go_region_held3 (fun w' => w'.cell? ⟨hb, 0, none⟩ = some (.pointer (some ⟨db, 0, none⟩)) ∧ w'.cell? ⟨hb, 3, none⟩ = some (.int .u64 blk)) (first | go_keep | (exact ⟨cellB hh2 0, cellB hh2 3⟩))
      (first | (go_at_call 28; refine (open34 db mb nb blk _ hblk hdD (DirAt.empty hmD) (DirAt.empty hnD) hmn).mono ?_; rintro e w2 ⟨sb, F, rfl, hsb, hS2, hF2, hb2⟩; have hh2 := (hb2.block hb (ltB hhV)).trans hhV))
    have hsz2 := hb2.size
    have hszV := hKV.size
    have hd2 := (hb2.block db (ltB hdV)).trans hdV
    go_wp2_with fail
    refine (told_nil _).mono ?_
    rintro e w3 ⟨rfl, hb3⟩
    have hh3 := (hb3.block hb (ltB hh2)).trans hh2
    have hd3 := (hb3.block db (ltB hd2)).trans hd2
    have hS3 := hS2.below hb3 (Nat.le_refl _)
    have c1 := cellB hh3
    have c2 := frozenB hh3
    clear b0 b3
    go_wp2_with fail
    obtain ⟨U, hU⟩ : ∃ U, U = (w3.setCell ⟨hb, 1, none⟩ (.pointer (some ⟨sb, 0, none⟩))).setCell ⟨hb, 2, none⟩ (.slice none 0 0) := ⟨_, rfl⟩
    rw [← hU]
    have hhU : U.heap[hb]? = some (.cells #[.pointer (some ⟨db, 0, none⟩), .pointer (some ⟨sb, 0, none⟩), .slice none 0 0, .int .u64 blk] 88) := by rw [hU]; simpa using heapSet (heapSet hh3 1 (.pointer (some ⟨sb, 0, none⟩))) 2 (.slice none 0 0)
    have hdU : U.heap[db]? = some (.cells #[.map (some mb), .map (some nb), .slice none 0 0, .int .i64 (-1), .int .i64 (-1), .bool false] 84) := by rw [hU, heapSetO n2, heapSetO n2]; exact hd3
    have hFw : ∀ b, F b → b = db ∨ b = mb ∨ b = nb ∨ w.heap.size ≤ b := fun b h => (hF2 b h).imp id (fun h => h.imp id (fun h => h.imp id (fun h => Nat.le_trans hszV h)))
    have hFh : ∀ b, F b → b ≠ hb := fun b h e => by
      rcases hFw b h with h | h | h | h
      · exact n1 (e.symm.trans h)
      · exact hmh (h.symm.trans e)
      · exact hnh (h.symm.trans e)
      · omega
    have hSU : SrvK db blk 0 4000000 U 0 sb ⟨0, 0, []⟩ F := hS3.kept (by rw [hU]; simp) (fun b hb' => by rw [hU, heapSetO (hFh b hb'), heapSetO (hFh b hb')])
    have hKU : Keep (fun b => b = hb ∨ b = db) w U := by
      have k1 := (hKV.drew.trans (Keep.of_below hb2)).trans (Keep.of_below hb3)
      rw [hU]
      exact Keep.set (S := fun b => b = hb ∨ b = db) (b := hb) (Keep.set (S := fun b => b = hb ∨ b = db) (b := hb) k1 (Or.inl (Or.inl rfl)) _ _) (Or.inl (Or.inl rfl)) _ _
    clear hU c1 c2
    refine (after28 hb db (some mb) (some nb) _ _ _ _ (-1) (-1) 0 0 U hhU hdU).mono ?_
    rintro e w4 ⟨rfl, g1, g2⟩
    go_wp2
    go_ret
    refine ⟨sb, F, rfl, Nat.le_trans hszV hsb, (g2.block hb (ltB hhU) hne).trans hhU, (hSU.refill hdU g1 g2.size (fun b hF hne' => g2.block b (hSU.lt b hF) hne')).less (by omega), hFw, fun h => hFh hb h rfl, hKU.then g2 (fun i _ h => Or.inr h)⟩
end Go.Proofs.YtlcnkcgmjnfbiaaGreatDoor

namespace Go.Proofs.YtlcnkcgmjnfbiaaGreatDoor
open Go.RowKit
variable [dK] [iK]

/-- The blocks of a host. -/
def HG (hb db : Nat) (F : Nat → Prop) (cv : Value) (m : Nat) (cb : Nat → Nat) (b : Nat) : Prop := b = hb ∨ b = db ∨ F b ∨ cv.ownBlock = some b ∨ ∃ i, i < m ∧ b = cb i
/-- A host in memory: its disk, its ledger, its connections. -/
structure HostAt (w : World) (hb db _nb sb : Nat) (_mb : Option Nat) (blk D : Int) (L : Ld) (F : Nat → Prop) (B : Nat) (cv : Value) (m : Nat) (cb : Nat → Nat) (c : Nat → Cn) : Prop where
  hh : w.heap[hb]? = some (.cells #[.pointer (some ⟨db, 0, none⟩), .pointer (some ⟨sb, 0, none⟩), cv, .int .u64 blk] 88)
  hd : F db
  hs : SrvK db blk D 0 w 0 sb L F
  hc : ∀ i, i < m → ConnAt w sb (cb i) (c i) F
  hi : ∀ i j, i < m → j < m → cb i = cb j → i = j
  ho : w.ownsRow B 113 1 cv m (ptrs cb m)
  hF : ∀ g, (g = hb ∨ False ∨ cv.ownBlock = some g) → ¬ F g
  lo : ∀ b, HG hb db F cv m cb b → B ≤ b
  fr : ∀ i, m ≤ i → c i = ⟨[], false⟩

theorem Tryz.info76 : (Tryz.prog.info? 113).map (fun i => (i.zero, i.size, i.bytes)) = some (some (.pointer none), 1, 8) := by kernel_rfl

theorem connect25' (sb : Nat) (w : World) : Calls Tryz.prog 42 #[.pointer (some ⟨sb, 0, none⟩)] w fun e w' => e = .returned (.pointer (some ⟨w.heap.size, 0, none⟩)) ∧ w'.heap[w.heap.size]? = some (.cells #[.pointer (some ⟨sb, 0, none⟩), .slice none 0 0, .bool false] 156) ∧ w'.heap.size = w.heap.size + 1 ∧ Below w.heap.size w w' := by
  refine (connect25 sb w).mono ?_
  rintro e w' ⟨rfl, rfl⟩
  exact ⟨rfl, heapNew _ _, by simp, (Below.refl _ w).alloc (Nat.le_refl _) _⟩

/-- Connect in a region that draws. -/
theorem step_connect {ops : Array Oper} {o : Oper} {a : Act} {w : World} {K : Act → World → Prop} {Q : Exit → Act → World → Prop} {E : Prop} (hg : o.guard = none) (x : Operand)
    (hop : o.op = .call { callee := .value (.func 42), args := #[x], argTypes := #[85] }) (sb : Nat) (hx : a.eval x = .pointer (some ⟨sb, 0, none⟩))
    (hK : ∀ w', w'.heap[w.heap.size]? = some (.cells #[.pointer (some ⟨sb, 0, none⟩), .slice none 0 0, .bool false] 156) → w'.heap.size = w.heap.size + 1 → Below w.heap.size w w' → K (a.put o.dst (.pointer (some ⟨w.heap.size, 0, none⟩))) w') :
    if Region.wanted o (yielded ops a.tmps) = true then Oper.wp Tryz.prog o a w K Q else E := by
  have hw : Region.wanted o (yielded ops a.tmps) = true := by simp [Region.wanted, hg]
  rw [if_pos hw]
  have hr : (execOp a.eval o).run Tryz.prog w = .ok (.enter 42 #[.pointer (some ⟨sb, 0, none⟩)]) w := by
    simp [execOp, hop, resolve, invoke, go_sem]
    rw [← hx]
    cases x <;> simp [Act.eval]
  unfold Oper.wp
  rw [hr, Oper.upon_enter]
  refine (connect25' sb w).mono ?_
  rintro e w' ⟨rfl, h1, h2, h3⟩
  exact hK w' h1 h2 h3

/-- One connection more. -/
theorem HostAt.more {wr w2 w4 : World} {hb db nb sb : Nat} {mb : Option Nat} {blk D : Int} {L : Ld} {F : Nat → Prop} {B : Nat} {cv v5 : Value} {m : Nat} {cb : Nat → Nat} {c : Nat → Cn} {N : Nat} {ob : Obj} (H : HostAt wr hb db nb sb mb blk D L F B cv m cb c) (hq : ∀ i, c i = ⟨[], false⟩) (hN : N = wr.heap.size) (hBN : B ≤ N)
    (h2 : w2.heap[N]? = some (.cells #[.pointer (some ⟨sb, 0, none⟩), .slice none 0 0, .bool false] 156)) (hs2 : w2.heap.size = N + 1) (hb2 : Below N wr w2)
    (ho4 : w4.ownsRow B 113 1 v5 (m + 1) (ptrs cb m ++ [.pointer (some ⟨N, 0, none⟩)])) (hg4 : (w2.alloc ob).grownBy w4 cv.ownBlock) (hl4 : v5.ownBlock = cv.ownBlock ∨ v5.ownBlock = some (w2.alloc ob).heap.size) :
    HostAt (w4.setCell ⟨hb, 2, none⟩ v5) hb db nb sb mb blk D L F B v5 (m + 1) (fun i => if i = m then N else cb i) c ∧ Keep (HG hb db F cv m cb) wr (w4.setCell ⟨hb, 2, none⟩ v5) ∧ ∀ b, HG hb db F v5 (m + 1) (fun i => if i = m then N else cb i) b → HG hb db F cv m cb b ∨ N ≤ b := by
  have lh : hb < N := hN ▸ ltB H.hh
  have ld : db < N := hN ▸ H.hs.lt db H.hd
  have nhd : db ≠ hb := fun e => H.hF hb (Or.inl rfl) (e ▸ H.hd)
  have nh : cv.ownBlock ≠ some hb := fun e => own_neE H.ho e H.hh (by decide) rfl
  have nd : cv.ownBlock ≠ some db := fun e => H.hF db (Or.inr (Or.inr e)) H.hd
  have nN : cv.ownBlock ≠ some N := fun e => by have := (own_ltE H.ho e).2; omega
  have hA : (w2.alloc ob).heap.size = N + 2 := by rw [World.size_alloc, hs2]
  have X4 : ∀ k, k < N → cv.ownBlock ≠ some k → w4.heap[k]? = wr.heap[k]? := fun k hk hne =>
    ((hg4.block k (by omega) (fun e => hne e.symm)).trans (heapOld w2 ob (by omega))).trans (hb2.block k hk)
  have X : ∀ k, k < N → k ≠ hb → cv.ownBlock ≠ some k → (w4.setCell ⟨hb, 2, none⟩ v5).heap[k]? = wr.heap[k]? := fun k hk h1 hne => (heapSetO h1 _ _).trans (X4 k hk hne)
  have hh4 := (X4 hb lh nh).trans H.hh
  have hsz4 : N + 2 ≤ w4.heap.size := hA ▸ hg4.size
  have hcn : ∀ i, i < m → cb i < N ∧ cb i ≠ hb ∧ cv.ownBlock ≠ some (cb i) := fun i hi => by
    obtain ⟨cw, g1, _⟩ := (H.hc i hi).mem
    refine ⟨hN ▸ ltB g1, fun e => ?_, fun e => own_neE H.ho e g1 (by decide) rfl⟩
    rw [e, H.hh] at g1
    simp at g1
  have hFN : ∀ b, F b → b < N := fun b h => hN ▸ H.hs.lt b h
  have hsz : wr.heap.size ≤ (w4.setCell ⟨hb, 2, none⟩ v5).heap.size := by rw [World.size_setCell]; omega
  refine ⟨⟨by simpa using heapSet hh4 2 v5, H.hd, H.hs.kept hsz (fun b hF => X b (hFN b hF) (fun e => H.hF hb (Or.inl rfl) (e ▸ hF)) (fun e => H.hF b (Or.inr (Or.inr e)) hF)), fun i hi => ?_, fun i j hi hj e => ?_, ?_, fun g hg hFg => ?_, fun b hb' => ?_, fun i hi => H.fr i (by omega)⟩, ⟨hg4.os.trans hb2.os, hg4.tape.trans hb2.tape, hg4.output.trans hb2.output, hsz, fun k hk hG => X k (by omega) (fun e => hG (Or.inl e)) (fun e => hG (Or.inr (Or.inr (Or.inr (Or.inl e)))))⟩, fun b hb' => ?_⟩
  · by_cases him : i = m
    · subst him
      rw [if_pos rfl]
      refine ⟨⟨.slice none 0 0, ?_, Or.inl ⟨by rw [hq i], Or.inl rfl⟩, fun g o n d h => by simp at h⟩, fun h => by have := hFN _ h; omega⟩
      rw [heapSetO (by omega), hg4.block N (by omega) (fun e => nN e.symm), heapOld w2 ob (by omega), h2, hq i]
    · rw [if_neg him]
      obtain ⟨c1, c2, c3⟩ := hcn i (by omega)
      obtain ⟨⟨cw, g1, g2, g3⟩, g4⟩ := H.hc i (by omega)
      refine ⟨⟨cw, (X _ c1 c2 c3).trans g1, ?_, fun g o n d h => ⟨(g3 g o n d h).1, (g3 g o n d h).2.1, Nat.lt_of_lt_of_le (g3 g o n d h).2.2 hsz⟩⟩, g4⟩
      rw [hq i] at g2 ⊢
      rcases g2 with g2 | ⟨g2, _⟩
      · exact Or.inl g2
      · simp at g2
  · by_cases h1 : i = m
    · by_cases h2 : j = m
      · omega
      · rw [if_pos h1, if_neg h2] at e
        have := (hcn j (by omega)).1
        omega
    · by_cases h2 : j = m
      · rw [if_neg h1, if_pos h2] at e
        have := (hcn i (by omega)).1
        omega
      · rw [if_neg h1, if_neg h2] at e
        exact H.hi i j (by omega) (by omega) e
  · have e : ptrs (fun i => if i = m then N else cb i) (m + 1) = ptrs cb m ++ [.pointer (some ⟨N, 0, none⟩)] := by
      unfold ptrs
      rw [List.range_succ, List.map_append]
      congr 1
      · apply List.map_congr_left
        intro i hi
        have := List.mem_range.1 hi
        show Value.pointer (some ⟨if i = m then N else cb i, 0, none⟩) = _
        rw [if_neg (by omega)]
      · simp
    rw [e]
    exact own_keptE ho4 (fun g hg => heapSetO (own_neE ho4 hg hh4 (by decide)) _ _)
  · rcases hg with h | h | h
    · exact H.hF g (Or.inl h) hFg
    · exact H.hF g (Or.inr (Or.inl h)) hFg
    · rcases hl4 with h4 | h4
      · exact H.hF g (Or.inr (Or.inr (h4 ▸ h))) hFg
      · rw [h4, hA] at h
        injection h with h
        have := hFN g hFg
        omega
  · rcases hb' with h | h | h | h | ⟨i, hi, h⟩
    · exact H.lo b (Or.inl h)
    · exact H.lo b (Or.inr (Or.inl h))
    · exact H.lo b (Or.inr (Or.inr (Or.inl h)))
    · exact (own_ltE ho4 h).1
    · dsimp only at h
      split at h
      · omega
      · exact H.lo b (Or.inr (Or.inr (Or.inr (Or.inr ⟨i, by omega, h⟩))))
  · rcases hb' with h | h | h | h | ⟨i, hi, h⟩
    · exact Or.inl (Or.inl h)
    · exact Or.inl (Or.inr (Or.inl h))
    · exact Or.inl (Or.inr (Or.inr (Or.inl h)))
    · rcases hl4 with h4 | h4
      · exact Or.inl (Or.inr (Or.inr (Or.inr (Or.inl (h4 ▸ h)))))
      · rw [h4, hA] at h
        injection h with h
        exact Or.inr (by omega)
    · dsimp only at h
      split at h
      · exact Or.inr (by omega)
      · exact Or.inl (Or.inr (Or.inr (Or.inr (Or.inr ⟨i, by omega, h⟩))))

theorem HostAt.kept {w w' : World} {hb db nb sb : Nat} {mb : Option Nat} {blk D : Int} {L : Ld} {F : Nat → Prop} {B : Nat} {cv : Value} {m : Nat} {cb : Nat → Nat} {c : Nat → Cn} (H : HostAt w hb db nb sb mb blk D L F B cv m cb c) (hs : w.heap.size ≤ w'.heap.size) (hk : ∀ k, k < w.heap.size → w'.heap[k]? = w.heap[k]?) : HostAt w' hb db nb sb mb blk D L F B cv m cb c := by
  refine ⟨(hk hb (ltB H.hh)).trans H.hh, H.hd, H.hs.kept hs (fun b hF => hk b (H.hs.lt b hF)), fun i hi => ?_, H.hi, own_keptE H.ho (fun g hg => hk g (own_ltE H.ho hg).2), H.hF, H.lo, H.fr⟩
  obtain ⟨⟨cw, g1, g2, g3⟩, g4⟩ := H.hc i hi
  exact ⟨⟨cw, (hk _ (ltB g1)).trans g1, g2.kept hs (fun g o n d _ hg => hk g hg), fun g o n d h => ⟨(g3 g o n d h).1, (g3 g o n d h).2.1, Nat.lt_of_lt_of_le (g3 g o n d h).2.2 hs⟩⟩, g4⟩
/-- A host whose connections wait for nothing, its own blocks kept. -/
theorem HostAt.quiet {w w' : World} {hb db nb sb : Nat} {mb : Option Nat} {blk D : Int} {L : Ld} {F : Nat → Prop} {B : Nat} {cv : Value} {m : Nat} {cb : Nat → Nat} {c : Nat → Cn} (H : HostAt w hb db nb sb mb blk D L F B cv m cb c) (hq : ∀ i, (c i).waits = []) (hs : w.heap.size ≤ w'.heap.size) (hk : ∀ k, HG hb db F cv m cb k → w'.heap[k]? = w.heap[k]?) : HostAt w' hb db nb sb mb blk D L F B cv m cb c := by
  refine ⟨(hk hb (Or.inl rfl)).trans H.hh, H.hd, H.hs.kept hs (fun b hF => hk b (Or.inr (Or.inr (Or.inl hF)))), fun i hi => ?_, H.hi, own_keptE H.ho (fun g hg => hk g (Or.inr (Or.inr (Or.inr (Or.inl hg))))), H.hF, H.lo, H.fr⟩
  obtain ⟨⟨cw, g1, g2, g3⟩, g4⟩ := H.hc i hi
  refine ⟨⟨cw, (hk _ (Or.inr (Or.inr (Or.inr (Or.inr ⟨i, hi, rfl⟩))))).trans g1, ?_, fun g o n d h => ⟨(g3 g o n d h).1, (g3 g o n d h).2.1, Nat.lt_of_lt_of_le (g3 g o n d h).2.2 hs⟩⟩, g4⟩
  rw [hq i] at g2 ⊢
  rcases g2 with g2 | ⟨g2, _⟩
  · exact Or.inl g2
  · simp at g2
theorem HostAt.lt {w : World} {hb db nb sb : Nat} {mb : Option Nat} {blk D : Int} {L : Ld} {F : Nat → Prop} {B : Nat} {cv : Value} {m : Nat} {cb : Nat → Nat} {c : Nat → Cn} (H : HostAt w hb db nb sb mb blk D L F B cv m cb c) (b : Nat) (h : HG hb db F cv m cb b) : b < w.heap.size := by
  rcases h with rfl | rfl | h | h | ⟨i, hi, rfl⟩
  · exact ltB H.hh
  · exact H.hs.lt _ H.hd
  · exact H.hs.lt b h
  · exact (own_ltE H.ho h).2
  · exact ltB (H.hc i hi).mem.choose_spec.1

/-- No connection's waiting bytes lie in this block. -/
def WaitN (w : World) (sb m : Nat) (cb : Nat → Nat) (c : Nat → Cn) (g : Nat) : Prop := ∀ j, j < m → ∀ cw, w.heap[cb j]? = some (.cells #[.pointer (some ⟨sb, 0, none⟩), cw, .bool (c j).bad] 156) → cw.ownBlock ≠ some g
/-- What a feeding leaves of a host. -/
theorem HostAt.fed {w w' : World} {hb db nb sb : Nat} {mb : Option Nat} {blk D : Int} {L : Ld} {F : Nat → Prop} {B : Nat} {cv rv : Value} {cb : Nat → Nat} {c : Nat → Cn} {now : Int} {bs : List Int} (H : HostAt w hb db nb sb mb blk D L F B cv 3 cb c) (hB : B ≤ w.heap.size) (i : Nat) (hi : i < 3) (P : FeedPost db blk D 0 sb (cb i) F L (c i) now bs w rv w') :
    ∃ F', HostAt w' hb db nb sb mb blk (feedD D L (c i) now bs) (feedM L (c i) now bs).1 F' B cv 3 cb (fun j => if j = i then (feedM L (c i) now bs).2.1 else c j) ∧ Keep (HG hb db F cv 3 cb) w w' ∧ (∀ b, HG hb db F' cv 3 cb b → HG hb db F cv 3 cb b ∨ w.heap.size ≤ b) ∧ w'.ownsRow w.heap.size 5 1 rv (encs (feedM L (c i) now bs).2.2).length ((encs (feedM L (c i) now bs).2.2).map (Value.int .u8)) ∧ (∀ g, g < w.heap.size → WaitN w sb 3 cb c g → WaitN w' sb 3 cb (fun j => if j = i then (feedM L (c i) now bs).2.1 else c j) g) := by
  obtain ⟨F', s1, s2, s3, s4, s5, s6⟩ := P
  obtain ⟨ci, q1, q2, q3⟩ := (H.hc i hi).mem
  obtain ⟨xi, di, ei⟩ := q2.shape
  have hs := s4.size
  have X : ∀ k, k < w.heap.size → ¬ F k → k ≠ cb i → w'.heap[k]? = w.heap[k]? := fun k hk h1 h2 => s4.block k hk (fun h => h.elim h1 h2)
  have nh : hb ≠ cb i := by
    intro e
    rw [← e, H.hh] at q1
    simp at q1
  have hF' : ∀ k, k < w.heap.size → ¬ F k → ¬ F' k := fun k hk h1 h => (s3 k h).elim h1 (fun h => by omega)
  refine ⟨F', ⟨(X hb (ltB H.hh) (H.hF hb (Or.inl rfl)) nh).trans H.hh, s1.dskF, s1, fun j hj => ?_, H.hi, ?_, fun g hg => ?_, fun b hb' => ?_, fun j hj => ?_⟩, s4.mono (fun k h _ => ?_), fun b h => ?_, s5, fun g hg hw j hj cw' hcw' => ?_⟩
  · by_cases e : j = i
    · rw [if_pos e, e]
      exact s2
    · rw [if_neg e]
      obtain ⟨⟨cw, g1, g2, g3⟩, g4⟩ := H.hc j hj
      have hne : cb j ≠ cb i := fun h => e (H.hi j i hj hi h)
      refine ⟨⟨cw, (X _ (ltB g1) g4 hne).trans g1, ?_, fun g o n d h => ⟨hF' g (g3 g o n d h).2.2 (g3 g o n d h).1, (g3 g o n d h).2.1, Nat.lt_of_lt_of_le (g3 g o n d h).2.2 hs⟩⟩, hF' _ (ltB g1) g4⟩
      rcases g2 with g2 | ⟨h1, sg, so, cap, hv, h2, h3⟩
      · exact Or.inl g2
      · refine Or.inr ⟨h1, sg, so, cap, hv, Nat.lt_of_lt_of_le h2 hs, fun z u hz => ?_⟩
        have hgi : sg ≠ cb i := by
          intro e'
          have hl : 0 < (c j).waits.length := h1
          have h0 := h3 0 (.int .u8 ((c j).waits[0])) (by simp [hl])
          rw [e', cellB q1, ei] at h0
          rw [Nat.add_zero] at h0
          match so, h0 with
          | 0, h0 => simp at h0
          | 1, h0 => simp at h0
          | 2, h0 => simp at h0
          | n + 3, h0 => simp at h0
        exact (World.cell?_of_block (w := w) (X sg h2 (g3 sg so _ _ hv).1 hgi)).trans (h3 z u hz)
  · exact own_keptE H.ho (fun g hg => X g (own_ltE H.ho hg).2 (H.hF g (Or.inr (Or.inr hg))) (own_neE H.ho hg q1 (by decide)))
  · refine hF' g ?_ (H.hF g hg)
    rcases hg with rfl | h | h
    · exact ltB H.hh
    · exact h.elim
    · exact (own_ltE H.ho h).2
  · rcases hb' with h | h | h | h | h
    · exact H.lo b (Or.inl h)
    · exact H.lo b (Or.inr (Or.inl h))
    · rcases s3 b h with h | h
      · exact H.lo b (Or.inr (Or.inr (Or.inl h)))
      · omega
    · exact H.lo b (Or.inr (Or.inr (Or.inr (Or.inl h))))
    · exact H.lo b (Or.inr (Or.inr (Or.inr (Or.inr h))))
  · rw [if_neg (by omega)]
    exact H.fr j hj
  · rcases h with h | h
    · exact Or.inr (Or.inr (Or.inl h))
    · exact Or.inr (Or.inr (Or.inr (Or.inr ⟨i, hi, h⟩)))
  · rcases h with h | h | h | h | h
    · exact Or.inl (Or.inl h)
    · exact Or.inl (Or.inr (Or.inl h))
    · rcases s3 b h with h | h
      · exact Or.inl (Or.inr (Or.inr (Or.inl h)))
      · exact Or.inr h
    · exact Or.inl (Or.inr (Or.inr (Or.inr (Or.inl h))))
    · exact Or.inl (Or.inr (Or.inr (Or.inr (Or.inr h))))
  · dsimp only at hcw'
    by_cases e : j = i
    · rw [if_pos e, e] at hcw'
      exact s6 g hg (hw i hi) cw' hcw'
    · rw [if_neg e] at hcw'
      have hm := (H.hc j hj)
      refine hw j hj cw' ((X _ (ltB hm.mem.choose_spec.1) hm.nF (fun h => e (H.hi j i hj hi h))).symm.trans hcw')
/-- Bytes that no connection keeps are written into. -/
theorem HostAt.keptE {w w' : World} {hb db nb sb : Nat} {mb : Option Nat} {blk D : Int} {L : Ld} {F : Nat → Prop} {B : Nat} {cv : Value} {m : Nat} {cb : Nat → Nat} {c : Nat → Cn} (H : HostAt w hb db nb sb mb blk D L F B cv m cb c) (wb : Nat) (hn : ¬ HG hb db F cv m cb wb) (hw : WaitN w sb m cb c wb) (hs : w.heap.size ≤ w'.heap.size) (hk : ∀ k, k < w.heap.size → k ≠ wb → w'.heap[k]? = w.heap[k]?) : HostAt w' hb db nb sb mb blk D L F B cv m cb c := by
  have hne : ∀ k, HG hb db F cv m cb k → k ≠ wb := fun k h e => hn (e ▸ h)
  refine ⟨(hk hb (ltB H.hh) (hne hb (Or.inl rfl))).trans H.hh, H.hd, H.hs.kept hs (fun b hF => hk b (H.hs.lt b hF) (hne b (Or.inr (Or.inr (Or.inl hF))))), fun i hi => ?_, H.hi, own_keptE H.ho (fun g hg => hk g (own_ltE H.ho hg).2 (hne g (Or.inr (Or.inr (Or.inr (Or.inl hg)))))), H.hF, H.lo, H.fr⟩
  obtain ⟨⟨cw, g1, g2, g3⟩, g4⟩ := H.hc i hi
  exact ⟨⟨cw, (hk _ (ltB g1) (hne _ (Or.inr (Or.inr (Or.inr (Or.inr ⟨i, hi, rfl⟩)))))).trans g1, g2.kept hs (fun g o n d e hg => hk g hg (fun e' => hw i hi cw g1 (by rw [e, e']; rfl))), fun g o n d h => ⟨(g3 g o n d h).1, (g3 g o n d h).2.1, Nat.lt_of_lt_of_le (g3 g o n d h).2.2 hs⟩⟩, g4⟩
/-- A host whose disk is told anew that it never goes down. -/
theorem HostAt.refill {w w' : World} {hb db nb sb : Nat} {mb : Option Nat} {blk D : Int} {L : Ld} {F : Nat → Prop} {B : Nat} {cv : Value} {m : Nat} {cb : Nat → Nat} {c : Nat → Cn} (H : HostAt w hb db nb sb mb blk D L F B cv m cb c) {ma na : Nat} {l f : Int} (hd : w.heap[db]? = some (.cells #[.map (some ma), .map (some na), .slice none 0 0, .int .i64 l, .int .i64 f, .bool false] 84))
    (hd' : w'.heap[db]? = some (.cells #[.map (some ma), .map (some na), .slice none 0 0, .int .i64 (-1), .int .i64 (-1), .bool false] 84)) (hs : w.heap.size ≤ w'.heap.size) (hk : ∀ k, k < w.heap.size → k ≠ db → w'.heap[k]? = w.heap[k]?) : HostAt w' hb db nb sb mb blk D L F B cv m cb c ∧ SrvK db blk D 4000000 w' 0 sb L F := by
  have hS := H.hs.refill hd hd' hs (fun b hF hne => hk b (H.hs.lt b hF) hne)
  refine ⟨⟨(hk hb (ltB H.hh) (fun e => H.hF hb (Or.inl rfl) (e ▸ H.hd))).trans H.hh, H.hd, hS.less (by omega), fun i hi => ?_, H.hi, own_keptE H.ho (fun g hg => hk g (own_ltE H.ho hg).2 (fun e => H.hF g (Or.inr (Or.inr hg)) (e ▸ H.hd))), H.hF, H.lo, H.fr⟩, hS⟩
  obtain ⟨⟨cw, g1, g2, g3⟩, g4⟩ := H.hc i hi
  exact ⟨⟨cw, (hk _ (ltB g1) (fun e => g4 (e ▸ H.hd))).trans g1, g2.kept hs (fun g o n d e hg => hk g hg (fun e' => (g3 g o n d e).1 (e' ▸ H.hd))), fun g o n d h => ⟨(g3 g o n d h).1, (g3 g o n d h).2.1, Nat.lt_of_lt_of_le (g3 g o n d h).2.2 hs⟩⟩, g4⟩
end Go.Proofs.YtlcnkcgmjnfbiaaGreatDoor

namespace Go.Proofs.YtlcnkcgmjnfbiaaGreatDoor
open Go.RowKit Go.Maps
variable [dK] [iK]

/-- Open over what a ledger left, whatever that is. -/
theorem open_any (db mb nb : Nat) (blk D : Int) (c0 : Led) (w : World) (hc : c0.ok) (hD : c0.has D) (hblk : c0.blk = blk) (hd : w.heap[db]? = some (.cells #[.map (some mb), .map (some nb), .slice none 0 0, .int .i64 (-1), .int .i64 (-1), .bool false] 84)) (hM : DirAt w mb c0.fsD) (hN : DirAt w nb c0.fsD) (hmn : mb ≠ nb) :
    Calls Tryz.prog 28 #[.iface 80 (.pointer (some ⟨db, 0, none⟩)), .int .u64 blk] w fun e w' => ∃ sb L' F, e = .returned (.tuple #[.pointer (some ⟨sb, 0, none⟩), .nilIface]) ∧ w.heap.size ≤ sb ∧ SrvK db blk L'.time 3999999 w' 0 sb L' F ∧ (Rec blk c0.ld L' ∧ D ≤ L'.time) ∧ (∀ b, F b → b = db ∨ b = mb ∨ b = nb ∨ (∃ p ∈ c0.fsD, b = p.2.1) ∨ w.heap.size ≤ b) ∧ Keep (fun c => c = db) w w' := by
  by_cases hne : c0.fsD ≠ [] ∨ c0.es ≠ []
  · exact open34f db mb nb blk D c0 w hc hD hblk hne hd hM hN hmn
  · have e1 : c0.fsD = [] := Decidable.byContradiction fun h => hne (Or.inl h)
    have e2 : c0.es = [] := by
      cases h : c0.es with
      | nil => rfl
      | cons x r => exact absurd (Or.inr (by rw [h]; simp)) hne
    rw [e1] at hM hN ⊢
    refine (open34 db mb nb blk w (hblk ▸ hc.blk) hd hM hN hmn).mono ?_
    rintro e w' ⟨sb, F, rfl, h1, h2, h3, h4⟩
    refine ⟨sb, ⟨0, 0, []⟩, F, rfl, h1, h2.less (by omega), ⟨⟨hc.time.1, rfl, fun _ _ => rfl, fun k z hz => ?_⟩, ?_⟩, fun b hb => ?_, Keep.of_below h4⟩
    · have : c0.ld.ks = [] := by show stands c0.es = []; rw [e2]; rfl
      rw [this] at hz
      simp [fnd] at hz
    · show D ≤ 0
      rcases hD.img with ⟨_, _, h⟩ | ⟨tm, ks, a, _, _, _, h4, _⟩
      · exact h
      · rw [e1] at h4
        simp [fndG] at h4
    · rcases h3 b hb with h | h | h | h
      · exact Or.inl h
      · exact Or.inr (Or.inl h)
      · exact Or.inr (Or.inr (Or.inl h))
      · exact Or.inr (Or.inr (Or.inr (Or.inr h)))

set_option maxRecDepth 100000 in
set_option maxHeartbeats 2000000 in
theorem hostopen16f (hb db nb mb : Nat) (sv cv : Value) (blk D l f : Int) (c0 : Led) (w : World) (hc : c0.ok) (hD : c0.has D) (hblk : c0.blk = blk) (hh : w.heap[hb]? = some (.cells #[.pointer (some ⟨db, 0, none⟩), sv, cv, .int .u64 blk] 88)) (hd : w.heap[db]? = some (.cells #[.map (some mb), .map (some nb), .slice none 0 0, .int .i64 l, .int .i64 f, .bool false] 84)) (hm : DirAt w mb c0.fsD) (hn : DirAt w nb c0.fsD) (hmn : mb ≠ nb) :
    Calls Tryz.prog 8 #[.pointer (some ⟨hb, 0, none⟩), .int .i64 (-1), .int .i64 (-1), .int .i64 0, .int .i64 0] w fun e w' => ∃ sb L' F, e = .returned (.int .i64 0) ∧ w.heap.size ≤ sb ∧ w'.heap[hb]? = some (.cells #[.pointer (some ⟨db, 0, none⟩), .pointer (some ⟨sb, 0, none⟩), .slice none 0 0, .int .u64 blk] 88) ∧ SrvK db blk L'.time 0 w' 0 sb L' F ∧ (Rec blk c0.ld L' ∧ D ≤ L'.time) ∧ (∀ b, F b → b = db ∨ b = mb ∨ b = nb ∨ (∃ p ∈ c0.fsD, b = p.2.1) ∨ w.heap.size ≤ b) ∧ ¬ F hb ∧ Keep (fun b => b = hb ∨ b = db) w w' := by
  have lh := ltB hh
  have ld := ltB hd
  have hne : hb ≠ db := by
    intro e; subst e
    rw [hh] at hd; simp at hd
  have hnd : nb ≠ db := hn.map.ne hd
  have hmd : mb ≠ db := hm.map.ne hd
  have hmh : mb ≠ hb := hm.map.ne hh
  have hnh : nb ≠ hb := hn.map.ne hh
  have hph : ∀ p ∈ c0.fsD, p.2.1 ≠ hb ∧ p.2.1 ≠ db := fun p hp => ⟨fun e => by have := hm.str p hp; rw [e, hh] at this; simp at this, fun e => by have := hm.str p hp; rw [e, hd] at this; simp at this⟩
  obtain ⟨V, hV⟩ : ∃ V, V = ((w.setCell ⟨db, 3, none⟩ (.int .i64 (-1))).setCell ⟨db, 4, none⟩ (.int .i64 (-1))).drew := ⟨_, rfl⟩
  have hhV : V.heap[hb]? = some (.cells #[.pointer (some ⟨db, 0, none⟩), sv, cv, .int .u64 blk] 88) := by rw [hV, heapDrew, heapSetO hne, heapSetO hne]; exact hh
  have hdV : V.heap[db]? = some (.cells #[.map (some mb), .map (some nb), .slice none 0 0, .int .i64 (-1), .int .i64 (-1), .bool false] 84) := by rw [hV, heapDrew]; simpa using heapSet (heapSet hd 3 (.int .i64 (-1))) 4 (.int .i64 (-1))
  have oV : ∀ x, x ≠ db → V.heap[x]? = w.heap[x]? := fun x hx => by rw [hV, heapDrew, heapSetO hx, heapSetO hx]
  have hmV : DirAt V mb c0.fsD := hm.kept (oV mb hmd) (fun p hp => oV _ (hph p hp).2)
  have hnV : DirAt V nb c0.fsD := hn.kept (oV nb hnd) (fun p hp => oV _ (hph p hp).2)
  have hKV : Keep (fun b => b = hb ∨ b = db) w V := hV ▸ (Keep.set (S := fun b => b = hb ∨ b = db) (b := db) (Keep.set (S := fun b => b = hb ∨ b = db) (b := db) (Keep.refl _ w) (Or.inl (Or.inr rfl)) _ _) (Or.inl (Or.inr rfl)) _ _).drew
  have a0 := cellB hh 0
  have a1 := cellB hd
  have a2 := frozenB hd
  have n1 : ¬ hb = db := hne
  have n2 : ¬ db = hb := fun e => hne e.symm
  go_enter Tryz.func8, Tryz.ntmps8
  go_upto_region 1 with fail
  go_cut [] (fun wx => wx = V)
  case first =>
    go_region_held3 (fun w' => w'.cell? ⟨hb, 0, none⟩ = some (.pointer (some ⟨db, 0, none⟩))) (go_keep) (fail)
    all_goals (go_wp2_with fail; go_meet)
    all_goals exact hV.symm
  case rest =>
    subst hcut
    clear hV a0 a1 a2
    have hdD := (heapDrew _ db).trans hdV
    have hmD : DirAt wc.drew mb c0.fsD := hmV.kept rfl (fun _ _ => rfl)
    have hnD : DirAt wc.drew nb c0.fsD := hnV.kept rfl (fun _ _ => rfl)
    have b0 := cellB hhV 0
    have b3 := cellB hhV 3
    go_upto_region 2 with fail
    go_region_held3 (fun w' => w'.cell? ⟨hb, 0, none⟩ = some (.pointer (some ⟨db, 0, none⟩)) ∧ w'.cell? ⟨hb, 3, none⟩ = some (.int .u64 blk)) (first | go_keep | (exact ⟨cellB hh2 0, cellB hh2 3⟩))
      (first | (go_at_call 28; refine (open_any db mb nb blk D c0 _ hc hD hblk hdD hmD hnD hmn).mono ?_; rintro e w2 ⟨sb, L', F, rfl, hsb, hS2, hRec, hF2, hb2⟩; have hh2 := (hb2.block hb (ltB hhV) hne).trans hhV))
    have hsz2 := hb2.size
    have hszV := hKV.size
    obtain ⟨ma, na, l2, f2, hd2⟩ := hS2.dsk
    go_wp2_with fail
    refine (told_nil _).mono ?_
    rintro e w3 ⟨rfl, hb3⟩
    have hh3 := (hb3.block hb (ltB hh2)).trans hh2
    have hd3 := (hb3.block db (ltB hd2)).trans hd2
    have hS3 := hS2.below hb3 (Nat.le_refl _)
    have c1 := cellB hh3
    have c2 := frozenB hh3
    clear b0 b3
    go_wp2_with fail
    obtain ⟨U, hU⟩ : ∃ U, U = (w3.setCell ⟨hb, 1, none⟩ (.pointer (some ⟨sb, 0, none⟩))).setCell ⟨hb, 2, none⟩ (.slice none 0 0) := ⟨_, rfl⟩
    rw [← hU]
    have hhU : U.heap[hb]? = some (.cells #[.pointer (some ⟨db, 0, none⟩), .pointer (some ⟨sb, 0, none⟩), .slice none 0 0, .int .u64 blk] 88) := by rw [hU]; simpa using heapSet (heapSet hh3 1 (.pointer (some ⟨sb, 0, none⟩))) 2 (.slice none 0 0)
    have hdU : U.heap[db]? = some (.cells #[.map (some ma), .map (some na), .slice none 0 0, .int .i64 l2, .int .i64 f2, .bool false] 84) := by rw [hU, heapSetO n2, heapSetO n2]; exact hd3
    have hFw : ∀ b, F b → b = db ∨ b = mb ∨ b = nb ∨ (∃ p ∈ c0.fsD, b = p.2.1) ∨ w.heap.size ≤ b := fun b h => (hF2 b h).imp id (fun h => h.imp id (fun h => h.imp id (fun h => h.imp id (fun h => Nat.le_trans hszV h))))
    have hFh : ∀ b, F b → b ≠ hb := fun b h e => by
      rcases hFw b h with h | h | h | ⟨p, hp, h⟩ | h
      · exact n1 (e.symm.trans h)
      · exact hmh (h.symm.trans e)
      · exact hnh (h.symm.trans e)
      · exact (hph p hp).1 (h.symm.trans e)
      · omega
    have hSU : SrvK db blk L'.time 3999999 U 0 sb L' F := hS3.kept (by rw [hU]; simp) (fun b hb' => by rw [hU, heapSetO (hFh b hb'), heapSetO (hFh b hb')])
    have hKU : Keep (fun b => b = hb ∨ b = db) w U := by
      have k1 := (hKV.drew.then hb2 (fun _ _ h => Or.inr h)).trans (Keep.of_below hb3)
      rw [hU]
      exact Keep.set (S := fun b => b = hb ∨ b = db) (b := hb) (Keep.set (S := fun b => b = hb ∨ b = db) (b := hb) k1 (Or.inl (Or.inl rfl)) _ _) (Or.inl (Or.inl rfl)) _ _
    clear hU c1 c2
    refine (after28 hb db (some ma) (some na) _ _ _ _ l2 f2 0 0 U hhU hdU).mono ?_
    rintro e w4 ⟨rfl, g1, g2⟩
    go_wp2
    go_ret
    refine ⟨sb, L', F, rfl, Nat.le_trans hszV hsb, (g2.block hb (ltB hhU) hne).trans hhU, (hSU.refill hdU g1 g2.size (fun b hF hne' => g2.block b (hSU.lt b hF) hne')).less (by omega), hRec, hFw, fun h => hFh hb h rfl, hKU.then g2 (fun i _ h => Or.inr h)⟩

set_option maxRecDepth 100000 in
set_option maxHeartbeats 1000000 in
/-- The power fails. -/
theorem lose25 (hb db nb0 sb : Nat) (mb0 : Option Nat) (blk D : Int) (L : Ld) (F : Nat → Prop) (B : Nat) (cv : Value) (m : Nat) (cb : Nat → Nat) (c : Nat → Cn) (kept part : Int) (w : World) (H : HostAt w hb db nb0 sb mb0 blk D L F B cv m cb c) (p0 : -9223372036854775808 ≤ part) (p1 : part ≤ 9223372036854775807) :
    Calls Tryz.prog 26 #[.pointer (some ⟨hb, 0, none⟩), .int .i64 kept, .int .i64 part] w fun e w' => e = .returned (.tuple #[]) ∧ ∃ (c0 : Led) (mb nb : Nat), c0.ok ∧ c0.ld = L ∧ (c0.blk = blk ∧ c0.has D) ∧ w'.heap[hb]? = some (.cells #[.pointer (some ⟨db, 0, none⟩), .pointer none, cv, .int .u64 blk] 88) ∧ w'.heap[db]? = some (.cells #[.map (some mb), .map (some nb), .slice none 0 0, .int .i64 (-1), .int .i64 (-1), .bool false] 84) ∧ DirAt w' mb c0.fsD ∧ DirAt w' nb c0.fsD ∧ mb ≠ nb ∧ F mb ∧ w.heap.size ≤ nb ∧ (∀ p ∈ c0.fsD, F p.2.1) ∧ Keep (fun b => b = hb ∨ b = db) w w' := by
  obtain ⟨c0, k1, k2, k3, hL⟩ := H.hs
  obtain ⟨mp, g, FD, _, _, _, h4, h5, _⟩ := hL.mem
  obtain ⟨mb, nb, l, f, m1, m2, m3, m4, m5, m6, m7, m8⟩ := h4.mem
  have hne : hb ≠ db := fun e => H.hF hb (Or.inl rfl) (e ▸ H.hd)
  have hmh : mb ≠ hb := m2.map.ne H.hh
  have hmd : mb ≠ db := m2.map.ne m1
  obtain ⟨V, hV⟩ : ∃ V, V = w.setCell ⟨hb, 1, none⟩ (.pointer none) := ⟨_, rfl⟩
  have oV : ∀ x, x ≠ hb → V.heap[x]? = w.heap[x]? := fun x hx => by rw [hV, heapSetO hx]
  have hhV : V.heap[hb]? = some (.cells #[.pointer (some ⟨db, 0, none⟩), .pointer none, cv, .int .u64 blk] 88) := by rw [hV]; simpa using heapSet H.hh 1 (.pointer none)
  have hph : ∀ p ∈ c0.fsD, p.2.1 ≠ hb ∧ p.2.1 ≠ db := fun p hp => ⟨fun e => by have := m2.str p hp; rw [e, H.hh] at this; simp at this, fun e => by have := m2.str p hp; rw [e, m1] at this; simp at this⟩
  have hdV := (oV db (fun e => hne e.symm)).trans m1
  have hmV : DirAt V mb c0.fsD := m2.kept (oV mb hmh) (fun p hp => oV _ (hph p hp).1)
  have hKV : Keep (fun b => b = hb ∨ b = db) w V := hV ▸ Keep.set (S := fun b => b = hb ∨ b = db) (b := hb) (Keep.refl _ w) (Or.inl (Or.inl rfl)) _ _
  have HC := hide (crash39 db mb _ _ _ _ c0.fsD kept part V p0 p1 hdV hmV)
  have a0 := cellB H.hh
  have a1 := frozenB H.hh
  have b0 := cellB hhV
  have HQ := hide (And.intro k1 (And.intro k2 (And.intro k3 (And.intro (h5 mb m6) (fun p hp => h5 _ (h4.sD p hp))))))
  have HMV := hide hmV
  have HPH := hide hph
  have HKV := hide hKV
  clear hL k1 k2 k3 h4 h5 m1 m2 m3 m4 m5 m6 m7 m8 hmV hph hKV oV H
  go_enter Tryz.func26, Tryz.ntmps26
  go_upto_region 1 with fail
  rw [← hV]
  have HV := hide hV
  clear hV a0 a1
  go_wp2_with fail
  refine HC.out.mono ?_
  rintro e w2 ⟨rfl, nb', q1, q2, q3, q4⟩
  have HQ2 := hide (And.intro q1 (And.intro q2 (And.intro q3 q4)))
  clear q1 q2 q3 q4
  go_wp2
  go_end0
  obtain ⟨q1, q2, q3, q4⟩ := HQ2.out
  obtain ⟨k1, k2, k3, k4, k5⟩ := HQ.out
  have sV : V.heap.size = w.heap.size := by rw [HV.out]; simp
  have hmV := HMV.out
  refine ⟨rfl, c0, mb, nb', k1, k2, k3, (q4.block hb (ltB hhV) hne).trans hhV, q1, hmV.keep q4 hmd (fun p hp => (HPH.out p hp).2), q3, ?_, k4, by omega, k5, HKV.out.then q4 (fun _ _ h => Or.inr h)⟩
  have := hmV.map.lt
  omega
/-- The host behind a failure and an opening. -/
theorem HostAt.again {w w1 w2 : World} {hb db nb0 sb : Nat} {mb0 : Option Nat} {blk D D' : Int} {L : Ld} {F : Nat → Prop} {B : Nat} {cv : Value} {m : Nat} {cb : Nat → Nat} {c : Nat → Cn} (H : HostAt w hb db nb0 sb mb0 blk D L F B cv m cb c) (hB : B ≤ w.heap.size) {c0 : Led} {mb nb sb' : Nat} {L' : Ld} {F' : Nat → Prop} (f1 : F mb) (f2 : w.heap.size ≤ nb) (f3 : ∀ p ∈ c0.fsD, F p.2.1) (k1 : Keep (fun b => b = hb ∨ b = db) w w1)
    (h1 : w2.heap[hb]? = some (.cells #[.pointer (some ⟨db, 0, none⟩), .pointer (some ⟨sb', 0, none⟩), .slice none 0 0, .int .u64 blk] 88)) (h2 : SrvK db blk D' 0 w2 0 sb' L' F') (h3 : ∀ b, F' b → b = db ∨ b = mb ∨ b = nb ∨ (∃ p ∈ c0.fsD, b = p.2.1) ∨ w1.heap.size ≤ b) (h4 : ¬ F' hb) (k2 : Keep (fun b => b = hb ∨ b = db) w1 w2) :
    HostAt w2 hb db nb0 sb' mb0 blk D' L' F' B (.slice none 0 0) 0 (fun _ => 0) (fun _ => ⟨[], false⟩) ∧ Keep (HG hb db F cv m cb) w w2 ∧ ∀ b, HG hb db F' (.slice none 0 0) 0 (fun _ => 0) b → HG hb db F cv m cb b ∨ w.heap.size ≤ b := by
  have s1 := k1.size
  have hG : ∀ b, HG hb db F' (.slice none 0 0) 0 (fun _ => 0) b → HG hb db F cv m cb b ∨ w.heap.size ≤ b := fun b hb' => by
    rcases hb' with h | h | h | h | ⟨i, hi, _⟩
    · exact Or.inl (Or.inl h)
    · exact Or.inl (Or.inr (Or.inl h))
    · rcases h3 b h with h | h | h | ⟨p, hp, h⟩ | h
      · exact Or.inl (Or.inr (Or.inl h))
      · exact Or.inl (Or.inr (Or.inr (Or.inl (h ▸ f1))))
      · exact Or.inr (by omega)
      · exact Or.inl (Or.inr (Or.inr (Or.inl (h ▸ f3 p hp))))
      · exact Or.inr (by omega)
    · simp [Value.ownBlock] at h
    · omega
  refine ⟨⟨h1, h2.dskF, h2, fun i hi => absurd hi (Nat.not_lt_zero _), fun i j hi => absurd hi (Nat.not_lt_zero _), World.ownsRow_nil _ _ _ _, fun g hg hF => ?_, fun b hb' => ?_, fun _ _ => rfl⟩, (k1.trans k2).mono (fun b h _ => h.elim Or.inl (fun h => Or.inr (Or.inl h))), hG⟩
  · rcases hg with h | h | h
    · exact h4 (h ▸ hF)
    · exact h
    · simp [Value.ownBlock] at h
  · rcases hG b hb' with h | h
    · exact H.lo b h
    · omega
end Go.Proofs.YtlcnkcgmjnfbiaaGreatDoor

namespace Go.Proofs.YtlcnkcgmjnfbiaaGreatDoor
open Go.RowKit
variable [dK] [iK]

theorem doD_ge (D : Int) (L : Ld) (q : Rq) (h : D ≤ L.time) : D ≤ doD D L q ∧ doD D L q ≤ L.time := by
  unfold doD
  split <;> omega
theorem runDM_ge : ∀ (n : Nat) (D : Int) (L : Ld) (bs : List Int), D ≤ L.time → D ≤ runDM n D L bs ∧ runDM n D L bs ≤ L.time
  | 0, D, L, bs, h => by unfold runDM; omega
  | n + 1, D, L, bs, h => by
    unfold runDM
    split
    · have h1 := doD_ge D L (rdQ bs) h
      have h2 := runDM_ge n (doD D L (rdQ bs)) (doM L (rdQ bs)).1 (bs.drop (rdN bs).toNat) (by rw [doM_time]; exact h1.2)
      rw [doM_time] at h2
      omega
    · omega
/-- The files' time only grows, and is never ahead of the ledger's. -/
theorem feedD_ge (D : Int) (L : Ld) (c : Cn) (now : Int) (bs : List Int) (h : D ≤ L.time) : D ≤ feedD D L c now bs ∧ feedD D L c now bs ≤ (passM L now).time := by
  have hp : L.time ≤ (passM L now).time := by
    unfold passM
    dsimp only
    split <;> omega
  unfold feedD
  split
  · omega
  · exact runDM_ge _ D (passM L now) _ (by omega)
theorem runDL_enc (D : Int) (L : Ld) (q : Rq) (h : Reads q) (t : List Int) : runDL D L (q.enc ++ t) = runDL (doD D L q) (doM L q).1 t := by
  obtain ⟨e1, e2, e3⟩ := h t
  rw [runDL_step D L _ e1, e2, e3, Int.toNat_natCast, List.drop_left]
theorem runDL_nil (D : Int) (L : Ld) : runDL D L [] = D := runDL_stop D L [] (by simp [rdErr])
theorem SrvK.lower {db : Nat} {blk D D' : Int} {k : Nat} {w : World} {st : Int} {sb : Nat} {L : Ld} {F : Nat → Prop} (h : SrvK db blk D k w st sb L F) (hd : D' ≤ D) : SrvK db blk D' k w st sb L F := by
  obtain ⟨c, h1, h2, h3, h4⟩ := h
  exact ⟨c, h1, h2, ⟨h3.1, Dur.less h3.2 hd⟩, h4⟩
theorem SrvK.dle {db : Nat} {blk D : Int} {k : Nat} {w : World} {st : Int} {sb : Nat} {L : Ld} {F : Nat → Prop} (h : SrvK db blk D k w st sb L F) : D ≤ L.time := by
  obtain ⟨c, h1, rfl, h3, _⟩ := h
  exact h3.2.le h1
end Go.Proofs.YtlcnkcgmjnfbiaaGreatDoor
