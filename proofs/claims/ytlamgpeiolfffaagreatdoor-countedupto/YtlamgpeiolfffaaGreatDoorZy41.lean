import Derived.Test.YtlamgpeiolfffaaGreatDoorZy38
import Derived.Test.YtlamgpeiolfffaaGreatDoorZy39
import Derived.Test.YtlamgpeiolfffaaGreatDoorZy00
import Derived.Test.YtlamgpeiolfffaaGreatDoorZy26
import Derived.Test.YtlamgpeiolfffaaGreatDoorZy32
import Derived.Test.YtlamgpeiolfffaaGreatDoorZy15
set_option linter.unusedSectionVars false
namespace Go.Proofs.YtlamgpeiolfffaaGreatDoor
variable [dK] [iK]

theorem rdQ_op (bs : List Int) (h : rdErr bs = 0) : (rdQ bs).op ∈ [1, 2, 3, 4, 5, 6] := by
  have key : bs.getD 1 0 = 1 ∨ bs.getD 1 0 = 2 ∨ bs.getD 1 0 = 3 ∨ bs.getD 1 0 = 4 ∨ bs.getD 1 0 = 5 ∨ bs.getD 1 0 = 6 := by
    match bs, h with
    | [], h => simp [rdErr] at h
    | [b0], h =>
      simp only [rdErr] at h
      split at h <;> omega
    | b0 :: b1 :: t, h =>
      simp only [rdErr] at h
      split at h
      · omega
      · rename_i h1
        split at h
        · rename_i h2
          show b1 = 1 ∨ b1 = 2 ∨ b1 = 3 ∨ b1 = 4 ∨ b1 = 5 ∨ b1 = 6
          unfold reqLen at h2
          split at h2
          · omega
          · split at h2
            · omega
            · split at h2
              · omega
              · split at h2
                · omega
                · omega
        · omega
  simp only [List.mem_cons, List.not_mem_nil, or_false]
  rcases key with k | k | k | k | k | k
  · rw [rdQ_1 bs h k]; simp
  · rw [rdQ_2 bs h k]; simp
  · rw [rdQ_3 bs h (Or.inl k)]; simp only []; omega
  · rw [rdQ_3 bs h (Or.inr k)]; simp only []; omega
  · rw [rdQ_5 bs h (Or.inl k)]; simp only []; omega
  · rw [rdQ_5 bs h (Or.inr k)]; simp only []; omega
theorem rqL_good : ∀ (n : Nat) (bs : List Int), bs.length ≤ n → Bytes bs → ∀ q ∈ (rqL bs).1, q.ok ∧ q.op ∈ [1, 2, 3, 4, 5, 6] := by
  intro n
  induction n with
  | zero =>
    intro bs h _
    have e : bs = [] := List.length_eq_zero_iff.1 (by omega)
    subst e
    rw [rqL_stop [] (by simp [rdErr])]
    simp
  | succ n ih =>
    intro bs h hb
    by_cases h0 : rdErr bs = 0
    · obtain ⟨r1, r2, _, _⟩ := rdN_ok bs h0
      rw [rqL_step bs h0]
      intro q hq
      rcases List.mem_cons.1 hq with rfl | hq
      · exact ⟨rdQ_ok bs hb, rdQ_op bs h0⟩
      · exact ih _ (by rw [List.length_drop]; omega) (hb.drop _) q hq
    · rw [rqL_stop bs h0]
      simp

theorem admM_code (z : Qt) (T n : Int) : (admM z T n).2.c = 2 ∨ (admM z T n).2.c = 3 := by
  unfold admM admS admW
  repeat' split
  all_goals simp
theorem doM_7 (L : Ld) (q : Rq) : (doM L q).2.c ≠ 7 := by
  unfold doM
  by_cases h2 : q.op = 2
  · rw [if_neg (by omega), if_pos h2]
    cases fnd q.key L.ks with
    | none => simp
    | some z =>
      have := admM_code z L.time q.n
      simp only []
      omega
  · rw [if_neg h2]
    repeat' split
    all_goals simp
theorem doM_adm (L : Ld) (q : Rq) : (doM L q).1.adm = if (doM L q).2.c = 2 then (L.adm + q.n) % 18446744073709551616 else L.adm := by
  unfold doM
  repeat' split
  all_goals first
    | rfl
    | simp_all

/-- The ledger and the document's book stand alike. -/
structure Sim (L : Ld) (B : Bk) : Prop where
  time : L.time = B.time
  lines : Lines B.time L.ks B.ls
  lok : L.ok
  bok : B.ok
theorem Sim.step {L : Ld} {B : Bk} (h : Sim L B) (q : Rq) (hq : q.ok) (ho : q.op ∈ [1, 2, 3, 4, 5, 6]) : (doM L q).2 = (askM B q).2 ∧ Sim (doM L q).1 (askM B q).1 := by
  obtain ⟨h1, h2, h3⟩ := ask_sim L B q h.lok hq h.time h.lines ho
  have ht : (doM L q).1.time = L.time := by
    unfold doM
    repeat' split
    all_goals rfl
  refine ⟨h1, ?_, ?_, (doM_ok L q h.lok hq).1, askM_ok B q h.bok hq⟩
  · rw [ht, h.time, h2]
  · rw [h2]; exact h3
theorem Sim.pass {L : Ld} {B : Bk} (h : Sim L B) (now : Int) (h0 : 0 ≤ now) (h1 : now ≤ 18446744073709551615) : Sim (passM L now) (tellM B now) := by
  have hL := passM_okd L now h.lok h0 h1
  have ht : (passM L now).time = (tellM B now).time := by unfold passM tellM; rw [h.time]
  refine ⟨ht, ?_, hL, ?_⟩
  · refine Lines.mono (T := B.time) ?_ h.lok.qt h.lines
    unfold tellM
    simp only []
    split <;> omega
  · refine ⟨?_, h.bok.len, h.bok.ln⟩
    rw [← ht]
    exact hL.time
/-- Requests asked of the book one behind the other. -/
def askL : Bk → List Rq → Bk × List Rp
  | B, [] => (B, [])
  | B, q :: t => ((askL (askM B q).1 t).1, (askM B q).2 :: (askL (askM B q).1 t).2)
theorem Sim.list : ∀ (qs : List Rq) {L : Ld} {B : Bk}, Sim L B → (∀ q ∈ qs, q.ok ∧ q.op ∈ [1, 2, 3, 4, 5, 6]) → (doL L qs).2 = (askL B qs).2 ∧ Sim (doL L qs).1 (askL B qs).1
  | [], _, _, h, _ => ⟨rfl, h⟩
  | q :: t, L, B, h, hq => by
    obtain ⟨h1, h2⟩ := h.step q (hq q List.mem_cons_self).1 (hq q List.mem_cons_self).2
    obtain ⟨h3, h4⟩ := Sim.list t h2 (fun q' hq' => hq q' (List.mem_cons_of_mem _ hq'))
    exact ⟨by show (doM L q).2 :: _ = (askM B q).2 :: _; rw [h1, h3], h4⟩
/-- A feeding, by its requests. -/
theorem feedM_rq (L : Ld) (c : Cn) (now : Int) (bs : List Int) (hb : c.bad = false) :
    feedM L c now bs = if (rqL (c.waits ++ bs)).2.2 = 2 then ((doL (passM L now) (rqL (c.waits ++ bs)).1).1, ⟨[], true⟩, (doL (passM L now) (rqL (c.waits ++ bs)).1).2 ++ [⟨6, 0, 0⟩])
      else ((doL (passM L now) (rqL (c.waits ++ bs)).1).1, ⟨(rqL (c.waits ++ bs)).2.1, false⟩, (doL (passM L now) (rqL (c.waits ++ bs)).1).2) := by
  have h := runL_rqL _ (c.waits ++ bs) (passM L now) (Nat.le_refl _)
  unfold runL at h
  unfold feedM
  rw [if_neg (by simp [hb]), h]
theorem feedM_end (L : Ld) (c : Cn) (now : Int) (bs : List Int) (hb : c.bad = true) : feedM L c now bs = (passM L now, c, []) := by
  unfold feedM
  rw [if_pos hb]
end Go.Proofs.YtlamgpeiolfffaaGreatDoor

namespace Go.Proofs.YtlamgpeiolfffaaGreatDoor
open Go.RowKit
variable [dK] [iK]

set_option maxRecDepth 100000 in
theorem pick20 (c n : Int) (w : World) (hn : 0 < n) (hn1 : n ≤ 1000000000) (h0 : -9223372036854775808 ≤ c) (h1 : c ≤ 9223372036854775807) :
    Calls Tryz.prog 20 #[.int .i64 c, .int .i64 n] w fun e w' => e = .returned (.int .i64 (pickM c n)) ∧ w' = w := by
  have hnz : ¬ n = 0 := by omega
  by_cases h : c < 0
  · have e : pickM c n = -((c + 1).tmod n) := by unfold pickM; rw [if_pos h, ← Int.neg_tmod, Int.tmod_eq_emod_of_nonneg (by omega)]
    have k1 : IntKind.i64.wrap (c + 1) = c + 1 := by rw [IntKind.wrap_i64]; omega
    have k2 : IntKind.i64.wrap (-(c + 1)) = -(c + 1) := by rw [IntKind.wrap_i64]; omega
    rw [e]
    clear e
    go_enter Tryz.func20, Tryz.ntmps20
    go_wp2
    go_ret
    exact ⟨rfl, rfl⟩
  · have e : pickM c n = c % n := by unfold pickM; rw [if_neg h]
    rw [e]
    clear e
    go_enter Tryz.func20, Tryz.ntmps20
    go_wp2
    go_ret
    exact ⟨rfl, rfl⟩


theorem reqref49 (q : Rq) (hq : q.ok) (w : World) :
    Calls Tryz.prog 49 #[.agg #[.int .u8 q.op, .int .u8 q.k0, .int .u8 q.k1, .int .u8 q.k2, .int .u8 q.k3, .int .u8 q.k4, .int .u8 q.k5, .int .u8 q.k6, .int .u8 q.k7, .int .u8 q.kd, .int .u64 q.x, .int .u64 q.y, .int .u64 q.n]] w
      fun e w' => ∃ a c, e = .returned (.slice a q.enc.length c) ∧ w'.ownsRow w.heap.size 5 1 (.slice a q.enc.length c) q.enc.length (q.enc.map (Value.int .u8)) ∧ Below w.heap.size w w' := by
  refine (refreq_any q.op q.k0 q.k1 q.k2 q.k3 q.k4 q.k5 q.k6 q.k7 q.kd q.x q.y q.n w hq.x.1 hq.x.2 hq.y.1 hq.y.2 hq.n.1 hq.n.2).mono ?_
  rintro e w' ⟨v, rfl, ho, hb⟩
  obtain ⟨a, c, rfl⟩ := own_slice ho
  exact ⟨a, c, rfl, ho, hb⟩

set_option maxRecDepth 100000 in
set_option maxHeartbeats 2000000 in
/-- quotaledgerlaw.written: requests, one behind the other, and bytes. -/
theorem written32 (ao : Option Addr) (n cap : Nat) (qs : List Rq) (raw : ByteArray) (w : World) (hn : qs.length = n) (hnc : n ≤ cap) (hn1 : n ≤ 1000) (hr : raw.size ≤ 20000) (hok : ∀ q ∈ qs, q.ok)
    (hc : 0 < n → ∃ A o, ao = some ⟨A, o, none⟩ ∧ A < w.heap.size ∧ ∀ i (h : i < qs.length) j, j < 13 → w.cell? ⟨A, o + i * 13 + j, none⟩ = (#[.int .u8 qs[i].op, .int .u8 qs[i].k0, .int .u8 qs[i].k1, .int .u8 qs[i].k2, .int .u8 qs[i].k3, .int .u8 qs[i].k4, .int .u8 qs[i].k5, .int .u8 qs[i].k6, .int .u8 qs[i].k7, .int .u8 qs[i].kd, .int .u64 qs[i].x, .int .u64 qs[i].y, .int .u64 qs[i].n] : Array Value)[j]?) :
    Calls Tryz.prog 32 #[.slice ao n cap, .string raw] w fun e w' => e = .returned (.string (strOfNums (encQs qs) ++ raw)) ∧ Below w.heap.size w w' := by
  have HC := hide hc
  have HN := hide hn
  have HOK := hide hok
  clear hc hn hok
  go_enter Tryz.func32, Tryz.ntmps32
  go_wp2
  go_loopw [5, 6] (fun s5 s6 wr => ∃ i : Nat, i ≤ n ∧ s6 = .int .i64 i ∧ wr.ownsRow w.heap.size 5 1 s5 (encQs (qs.take i)).length ((encQs (qs.take i)).map (Value.int .u8)) ∧ Below w.heap.size w wr) (fun _ s6 _ => n - (intOf s6).toNat)
  case atStart => exact ⟨0, by omega, rfl, World.ownsRow_nil _ _ _ _, Below.refl _ _⟩
  case round =>
    obtain ⟨i, hi, rfl, hown, hb⟩ := hrel
    have hle : (encQs (qs.take i)).length ≤ 27000 := by have := encQs_len (qs.take i); rw [List.length_take] at this; omega
    have HOWN := hide hown
    have hwr := hb.size
    clear hown
    by_cases hlt : i < n
    · have hil : i < qs.length := by rw [HN.out]; exact hlt
      obtain ⟨A, o, rfl, hA, hcc⟩ := HC.out (by omega)
      obtain ⟨q, hq⟩ : ∃ q, q = qs[i] := ⟨_, rfl⟩
      have hqo : q.ok := hq ▸ HOK.out _ (List.getElem_mem hil)
      have hcell : ∀ j, j < 13 → wr.cell? ⟨A, o + i * 13 + j, none⟩ = (#[.int .u8 q.op, .int .u8 q.k0, .int .u8 q.k1, .int .u8 q.k2, .int .u8 q.k3, .int .u8 q.k4, .int .u8 q.k5, .int .u8 q.k6, .int .u8 q.k7, .int .u8 q.kd, .int .u64 q.x, .int .u64 q.y, .int .u64 q.n] : Array Value)[j]? := fun j hj => by
        rw [hb.cell (p := ⟨A, o + i * 13 + j, none⟩) hA, hq]
        exact hcc i hil j hj
      have k0 := hcell 0 (by omega)
      have k1 := hcell 1 (by omega)
      have k2 := hcell 2 (by omega)
      have k3 := hcell 3 (by omega)
      have k4 := hcell 4 (by omega)
      have k5 := hcell 5 (by omega)
      have k6 := hcell 6 (by omega)
      have k7 := hcell 7 (by omega)
      have k8 := hcell 8 (by omega)
      have k9 := hcell 9 (by omega)
      have k10 := hcell 10 (by omega)
      have k11 := hcell 11 (by omega)
      have k12 := hcell 12 (by omega)
      rw [Nat.add_zero] at k0
      have HQ := hide hq
      have hel := enc_len q
      clear hcell hcc hq
      go_wp2_with fail
      refine (reqref49 q hqo _).mono ?_
      rintro e w2 ⟨a2, c2, rfl, hown2, hb2⟩
      have HO2 := hide hown2
      have HOW : Hid (w2.ownsRow w.heap.size 5 1 u5 (encQs (qs.take i)).length ((encQs (qs.take i)).map (Value.int .u8))) := hide (own_kept HOWN.out (fun g hg => hb2.block g (own_ltE HOWN.out hg).2))
      have hs2 := hb2.size
      have hB2 : Below w.heap.size w w2 := hb.trans (hb2.mono hwr)
      have HB2 := hide hB2
      clear k0 k1 k2 k3 k4 k5 k6 k7 k8 k9 k10 k11 k12 hown2 hB2
      go_wp2_with (at_builtin; refine wpList_append_srcA rfl _ _ rfl w.heap.size u5 _ (encQs (qs.take i)) rfl HOW.out (.slice a2 q.enc.length c2) q.enc rfl (Sl.of_own HO2.out).src (by omega) (by omega) ?_; intro v3 w3 hown3 hgr3 hloc3)
      go_roundw
      case rel =>
        have htk : qs.take (i + 1) = qs.take i ++ [qs[i]] := by rw [List.take_add_one, List.getElem?_eq_getElem hil]; rfl
        have hen : encQs (qs.take (i + 1)) = encQs (qs.take i) ++ q.enc := by rw [htk, ← HQ.out]; unfold encQs; rw [List.flatMap_append]; simp only [List.flatMap_cons, List.flatMap_nil, List.append_nil]
        refine ⟨i + 1, by omega, by go_num, ?_, ?_⟩
        · rw [hen, List.length_append]; exact hown3
        · exact ⟨hgr3.os.trans HB2.out.os, hgr3.tape.trans HB2.out.tape, hgr3.output.trans HB2.out.output, Nat.le_trans HB2.out.size hgr3.size, fun k hk => (hgr3.block k (by omega) (fun e => by have := own_ltE HOW.out e.symm; omega)).trans (HB2.out.block k hk)⟩
      case measure => simp [intOf]; omega
    · obtain rfl : i = n := by omega
      have etk : qs.take i = qs := List.take_of_length_le (by rw [HN.out]; exact Nat.le_refl _)
      rw [etk] at HOWN hle
      have hcv := conv_own HOWN.out rfl
      obtain ⟨st, hst⟩ : ∃ st, st = strOfNums (encQs qs) := ⟨_, rfl⟩
      have hsz : st.size ≤ 27000 := by rw [hst, strOfNums_size]; exact hle
      rw [← hst] at hcv
      have HST := hide hst
      clear hst
      go_wp2
      go_ret
      refine ⟨?_, hb⟩
      rw [HST.out]
      rfl
end Go.Proofs.YtlamgpeiolfffaaGreatDoor

namespace Go.Proofs.YtlamgpeiolfffaaGreatDoor
open Go.RowKit
variable [dK] [iK]

theorem Tryz.info92 : (Tryz.prog.info? 92).map (fun i => (i.zero, i.size, i.bytes)) = some (some (.pointer none), 1, 8) := by kernel_rfl
theorem ptrs_snoc (tb : Nat → Nat) (i : Nat) (x : Nat) : ptrs (fun j => if j = i then x else tb j) (i + 1) = ptrs tb i ++ [.pointer (some ⟨x, 0, none⟩)] := by
  unfold ptrs
  rw [List.range_succ, List.map_append]
  congr 1
  · apply List.map_congr_left
    intro j hj
    have := List.mem_range.1 hj
    show Value.pointer (some ⟨if j = i then x else tb j, 0, none⟩) = _
    rw [if_neg (by omega)]
  · simp

/-- Streams that were made, so many. -/
structure OpI (w : World) (wb : Nat) (C : Value → Array Value) (i : Nat) (v : Value) (tb : Nat → Nat) (wr : World) : Prop where
  blk : wr.heap[wb]? = some (.cells (C v) 60)
  own : wr.ownsRow w.heap.size 92 1 v i (ptrs tb i)
  st : ∀ j, j < i → wr.heap[tb j]? = some (.cells #[.slice none 0 0, .bool false] 94) ∧ w.heap.size ≤ tb j
  inj : ∀ j k, j < i → k < i → tb j = tb k → j = k
  keep : Keep (fun b => b = wb) w wr

set_option maxRecDepth 100000 in
set_option maxHeartbeats 4000000 in
theorem open18 (wb : Nat) (c0 c1 c2 c3 c4 c5 f0 f1 f2 f3 f4 f5 f6 f7 f8 f9 f10 f11 f12 was win least lt : Value) (w : World) (hw : w.heap[wb]? = some (.cells #[c0, c1, c2, c3, c4, c5, f0, f1, f2, f3, f4, f5, f6, f7, f8, f9, f10, f11, f12, was, win, least, lt] 60)) :
    Calls Tryz.prog 18 #[.pointer (some ⟨wb, 0, none⟩)] w fun e w' => e = .returned (.tuple #[]) ∧ ∃ v tb, OpI w wb (fun v => #[c0, c1, v, c3, .bool false, c5, f0, f1, f2, f3, f4, f5, f6, f7, f8, f9, f10, f11, f12, was, win, least, .int .u64 0]) 3 v tb w' := by
  obtain ⟨i1, hj, hy0, hy1, hy2⟩ := info_parts Tryz.info92
  have a1 := cellB hw
  have a2 := frozenB hw
  have lw := ltB hw
  have HW := hide hw
  clear hw
  go_enter Tryz.func18, Tryz.ntmps18
  go_wp2_with fail
  go_loopw [2] (fun s2 wr => ∃ i : Nat, ∃ v tb, i ≤ 3 ∧ s2 = .int .i64 i ∧ OpI w wb (fun v => #[c0, c1, v, c3, c4, c5, f0, f1, f2, f3, f4, f5, f6, f7, f8, f9, f10, f11, f12, was, win, least, lt]) i v tb wr) (fun s2 _ => 3 - (intOf s2).toNat)
  case atStart =>
    refine ⟨0, .slice none 0 0, fun _ => 0, by omega, rfl, ⟨by simpa using heapSet HW.out 2 _, World.ownsRow_nil _ _ _ _, fun j hj => by omega, fun j k hj => by omega, Keep.set (S := fun b => b = wb) (b := wb) (Keep.refl _ w) (Or.inl rfl) _ _⟩⟩
  case round =>
    obtain ⟨i, v, tb, hi, rfl, I⟩ := hrel
    obtain ⟨va, vc, rfl⟩ := own_sliceE I.own
    have hblk : wr.heap[wb]? = some (.cells #[c0, c1, .slice va i vc, c3, c4, c5, f0, f1, f2, f3, f4, f5, f6, f7, f8, f9, f10, f11, f12, was, win, least, lt] 60) := I.blk
    have a3 := cellB hblk
    have a4 := frozenB hblk
    have hks := I.keep.size
    have hI := hide I
    have HBL := hide hblk
    clear I a1 a2 hblk
    by_cases hlt : i < 3
    · have hin : (i : Int) < 3 := by omega
      have a5 := fun o j => upC HBL.out o j
      have a6 := fun o o2 j => upC (upB HBL.out o) o2 j
      have HO2 : Hid (∀ o1 o2, ((wr.alloc o1).alloc o2).ownsRow w.heap.size 92 1 (.slice va i vc) i (ptrs tb i)) := hide (fun o1 o2 => own_keptE hI.out.own (fun z hz => by
        have := own_ltE hI.out.own hz
        exact (heapOld _ _ (by simp; omega)).trans (heapOld _ _ (by omega))))
      have hnw : (Value.slice va i vc).ownBlock ≠ some wb := fun e => by have := own_ltE hI.out.own e; omega
      go_wp2_with (at_builtin; refine wpList_append_own_at _ rfl _ _ 54 rfl w.heap.size 92 i1 (.pointer none) 1 8 Tryz.underlying54 hj hy0 hy1 hy2 rfl (by decide) (.slice va i vc) i (ptrs tb i) rfl (HO2.out _ _) ⟨wr.heap.size + 1, 0, none⟩ 1 1 [.pointer (some ⟨wr.heap.size, 0, none⟩)] rfl rfl (fun j u hju => by rw [Addr.add_lit, Nat.zero_add, ← hju]; exact (cellB (heapN (by simp)) j).trans (by simp)) (by simp [Value.oneCell']) (by unfold maxLen; omega) (by omega) (by simp; omega) ?_; intro v5 w4 hown4 hgr4 hnil4 hloc4; obtain ⟨ya, yc, hyw⟩ := own_sliceE hown4; subst hyw; have hb4 := (hgr4.block wb (by simp; omega) (fun e => hnw e.symm)).trans (upB (upB HBL.out _) _); have b1 := cellB hb4; have b2 := frozenB hb4; have HO4 := hide hown4; have HG4 := hide hgr4; have HB4 := hide hb4; have HL4 := hide hloc4; clear hown4 hgr4 hnil4 hloc4 hb4)
      go_roundw
      case rel =>
        have hg4 := HG4.out.size
        have hg5 : wr.heap.size + 2 ≤ w4.heap.size := by simp at hg4; omega
        have hn7 : ∀ z, z < w.heap.size → (Value.slice va i vc).ownBlock ≠ some z := fun z hz e => by have := own_ltE hI.out.own e; omega
        have hk4 := ((hI.out.keep).alloc (.cells #[.slice none 0 0, .bool false] 94)).alloc (.cells #[.pointer (some ⟨wr.heap.size, 0, none⟩)] 92)
        have hkk : Keep (fun b => b = wb) w w4 := ⟨HG4.out.os.trans hk4.os, HG4.out.tape.trans hk4.tape, HG4.out.output.trans hk4.output, Nat.le_trans hk4.size hg4, fun z hz hS => (HG4.out.block z (Nat.lt_of_lt_of_le hz hk4.size) (fun e => hn7 z hz e.symm)).trans (hk4.block z hz hS)⟩
        have hown94 : ∀ z a t, wr.heap[z]? = some (.cells a t) → t ≠ 92 → (Value.slice va i vc).ownBlock ≠ some z := fun z a t hz ht e => own_neE hI.out.own e hz ht rfl
        have hnew : w4.heap[wr.heap.size]? = some (.cells #[.slice none 0 0, .bool false] 94) := (HG4.out.block wr.heap.size (by simp; omega) (fun e => by have := own_ltE hI.out.own e.symm; omega)).trans (upB (heapNew _ _) _)
        refine ⟨i + 1, .slice ya (i + 1) yc, fun j => if j = i then wr.heap.size else tb j, by omega, by go_num, ⟨by simpa using heapSet HB4.out 2 _, ?_, ?_, ?_, Keep.set (S := fun b => b = wb) (b := wb) hkk (Or.inl rfl) _ _⟩⟩
        · rw [ptrs_snoc]
          refine own_keptE HO4.out (fun z hz => ?_)
          have := own_ltE HO4.out hz
          exact heapSetO (by omega) _ _
        · intro j hj'
          by_cases e : j = i
          · rw [if_pos e]
            exact ⟨(heapSetO (by omega) _ _).trans hnew, hks⟩
          · rw [if_neg e]
            have h2 := hI.out.st j (by omega)
            have h3 := ltB h2.1
            exact ⟨(heapSetO (by omega) _ _).trans ((HG4.out.block (tb j) (by simp; omega) (fun e => hown94 _ _ _ h2.1 (by decide) e.symm)).trans ((heapOld _ _ (by simp; omega)).trans ((heapOld _ _ h3).trans h2.1))), h2.2⟩
        · intro j k hj' hk' he
          by_cases ej : j = i <;> by_cases ek : k = i
          · omega
          · rw [if_pos ej, if_neg ek] at he
            have := ltB (hI.out.st k (by omega)).1
            omega
          · rw [if_neg ej, if_pos ek] at he
            have := ltB (hI.out.st j (by omega)).1
            omega
          · rw [if_neg ej, if_neg ek] at he
            exact hI.out.inj j k (by omega) (by omega) he
      case measure => simp [intOf]; omega
    · obtain rfl : i = 3 := by omega
      go_wp2_with fail
      go_end0
      refine ⟨rfl, .slice va 3 vc, tb, ⟨by simpa using heapSet (heapSet HBL.out 4 _) 22 _, ?_, ?_, hI.out.inj, Keep.set (S := fun b => b = wb) (b := wb) (Keep.set (S := fun b => b = wb) (b := wb) hI.out.keep (Or.inl rfl) _ _) (Or.inl rfl) _ _⟩⟩
      · refine own_keptE hI.out.own (fun z hz => ?_)
        have := own_ltE hI.out.own hz
        exact (heapSetO (by omega) _ _).trans (heapSetO (by omega) _ _)
      · intro j hj
        have := hI.out.st j hj
        exact ⟨(heapSetO (by omega) _ _).trans ((heapSetO (by omega) _ _).trans this.1), this.2⟩
end Go.Proofs.YtlamgpeiolfffaaGreatDoor

namespace Go.Proofs.YtlamgpeiolfffaaGreatDoor
open Go.RowKit
variable [dK] [iK]

/-- How much the first steps hold, in all. -/
def totM (rl rs : Nat → Nat) : Nat → Nat
  | 0 => 0
  | i + 1 => totM rl rs i + 26 * rl i + rs i

def SmallP (n : Nat) (rl rs : Nat → Nat) (e : Ending) : Prop := ∃ b, e = .returned (.bool b) ∧ (b = true → n + totM rl rs n ≤ 16384)

set_option maxRecDepth 100000 in
set_option maxHeartbeats 2000000 in
/-- quotaledgerlaw.small: what is claimed of is small. -/
theorem small14 (ao : Option Addr) (n cap : Nat) (rl rs : Nat → Nat) (w : World) (hnc : n ≤ cap) (hn1 : n ≤ 2000000) (hrl : ∀ i, i < n → rl i ≤ 2000000) (hrs : ∀ i, i < n → rs i ≤ 2000000)
    (hc : 0 < n → ∃ A o, ao = some ⟨A, o, none⟩ ∧ A < w.heap.size ∧ ∀ i, i < n → (∃ la lc, w.cell? ⟨A, o + i * 10 + 3, none⟩ = some (.slice la (rl i) lc)) ∧ ∃ raw : ByteArray, w.cell? ⟨A, o + i * 10 + 4, none⟩ = some (.string raw) ∧ raw.size = rs i) :
    Calls Tryz.prog 14 #[.slice ao n cap] w fun e w' => SmallP n rl rs e ∧ Below w.heap.size w w' := by
  have HC := hide hc
  have HRL := hide hrl
  have HRS := hide hrs
  clear hc hrl hrs
  go_enter Tryz.func14, Tryz.ntmps14
  go_wp2
  go_loopw [3, 4] (fun s3 s4 wr => ∃ i : Nat, i ≤ n ∧ s4 = .int .i64 i ∧ s3 = .int .i64 ((n + totM rl rs i : Nat) : Int) ∧ n + totM rl rs i ≤ 60000000 ∧ Below w.heap.size w wr) (fun _ s4 _ => n - (intOf s4).toNat)
  case atStart => exact ⟨0, by omega, rfl, by simp [totM], by simp [totM]; omega, Below.refl _ _⟩
  case round =>
    obtain ⟨i, hi, rfl, rfl, ht, hb⟩ := hrel
    obtain ⟨t, het⟩ : ∃ t, t = n + totM rl rs i := ⟨_, rfl⟩
    rw [← het] at ht ⊢
    have HT := hide het
    clear het
    by_cases hlt : i < n
    · by_cases hsm : t ≤ 16384
      · obtain ⟨A, o, rfl, hA, hcc⟩ := HC.out (by omega)
        obtain ⟨⟨la, lc, k3⟩, raw, k4, hraw⟩ := hcc i hlt
        have e3 : wr.cell? ⟨A, o + i * 10 + 3, none⟩ = some (.slice la (rl i) lc) := (hb.cell (p := ⟨A, o + i * 10 + 3, none⟩) hA).trans k3
        have e4 : wr.cell? ⟨A, o + i * 10 + 4, none⟩ = some (.string raw) := (hb.cell (p := ⟨A, o + i * 10 + 4, none⟩) hA).trans k4
        obtain ⟨x, hx⟩ : ∃ x, x = rl i := ⟨_, rfl⟩
        rw [← hx] at e3
        have hx1 : x ≤ 2000000 := hx ▸ HRL.out i hlt
        have hr1 : raw.size ≤ 2000000 := hraw ▸ HRS.out i hlt
        have HX := hide hx
        have HRAW := hide hraw
        have hin : (i : Int) < (n : Int) := by omega
        have hi0 : (0 : Int) ≤ (i : Int) := by omega
        have hsi : (t : Int) ≤ 16384 := by omega
        have w1 : IntKind.i64.wrap (26 * (x : Int)) = 26 * (x : Int) := by rw [IntKind.wrap_i64]; omega
        have w2 : IntKind.i64.wrap ((t : Int) + 26 * (x : Int)) = (t : Int) + 26 * (x : Int) := by rw [IntKind.wrap_i64]; omega
        have w3 : IntKind.i64.wrap ((t : Int) + 26 * (x : Int) + (raw.size : Int)) = (t : Int) + 26 * (x : Int) + (raw.size : Int) := by rw [IntKind.wrap_i64]; omega
        clear k3 k4 hcc hx hraw
        go_upto_region 5 with fail
        go_region
        all_goals go_wp2
        all_goals go_roundw
        · have e5 : n + totM rl rs (i + 1) = t + 26 * x + raw.size := by
            have := HT.out
            have := HX.out
            have := HRAW.out
            unfold totM
            omega
          refine ⟨i + 1, by omega, by go_num, ?_, by omega, hb.drew⟩
          rw [e5]
          simp
        · simp [intOf]; omega
      · have hsi : ¬ (t : Int) ≤ 16384 := by omega
        have hin : (i : Int) < (n : Int) := by omega
        go_wp2
        go_ret
        exact ⟨⟨false, rfl, fun h => by simp at h⟩, hb⟩
    · obtain rfl : i = n := by omega
      go_wp2
      go_ret
      refine ⟨⟨_, rfl, fun h => ?_⟩, hb⟩
      have := HT.out
      simp at h
      omega
end Go.Proofs.YtlamgpeiolfffaaGreatDoor
