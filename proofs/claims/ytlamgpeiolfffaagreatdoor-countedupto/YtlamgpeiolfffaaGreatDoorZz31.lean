import Derived.Test.YtlamgpeiolfffaaGreatDoorZz19
import Derived.Test.YtlamgpeiolfffaaGreatDoorZz30
import Derived.Deep.RegionLaw
import Derived.Deep.AppendLies
import Derived.Test.YtlamgpeiolfffaaGreatDoorZz23
import Derived.Test.YtlamgpeiolfffaaGreatDoorZz16
namespace Go.Proofs.YtlamgpeiolfffaaGreatDoor
open Go.RowKit

theorem Sl.of_bytes (w2 : World) (S : ByteArray) (c : Nat) (hc : S.size ≤ c) : Sl ((w2.alloc (.cells (bytesRow S c) 5 ((bytesRow S c).size, (bytesRow S c).size + 1))).drew) (.slice (some ⟨w2.heap.size, 0, none⟩) S.size c) (numsOf S) := by
  have hl := numsOf_length S
  by_cases h0 : S.size = 0
  · exact .inl ⟨List.eq_nil_of_length_eq_zero (by omega), .inr ⟨w2.heap.size, 0, c, by rw [h0]⟩⟩
  · refine .inr ⟨by omega, w2.heap.size, 0, c, by rw [hl], by omega, by simp, ?_⟩
    intro j hj
    show (w2.alloc _).cell? ⟨w2.heap.size, 0 + j, none⟩ = _
    rw [Nat.zero_add, World.cell?_alloc_mark]
    have hjs : j < S.data.size := by simpa [hl] using hj
    unfold bytesRow numsOf
    rw [Array.getElem?_append_left (by simpa using hjs)]
    simp only [List.getD, Array.getElem?_map, List.getElem?_map, Array.getElem?_toList, Array.getElem?_eq_getElem hjs, Option.map_some, Option.getD_some]
theorem bytesRow_size (S : ByteArray) (c : Nat) : S.size ≤ (bytesRow S c).size := by
  unfold bytesRow
  rw [Array.size_append]
  simp

/-- Bytes that are written into, the rest kept. -/
structure Wb (w3 wr : World) (b n : Nat) : Prop where
  os : wr.os = w3.os
  tape : wr.tape = w3.tape
  output : wr.output = w3.output
  size : wr.heap.size = w3.heap.size
  blk : ∀ k, k ≠ b → wr.heap[k]? = w3.heap[k]?
  cur : ∃ cur fz, wr.heap[b]? = some (.cells cur 5 (fz, fz + 1)) ∧ n ≤ cur.size ∧ n ≤ fz
theorem Wb.step {w3 wr : World} {b n : Nat} (h : Wb w3 wr b n) (j : Nat) (u : Value) : Wb w3 (wr.setCell ⟨b, j, none⟩ u) b n := by
  obtain ⟨cur, fz, h1, h2, h3⟩ := h.cur
  exact ⟨h.os, h.tape, h.output, by rw [World.size_setCell]; exact h.size, fun k hk => (heapSetO hk _ _).trans (h.blk k hk), _, fz, heapSet h1 j u, by simpa using h2, h3⟩
theorem Wb.cell {w3 wr : World} {b n : Nat} (h : Wb w3 wr b n) (j : Nat) (hj : j < n) : (∃ u, wr.cell? ⟨b, j, none⟩ = some u) ∧ wr.frozen? ⟨b, j, none⟩ = false := by
  obtain ⟨cur, fz, h1, h2, h3⟩ := h.cur
  refine ⟨⟨cur[j]'(by omega), by rw [cellB h1]; simp⟩, ?_⟩
  simp [World.frozen?, h1]
  omega
theorem pick26' (k : Int) (i : Nat) (w : World) (h0 : -9223372036854775808 ≤ k) (h1 : k ≤ 9223372036854775807) (h : pickM k 3 = (i : Int)) :
    Calls Tryz.prog 26 #[.int .i64 k, .int .i64 3] w fun e w' => e = .returned (.int .i64 i) ∧ w' = w := by
  rw [← h]
  exact pick26 k 3 w (by omega) (by omega) h0 h1

theorem ptr_cell {w : World} {hb db nb sb : Nat} {mb : Option Nat} {blk : Int} {L : Ld} {F : Nat → Prop} {B kb kc : Nat} {cb : Nat → Nat} {c : Nat → Cn} (H : HostAt w hb db nb sb mb blk L F B (.slice (some ⟨kb, 0, none⟩) 3 kc) 3 cb c) (i : Nat) (hi : i < 3) : w.cell? ⟨kb, i, none⟩ = some (.pointer (some ⟨cb i, 0, none⟩)) := by
  rw [H.ho.cellAt i (by omega)]
  unfold ptrs
  rw [List.getElem?_map, List.getElem?_range (by omega)]
  rfl

theorem ConnAt.waits_lt {w : World} {sb cb : Nat} {c : Cn} {F : Nat → Prop} (h : ConnAt w sb cb c F) {cw : Value} (h1 : w.heap[cb]? = some (.cells #[.pointer (some ⟨sb, 0, none⟩), cw, .bool c.bad] 103)) {g : Nat} (hg : cw.ownBlock = some g) : g < w.heap.size := by
  obtain ⟨cw', g1, g2, g3⟩ := h.mem
  have e : cw' = cw := by
    have := g1.symm.trans h1
    simpa using this
  subst e
  rcases g2 with ⟨_, rfl | ⟨sg, so, cap, rfl⟩⟩ | ⟨_, sg, so, cap, rfl, h2, _⟩
  · simp [Value.ownBlock] at hg
  · simp [Value.ownBlock] at hg
    subst hg
    exact (g3 _ _ _ _ rfl).2.2
  · simp [Value.ownBlock] at hg
    subst hg
    exact h2

/-- A call of a function, by its contract, in a region that draws. -/
theorem step_fn {ops : Array Oper} {o : Oper} {a : Act} {w : World} {K : Act → World → Prop} {Q : Exit → Act → World → Prop} {E : Prop} {R : Ending → World → Prop} (hg : o.guard = none) (f : FuncId) (hcf : ∀ vs w, Sem.run Tryz.prog (callFunc f vs) w = .ok (.enter f vs) w) (xs : Array Operand) (tys : Array TypeId)
    (hop : o.op = .call { callee := .value (.func f), args := xs, argTypes := tys }) (vs : Array Value) (hx : xs.map a.eval = vs) (hC : Calls Tryz.prog f vs w R)
    (hR : ∀ e w', R e w' → ∃ v, e = .returned v ∧ K (a.put o.dst v) w') :
    if Region.wanted o (yielded ops a.tmps) = true then Oper.wp Tryz.prog o a w K Q else E := by
  have hw : Region.wanted o (yielded ops a.tmps) = true := by simp [Region.wanted, hg]
  rw [if_pos hw]
  have hr : (execOp a.eval o).run Tryz.prog w = .ok (.enter f vs) w := by
    subst hx
    simp [execOp, hop, resolve, invoke, go_sem]
    exact hcf _ _
  unfold Oper.wp
  rw [hr, Oper.upon_enter]
  refine hC.mono ?_
  intro e w' h
  obtain ⟨v, rfl, h2⟩ := hR e w' h
  exact h2
theorem callFunc26 (vs : Array Value) (w : World) : Sem.run Tryz.prog (callFunc 26 vs) w = .ok (.enter 26 vs) w := by simp [go_sem]
theorem callFunc27 (vs : Array Value) (w : World) : Sem.run Tryz.prog (callFunc 27 vs) w = .ok (.enter 27 vs) w := by simp [go_sem]

set_option maxRecDepth 100000 in
set_option maxHeartbeats 1000000 in
theorem feed11g (kp pt : Int) (hb db nb sb : Nat) (mb : Option Nat) (blk : Int) (L : Ld) (F : Nat → Prop) (B : Nat) (cv : Value) (m : Nat) (cb : Nat → Nat) (c : Nat → Cn) (k now : Int) (s : ByteArray) (w : World) (H : HostAt w hb db nb sb mb blk L F B cv m cb c) (hm : m ≤ 3) (hB : B ≤ w.heap.size) (hq : m < 3 → ∀ i, c i = ⟨[], false⟩) (i : Nat) (hpk : pickM k 3 = (i : Int)) (k0 : -9223372036854775808 ≤ k) (k1 : k ≤ 9223372036854775807) (hL : L.ok) (h0 : 0 ≤ now) (h1 : now ≤ 18446744073709551615) (hbw : Bytes (c i).waits) (hlen : (c i).waits.length + (numsOf s).length ≤ 100000) :
    Calls Tryz.prog 11 #[.pointer (some ⟨hb, 0, none⟩), .int .i64 k, .int .u64 now, .string s, .int .i64 (-1), .int .i64 (-1), .int .i64 kp, .int .i64 pt] w fun e w' => ∃ F' cv' cb', e = .returned (.tuple #[.string (strOfNums (encs (feedM L (c i) now (numsOf s)).2.2)), .bool false]) ∧ HostAt w' hb db nb sb mb blk (feedM L (c i) now (numsOf s)).1 F' B cv' 3 cb' (fun j => if j = i then (feedM L (c i) now (numsOf s)).2.1 else c j) ∧ Keep (HG hb db F cv m cb) w w' ∧ ∀ b, HG hb db F' cv' 3 cb' b → HG hb db F cv m cb b ∨ w.heap.size ≤ b := by
  have hsz100 : s.size ≤ 100000 := by have := numsOf_length s; omega
  have hi3 : i < 3 := by have := (pickM_ok k 3 (by omega)).2; omega
  have hdo : Hid (∀ w1 L F1 q, SrvAt w1 1 sb L F1 → L.ok → q.ok → Calls Tryz.prog 69 #[.pointer (some ⟨sb, 0, none⟩), .agg #[.int .u8 q.op, .int .u8 q.k0, .int .u8 q.k1, .int .u8 q.k2, .int .u8 q.k3, .int .u8 q.k4, .int .u8 q.k5, .int .u8 q.k6, .int .u8 q.k7, .int .u8 q.kd, .int .u64 q.x, .int .u64 q.y, .int .u64 q.n]] w1 fun e w' => e = .returned (.agg #[.int .u8 (doM L q).2.c, .int .u64 (doM L q).2.a, .int .u64 (doM L q).2.b]) ∧ Out w1 1 sb (doM L q).1 F1 w') := hide (fun w1 L F1 q a b d => do69 1 sb L F1 q w1 a b d)
  have a0 := cellB H.hh
  obtain ⟨i0, hi, hz0, hz1, hz2⟩ := info_parts Tryz.info76
  go_enter Tryz.func11, Tryz.ntmps11
  go_wp2_with fail
  go_loopw [] (fun wr => ∃ cv' m' cb', m' ≤ 3 ∧ B ≤ wr.heap.size ∧ HostAt wr hb db nb sb mb blk L F B cv' m' cb' c ∧ (m' < 3 → ∀ i, c i = ⟨[], false⟩) ∧ Keep (HG hb db F cv m cb) w wr ∧ ∀ b, HG hb db F cv' m' cb' b → HG hb db F cv m cb b ∨ w.heap.size ≤ b) (fun wr => 3 - (match wr.cell? ⟨hb, 2, none⟩ with | some v => sliceLen v | none => 0))
  case atStart => exact ⟨cv, m, cb, hm, hB, H, hq, Keep.refl _ _, fun b h => Or.inl h⟩
  case round =>
    obtain ⟨cv1, m1, cb1, hm1, hB1, H1, hq1, hK1, hG1⟩ := hrel
    obtain ⟨x1, c1, e1⟩ : ∃ a c, cv1 = .slice a m1 c := own_sliceE H1.ho
    subst e1
    have a1 := cellB H1.hh
    have a2 := frozenB H1.hh
    clear a0
    by_cases hlt : m1 < 3
    · have hlt' : (m1 : Int) < 3 := by omega
      go_upto_region 4 with fail
      have a11 := a1 1
      have a12 := a1 2
      have hhw := H1.hh
      have HH1 := hide H1
      have HK1 := hide hK1
      have HG1 := hide hG1
      have HQ1 := hide (hq1 hlt)
      have HQ := hide hq
      clear a1 H1 hK1 hG1 hq1 hq
      go_region_law
        (first | (refine step_connect (by rfl) _ (by rfl) sb (by rfl) ?_; intro w2 hcn hsz2 hb2; have HS2 := hide hsz2; clear hsz2; have hh2 := (hb2.block hb (ltB hhw)).trans hhw; have q1 := cellB hh2 2; have hh3 := upB hh2 (.cells #[.pointer (some ⟨wr.heap.size, 0, none⟩)] 76); have q2 := cellB hh3 2) | (refine step_append_any (by rfl) _ _ 73 76 i0 (.pointer none) 1 8 Tryz.underlying73 hi hz0 hz1 hz2 (by rfl) (by decide) (by rfl) B (.slice x1 m1 c1) m1 (ptrs cb1 m1) (by rfl) (own_keptE HH1.out.ho (fun z hz => (heapOld _ _ (Nat.lt_of_lt_of_le (own_ltE HH1.out.ho hz).2 hb2.size)).trans (hb2.block z (own_ltE HH1.out.ho hz).2))) ⟨w2.heap.size, 0, none⟩ 1 1 [.pointer (some ⟨wr.heap.size, 0, none⟩)] (by rfl) (by rfl) (cell_one_new _ _ _) (by simp [Value.oneCell']) (by omega) (by omega) (Nat.le_trans hB1 (Nat.le_trans hb2.size (Below.size ((Below.refl 0 w2).alloc (Nat.zero_le _) _)))) ?_; intro v5 w4 hown4 hgr4 hloc4; obtain ⟨ya, yc, hyw⟩ := own_sliceE hown4; subst hyw; have hh4 := (hgr4.block hb (ltB hh3) (fun e => own_neE HH1.out.ho e.symm hhw (by decide) rfl)).trans hh3; have d1 := cellB hh4; have d2 := frozenB hh4))
      all_goals have hmo := HostAt.more HH1.out HQ1.out (N := wr.heap.size) rfl hB1 hcn HS2.out ⟨hb2.os, hb2.tape, hb2.output, hb2.size, hb2.block⟩ hown4 hgr4 hloc4
      all_goals have hK := HK1.out.then hmo.2.1 (fun i hi h => (HG1.out i h).elim id (fun h => absurd hi (Nat.not_lt.2 h)))
      all_goals have hbs := HK1.out.size
      all_goals have hms := cellB hmo.1.hh 2
      all_goals clear d1 d2 q1 q2 a11 a12 a2
      all_goals go_wp2_with fail
      all_goals go_roundw
      all_goals first | (exact ⟨_, m1 + 1, _, by omega, Nat.le_trans hB1 hmo.2.1.size, hmo.1, fun _ => HQ1.out, hK, fun b h => (hmo.2.2 b h).elim (HG1.out b) (fun h => Or.inr (Nat.le_trans hbs h))⟩) | skip
      all_goals rw [show (World.setCell _ _ _).cell? ⟨hb, 2, none⟩ = some (.slice ya (m1 + 1) yc) from hms, show wr.cell? ⟨hb, 2, none⟩ = some (.slice x1 m1 c1) from cellB hhw 2]
      all_goals simp only [sliceLen]
      all_goals omega
    · obtain rfl : m1 = 3 := by omega
      have hdw := H1.hd
      have hhw := H1.hh
      have n1 : ¬ hb = db := fun e => by
        have h := hdw
        rw [← e, hhw] at h
        simp at h
      have n2 : ¬ db = hb := fun e => n1 e.symm
      obtain ⟨V, hV⟩ : ∃ V, V = ((wr.setCell ⟨db, 3, none⟩ (.int .i64 (-1))).setCell ⟨db, 4, none⟩ (.int .i64 (-1))).drew := ⟨_, rfl⟩
      have hdV : V.heap[db]? = wr.heap[db]? := by rw [hV, heapDrew, hdw]; simpa using heapSet (heapSet hdw 3 (.int .i64 (-1))) 4 (.int .i64 (-1))
      have hkV : ∀ k, V.heap[k]? = wr.heap[k]? := fun k => by
        by_cases e : k = db
        · rw [e]; exact hdV
        · rw [hV, heapDrew, heapSetO e, heapSetO e]
      have hsV : V.heap.size = wr.heap.size := by rw [hV]; simp
      have HV : HostAt V hb db nb sb mb blk L F B (.slice x1 3 c1) 3 cb1 c := H1.kept (Nat.le_of_eq hsV.symm) (fun k _ => hkV k)
      have hKV : Keep (HG hb db F cv m cb) w V := ⟨by rw [hV]; exact hK1.os, by rw [hV]; exact hK1.tape, by rw [hV]; exact hK1.output, by rw [hsV]; exact hK1.size, fun k hk hG => (hkV k).trans (hK1.block k hk hG)⟩
      have b := cellB hhw
      have b1 := cellB hdw
      have b2 := frozenB hdw
      have HQ := hide hq
      clear a1 a2 hq
      go_upto_region 5 with fail
      have b0 := b 0
      clear b
      go_cut [] (fun wx => wx = V)
      case first =>
        go_region_held3 (fun w' => w'.cell? ⟨hb, 0, none⟩ = some (.pointer (some ⟨db, 0, none⟩))) (go_keep) (fail)
        all_goals (go_wp2_with fail; go_meet)
        all_goals exact hV.symm
      case rest =>
        subst hcut
        clear hV b0 b1 b2 hdV
        have hbs := fun (w : World) (s : ByteArray) => run_bytes_of_string (P := Tryz.prog) w 9 69 5 s Tryz.underlying9 Tryz.underlying69 Tryz.underlying5
        obtain ⟨kb, kc, hkv, hkb, hkl⟩ := HV.ho.form (by decide)
        injection hkv with e1 _ e2
        subst e1 e2
        have hBV : B ≤ wc.heap.size := by rw [hsV]; exact hB1
        have hGV : ∀ b, HG hb db F (.slice (some ⟨kb, 0, none⟩) 3 c1) 3 cb1 b → HG hb db F cv m cb b ∨ w.heap.size ≤ b := hG1
        have HSV := hide hsV
        clear hsV H1 hK1 hG1 hkV hB1 hdw hhw hm1
        go_upto_region 7 with fail
        obtain ⟨D, hD⟩ : ∃ D, D = grownCap wc s.size 0 5 := ⟨_, rfl⟩
        have hDs : s.size ≤ D := by rw [hD]; simpa using grownCap_ge wc s.size 0 5
        rw [← hD]
        obtain ⟨U, hU⟩ : ∃ U, U = (wc.alloc (.cells (bytesRow s D) 5 ((bytesRow s D).size, (bytesRow s D).size + 1))).drew := ⟨_, rfl⟩
        have hsl : Sl U (.slice (some ⟨wc.heap.size, 0, none⟩) s.size D) (numsOf s) := hU ▸ Sl.of_bytes wc s D hDs
        have hbk : U.heap[wc.heap.size]? = some (.cells (bytesRow s D) 5 ((bytesRow s D).size, (bytesRow s D).size + 1)) := by rw [hU]; exact heapNew _ _
        have hkU : ∀ k, k < wc.heap.size → U.heap[k]? = wc.heap[k]? := fun k hk => by rw [hU]; exact heapOld _ _ hk
        have hsU : U.heap.size = wc.heap.size + 1 := by rw [hU]; simp
        have HU : HostAt U hb db nb sb mb blk L F B (.slice (some ⟨kb, 0, none⟩) 3 c1) 3 cb1 c := HV.kept (by omega) hkU
        have hKU : Keep (HG hb db F cv m cb) w U := by rw [hU]; exact (hKV.alloc _).drew
        have hwl := hKV.size
        rw [← hU]
        obtain ⟨wb, hwb⟩ : ∃ wb, wb = wc.heap.size := ⟨_, rfl⟩
        have hkF : ¬ HG hb db F (.slice (some ⟨kb, 0, none⟩) 3 c1) 3 cb1 wb := fun h => by
          have := HV.lt wb h
          omega
        have HWN : Hid (WaitN U.drew sb 3 cb1 c wb) := hide (fun j hj cw hcw hown => by
          have h2 := (HV.hc j hj).waits_lt ((hkU _ (ltB (HV.hc j hj).mem.choose_spec.1)).symm.trans hcw) hown
          omega)
        clear hU hkU HV hKV hbs
        rw [← hwb] at hsl hbk hsU hwl hBV ⊢
        have hbl := HU.lt
        have HBK := hide hbk
        have HWL := hide hwl
        have HGV := hide hGV
        have HKU := hide hKU
        have HSU := hide hsU
        have HBL := hide hbl
        have HKF := hide hkF
        have f1 := cellB HU.hh 2
        have f2 : U.cell? ⟨kb, i, none⟩ = some (.pointer (some ⟨cb1 i, 0, none⟩)) := ptr_cell HU i hi3
        have hh2 := HU.hh
        have HHU : Hid (HostAt U.drew hb db nb sb mb blk L F B (.slice (some ⟨kb, 0, none⟩) 3 c1) 3 cb1 c) := hide (HU.kept (Nat.le_refl _) (fun _ _ => rfl))
        have HBU : Hid (B ≤ U.drew.heap.size) := hide (by show B ≤ U.heap.size; omega)
        have HSL : Hid (Src U.drew (.slice (some ⟨wb, 0, none⟩) s.size D) (numsOf s)) := hide (hsl.src.kept (Nat.le_refl _) (fun _ _ _ _ _ _ => rfl))
        have HVF : Hid (∀ g o n d, Value.slice (some ⟨wb, 0, none⟩) s.size D = .slice (some ⟨g, o, none⟩) n d → ¬ F g) := hide (fun g o n d h hF => HKF.out (by injection h with h _ _; injection h with h; injection h with h _; exact Or.inr (Or.inr (Or.inl (h ▸ hF)))))
        clear hbk hwl hGV hKU hsU hbl hkF HU hsl hD hwb
        have hi0 : (0 : Int) ≤ (i : Int) := by omega
        have hi3' : (i : Int) < 3 := by omega
        have hwbU : wb < U.heap.size := by rw [HSU.out]; omega
        go_cut [19] (fun o wx => o = .string (strOfNums (encs (feedM L (c i) now (numsOf s)).2.2)) ∧ ∃ F3, HostAt wx hb db nb sb mb blk (feedM L (c i) now (numsOf s)).1 F3 B (.slice (some ⟨kb, 0, none⟩) 3 c1) 3 cb1 (fun j => if j = i then (feedM L (c i) now (numsOf s)).2.1 else c j) ∧ Keep (HG hb db F (.slice (some ⟨kb, 0, none⟩) 3 c1) 3 cb1) U.drew wx ∧ (∀ b, HG hb db F3 (.slice (some ⟨kb, 0, none⟩) 3 c1) 3 cb1 b → HG hb db F (.slice (some ⟨kb, 0, none⟩) 3 c1) 3 cb1 b ∨ U.drew.heap.size ≤ b) ∧ WaitN wx sb 3 cb1 (fun j => if j = i then (feedM L (c i) now (numsOf s)).2.1 else c j) wb)
        case first =>
          go_region_law
            (first | (refine step_fn (by rfl) 26 callFunc26 _ _ (by rfl) #[.int .i64 k, .int .i64 3] (by simp only [List.map_toArray, List.map_cons, List.map_nil]; rfl) (pick26' k i _ k0 k1 hpk) ?_; rintro e w1 ⟨rfl, rfl⟩; refine ⟨_, rfl, ?_⟩) | (refine step_fn (by rfl) 27 callFunc27 _ _ (by rfl) #[.pointer (some ⟨cb1 i, 0, none⟩), .int .u64 now, .slice (some ⟨wb, 0, none⟩) s.size D] (by simp only [List.map_toArray, List.map_cons, List.map_nil]; rfl) (feed27 sb (cb1 i) F L (c i) _ now (numsOf s) U.drew HHU.out.hs hL h0 h1 (HHU.out.hc i hi3) HSL.out (numsOf_bytes s) hbw hlen HVF.out hdo) ?_; rintro e w3 ⟨rv, rfl, hP⟩; refine ⟨_, rfl, ?_⟩; obtain ⟨F3, H3, hK3, hG3, hown3, hW3⟩ := HostAt.fed HHU.out HBU.out i hi3 hP; have hcv := conv_own hown3 rfl))
          all_goals (go_wp2_with fail; go_meet)
          all_goals exact ⟨rfl, F3, H3, hK3, hG3, hW3 wb hwbU HWN.out⟩
        case rest =>
          obtain ⟨rfl, F3, H3, hK3, hG3, hWN3⟩ := hcut
          obtain ⟨w3, hw3⟩ : ∃ w3, w3 = wc := ⟨_, rfl⟩
          rw [← hw3] at H3 hK3 hWN3 ⊢
          clear hw3
          have hsd : U.drew.heap.size = U.heap.size := rfl
          have hs3 := hK3.size
          have hKw : Keep (HG hb db F cv m cb) w w3 := HKU.out.drew.then hK3 (fun b hb' h => (HGV.out b h).elim id (fun h => absurd hb' (Nat.not_lt.2 h)))
          have hGw : ∀ b, HG hb db F3 (.slice (some ⟨kb, 0, none⟩) 3 c1) 3 cb1 b → HG hb db F cv m cb b ∨ w.heap.size ≤ b := fun b h => (hG3 b h).elim (HGV.out b) (fun h => Or.inr (Nat.le_trans (HKU.out.size) h))
          have hb3 : w3.heap[wb]? = some (.cells (bytesRow s D) 5 ((bytesRow s D).size, (bytesRow s D).size + 1)) := (hK3.block wb hwbU HKF.out).trans HBK.out
          have hN3 : ¬ HG hb db F3 (.slice (some ⟨kb, 0, none⟩) 3 c1) 3 cb1 wb := fun h => (hG3 wb h).elim HKF.out (fun h => by omega)
          have hWb : Wb w3 w3 wb s.size := ⟨rfl, rfl, rfl, rfl, fun _ _ => rfl, _, _, hb3, bytesRow_size s D, bytesRow_size s D⟩
          obtain ⟨out, hout⟩ : ∃ out, out = strOfNums (encs (feedM L (c i) now (numsOf s)).2.2) := ⟨_, rfl⟩
          rw [← hout]
          have HOUT := hide hout
          have HH3 := hide H3
          have HKW := hide hKw
          have HGW := hide hGw
          have HN3 := hide hN3
          have HW3 := hide hWN3
          have HWB := hide hWb
          have hwl := HWL.out
          clear hout H3 hKw hGw hN3 hWN3 hWb hK3 hG3 f1 f2 hh2 hb3 hdo HSL HVF HBU HHU HKU HGV
          go_wp2_with fail
          go_loopw [77] (fun z wz => ∃ j : Nat, j ≤ s.size ∧ z = .int .i64 j ∧ Wb w3 wz wb s.size) (fun z _ => s.size - (intOf z).toNat)
          case atStart => exact ⟨0, Nat.zero_le _, rfl, HWB.out⟩
          case round =>
            obtain ⟨j, hj, rfl, LW⟩ := hrel
            by_cases hlt : j < s.size
            · obtain ⟨⟨u, hu⟩, hfz⟩ := LW.cell j hlt
              go_wp2
              go_roundw
              case rel => exact ⟨j + 1, by omega, by go_num, LW.step j _⟩
              case measure => simp [intOf]; omega
            · obtain rfl : j = s.size := by omega
              have HZ : HostAt wr hb db nb sb mb blk (feedM L (c i) now (numsOf s)).1 F3 B (.slice (some ⟨kb, 0, none⟩) 3 c1) 3 cb1 (fun j => if j = i then (feedM L (c i) now (numsOf s)).2.1 else c j) := HH3.out.keptE wb HN3.out HW3.out (Nat.le_of_eq LW.size.symm) (fun k _ h => LW.blk k h)
              have hKZ : Keep (HG hb db F cv m cb) w wr := ⟨LW.os.trans HKW.out.os, LW.tape.trans HKW.out.tape, LW.output.trans HKW.out.output, by rw [LW.size]; exact HKW.out.size, fun k hk hG => (LW.blk k (by omega)).trans (HKW.out.block k hk hG)⟩
              have hhz := HZ.hh
              have hdz := HZ.hd
              have a3 := cellB hhz 0
              have a4 := cellB hdz 5
              have HHZ := hide HZ
              have HKZ := hide hKZ
              clear HZ hKZ LW
              go_wp2_with fail
              refine (after28 hb db mb (some nb) _ _ _ _ (-1) (-1) kp pt _ hhz hdz).mono ?_
              rintro e w5 ⟨rfl, e1, e2⟩
              go_wp2
              go_ret2
              refine ⟨F3, _, cb1, by rw [← HOUT.out]; rfl, HHZ.out.kept e2.size (fun q hq => ?_), HKZ.out.then e2 (fun q _ h => Or.inr (Or.inl h)), HGW.out⟩
              by_cases hqd : q = db
              · rw [hqd]; exact e1.trans hdz.symm
              · exact e2.block q hq hqd
theorem feed11 (hb db nb sb : Nat) (mb : Option Nat) (blk : Int) (L : Ld) (F : Nat → Prop) (B : Nat) (cv : Value) (m : Nat) (cb : Nat → Nat) (c : Nat → Cn) (k now : Int) (s : ByteArray) (w : World) (H : HostAt w hb db nb sb mb blk L F B cv m cb c) (hm : m ≤ 3) (hB : B ≤ w.heap.size) (hq : m < 3 → ∀ i, c i = ⟨[], false⟩) (i : Nat) (hpk : pickM k 3 = (i : Int)) (k0 : -9223372036854775808 ≤ k) (k1 : k ≤ 9223372036854775807) (hL : L.ok) (h0 : 0 ≤ now) (h1 : now ≤ 18446744073709551615) (hbw : Bytes (c i).waits) (hlen : (c i).waits.length + (numsOf s).length ≤ 100000) :
    Calls Tryz.prog 11 #[.pointer (some ⟨hb, 0, none⟩), .int .i64 k, .int .u64 now, .string s, .int .i64 (-1), .int .i64 (-1), .int .i64 0, .int .i64 0] w fun e w' => ∃ F' cv' cb', e = .returned (.tuple #[.string (strOfNums (encs (feedM L (c i) now (numsOf s)).2.2)), .bool false]) ∧ HostAt w' hb db nb sb mb blk (feedM L (c i) now (numsOf s)).1 F' B cv' 3 cb' (fun j => if j = i then (feedM L (c i) now (numsOf s)).2.1 else c j) ∧ Keep (HG hb db F cv m cb) w w' ∧ ∀ b, HG hb db F' cv' 3 cb' b → HG hb db F cv m cb b ∨ w.heap.size ≤ b :=
  feed11g 0 0 hb db nb sb mb blk L F B cv m cb c k now s w H hm hB hq i hpk k0 k1 hL h0 h1 hbw hlen
end Go.Proofs.YtlamgpeiolfffaaGreatDoor

namespace Go.Proofs.YtlamgpeiolfffaaGreatDoor
open Go.RowKit

theorem ansA {W w2 : World} {bb base : Nat} {lv lv' : Value} {B' : Bk} {r : Rp} (HP : BookAt w2 bb base lv' B') (HK : Keep (fun b => b = bb ∨ lv.ownBlock = some b) W.drew w2) (HL : ∀ g, lv'.ownBlock = some g → lv.ownBlock = some g ∨ W.drew.heap.size ≤ g) :
    ∃ R lv', Value.pointer (some ⟨w2.heap.size, 0, none⟩) = .pointer (some ⟨R, 0, none⟩) ∧ W.heap.size ≤ R ∧ (w2.alloc (.cells #[.int .u8 r.c, .int .u64 r.a, .int .u64 r.b] 40)).heap[R]? = some (.cells #[.int .u8 r.c, .int .u64 r.a, .int .u64 r.b] 40) ∧ BookAt (w2.alloc (.cells #[.int .u8 r.c, .int .u64 r.a, .int .u64 r.b] 40)) bb base lv' B' ∧ Keep (fun b => b = bb ∨ lv.ownBlock = some b) W (w2.alloc (.cells #[.int .u8 r.c, .int .u64 r.a, .int .u64 r.b] 40)) ∧ (∀ g, lv'.ownBlock = some g → lv.ownBlock = some g ∨ W.heap.size ≤ g) :=
  ⟨w2.heap.size, lv', rfl, HK.size, heapNew _ _, ⟨upB HP.hb _, own_keptE HP.ho (fun _g hg => heapOld _ _ (own_ltE HP.ho hg).2)⟩, (show Keep _ W w2 from ⟨HK.os, HK.tape, HK.output, HK.size, HK.block⟩).alloc _, HL⟩
theorem ansB {W w2 : World} {o : Obj} {bb base : Nat} {lv lv' : Value} {B' : Bk} {r : Rp} (HP : BookAt w2 bb base lv' B') (HK : Keep (fun b => b = bb ∨ lv.ownBlock = some b) (W.alloc o).drew w2) (HL : ∀ g, lv'.ownBlock = some g → lv.ownBlock = some g ∨ (W.alloc o).drew.heap.size ≤ g) (hN : ¬ (W.heap.size = bb ∨ lv.ownBlock = some W.heap.size))
    (HZ : w2.heap[W.heap.size]? = some (.cells #[.int .u8 0, .int .u64 0, .int .u64 0] 40)) :
    ∃ R lv', Value.pointer (some ⟨W.heap.size, 0, none⟩) = .pointer (some ⟨R, 0, none⟩) ∧ W.heap.size ≤ R ∧ (((w2.setCell ⟨W.heap.size, 0, none⟩ (.int .u8 r.c)).setCell ⟨W.heap.size, 1, none⟩ (.int .u64 r.a)).setCell ⟨W.heap.size, 2, none⟩ (.int .u64 r.b)).heap[R]? = some (.cells #[.int .u8 r.c, .int .u64 r.a, .int .u64 r.b] 40) ∧ BookAt (((w2.setCell ⟨W.heap.size, 0, none⟩ (.int .u8 r.c)).setCell ⟨W.heap.size, 1, none⟩ (.int .u64 r.a)).setCell ⟨W.heap.size, 2, none⟩ (.int .u64 r.b)) bb base lv' B' ∧ Keep (fun b => b = bb ∨ lv.ownBlock = some b) W (((w2.setCell ⟨W.heap.size, 0, none⟩ (.int .u8 r.c)).setCell ⟨W.heap.size, 1, none⟩ (.int .u64 r.a)).setCell ⟨W.heap.size, 2, none⟩ (.int .u64 r.b)) ∧ (∀ g, lv'.ownBlock = some g → lv.ownBlock = some g ∨ W.heap.size ≤ g) := by
  have hsz : (W.alloc o).drew.heap.size = W.heap.size + 1 := by show (W.alloc o).heap.size = _; simp
  have h1 : bb ≠ W.heap.size := fun e => hN (Or.inl e.symm)
  have h2 : ∀ g, lv'.ownBlock = some g → g ≠ W.heap.size := fun g hg e => (HL g hg).elim (fun h => hN (Or.inr (e ▸ h))) (fun h => by omega)
  have hk : Keep (fun b => b = bb ∨ lv.ownBlock = some b) W w2 := ⟨HK.os, HK.tape, HK.output, by have := HK.size; omega, fun k hk hS => (HK.block k (by omega) hS).trans (heapOld W o hk)⟩
  refine ⟨W.heap.size, lv', rfl, Nat.le_refl _, heapSet3 HZ _ _ _, ⟨?_, own_keptE HP.ho (fun g hg => ?_)⟩, ((hk.set (Or.inr (Nat.le_refl _)) _ _).set (Or.inr (Nat.le_refl _)) _ _).set (Or.inr (Nat.le_refl _)) _ _, fun g hg => (HL g hg).imp id (fun h => by omega)⟩
  · exact (heapSetO h1 _ _).trans ((heapSetO h1 _ _).trans ((heapSetO h1 _ _).trans HP.hb))
  · exact (heapSetO (h2 g hg) _ _).trans ((heapSetO (h2 g hg) _ _).trans (heapSetO (h2 g hg) _ _))

set_option maxRecDepth 100000 in
set_option maxHeartbeats 4000000 in
theorem answered53 (wb bb base : Nat) (lv c0 c2 c3 c4 f0 f1 f2 f3 f4 f5 f6 f7 f8 f9 f10 f11 f12 was win least : Value) (lt : Int) (B B' : Bk) (q : Rq) (r : Rp) (w : World) (hw : w.heap[wb]? = some (.cells #[c0, .pointer (some ⟨bb, 0, none⟩), c2, c3, c4, .bool false, f0, f1, f2, f3, f4, f5, f6, f7, f8, f9, f10, f11, f12, was, win, least, .int .u64 lt] 60)) (h : BookAt w bb base lv B) (hB : B.ok) (hq : q.ok) (ho : q.op ∈ [1, 2, 3, 4, 5, 6]) (hba : base ≤ w.heap.size) (hask : askM B q = (B', r)) (h7 : r.c ≠ 7) (_hlt0 : 0 ≤ lt) (_hlt1 : lt ≤ 18446744073709551615) (lt' : Int) (hlt' : lt' = if r.c = 2 then (lt + q.n) % 18446744073709551616 else lt) :
    Calls Tryz.prog 53 #[.pointer (some ⟨wb, 0, none⟩), .agg #[.int .u8 q.op, .int .u8 q.k0, .int .u8 q.k1, .int .u8 q.k2, .int .u8 q.k3, .int .u8 q.k4, .int .u8 q.k5, .int .u8 q.k6, .int .u8 q.k7, .int .u8 q.kd, .int .u64 q.x, .int .u64 q.y, .int .u64 q.n], .agg #[.int .u8 r.c, .int .u64 r.a, .int .u64 r.b]] w fun e w' => e = .returned (.bool true) ∧ ∃ lv' least', BookAt w' bb base lv' B' ∧ w'.heap[wb]? = some (.cells #[c0, .pointer (some ⟨bb, 0, none⟩), c2, c3, c4, .bool false, f0, f1, f2, f3, f4, f5, f6, f7, f8, f9, f10, f11, f12, was, win, least', .int .u64 lt'] 60) ∧ Keep (fun b => b = bb ∨ b = wb ∨ lv.ownBlock = some b) w w' ∧ (∀ g, lv'.ownBlock = some g → lv.ownBlock = some g ∨ w.heap.size ≤ g) := by
  have hC : ∀ V, BookAt V bb base lv B → base ≤ V.heap.size → Calls Tryz.prog 57 #[.pointer (some ⟨bb, 0, none⟩), .agg #[.int .u8 q.op, .int .u8 q.k0, .int .u8 q.k1, .int .u8 q.k2, .int .u8 q.k3, .int .u8 q.k4, .int .u8 q.k5, .int .u8 q.k6, .int .u8 q.k7, .int .u8 q.kd, .int .u64 q.x, .int .u64 q.y, .int .u64 q.n]] V fun e w' => ∃ lv', e = .returned (.agg #[.int .u8 r.c, .int .u64 r.a, .int .u64 r.b]) ∧ BookAt w' bb base lv' B' ∧ Keep (fun b => b = bb ∨ lv.ownBlock = some b) V w' ∧ (∀ g, lv'.ownBlock = some g → lv.ownBlock = some g ∨ V.heap.size ≤ g) := fun V hV hb => by
    have := ask57 bb base lv B q V hV hB hq ho hb
    unfold AskPost at this
    rw [hask] at this
    exact this
  have HC := hide hC
  have hqn := hq.n
  have HLT := hide hlt'
  have hwbb : wb ≠ bb := fun e => by have := hw.symm.trans (e ▸ h.hb); simp at this
  have hown : ∀ g, lv.ownBlock = some g → g ≠ wb := fun g hg => own_neE h.ho hg hw (by decide)
  have hlw := ltB hw
  have hlb := ltB h.hb
  clear hC hask hB ho hlt'
  go_enter Tryz.func53, Tryz.ntmps53
  go_upto_region 3 with fail
  obtain ⟨W, hW⟩ : ∃ W, W = (w.alloc (.cells #[.int .u8 q.op, .int .u8 q.k0, .int .u8 q.k1, .int .u8 q.k2, .int .u8 q.k3, .int .u8 q.k4, .int .u8 q.k5, .int .u8 q.k6, .int .u8 q.k7, .int .u8 q.kd, .int .u64 q.x, .int .u64 q.y, .int .u64 q.n] 58)).alloc (.cells #[.int .u8 r.c, .int .u64 r.a, .int .u64 r.b] 40) := ⟨_, rfl⟩
  rw [← hW]
  have hBe : Below w.heap.size w W := hW ▸ ((Below.refl _ w).alloc (Nat.le_refl _) _).alloc (by simp) _
  have hq0 : W.heap[w.heap.size]? = some (.cells #[.int .u8 q.op, .int .u8 q.k0, .int .u8 q.k1, .int .u8 q.k2, .int .u8 q.k3, .int .u8 q.k4, .int .u8 q.k5, .int .u8 q.k6, .int .u8 q.k7, .int .u8 q.kd, .int .u64 q.x, .int .u64 q.y, .int .u64 q.n] 58) := hW ▸ upB (heapNew _ _) _
  have hr0 : W.heap[w.heap.size + 1]? = some (.cells #[.int .u8 r.c, .int .u64 r.a, .int .u64 r.b] 40) := hW ▸ heapN (by simp)
  have hw0 : W.heap[wb]? = some (.cells #[c0, .pointer (some ⟨bb, 0, none⟩), c2, c3, c4, .bool false, f0, f1, f2, f3, f4, f5, f6, f7, f8, f9, f10, f11, f12, was, win, least, .int .u64 lt] 60) := hW ▸ upB (upB hw _) _
  have hbk0 : BookAt W bb base lv B := ⟨(hBe.block bb hlb).trans h.hb, own_keptE h.ho (fun g hg => hBe.block g (own_ltE h.ho hg).2)⟩
  have hsW := hBe.size
  have hlr := ltB hr0
  have hownq : ∀ g, lv.ownBlock = some g → g < w.heap.size := fun g hg => (own_ltE h.ho hg).2
  clear hW hw h
  have a1 := cellB hq0
  have a2 := fun o => upC hq0 o
  have a3 := cellB hw0
  have a4 := fun o => upC hw0 o
  have HB1 : Hid (BookAt W.drew bb base lv B) := hide ⟨hbk0.hb, hbk0.ho⟩
  have HB2 : Hid (∀ o, BookAt (W.alloc o).drew bb base lv B) := hide (fun o => ⟨upB hbk0.hb o, own_keptE hbk0.ho (fun g hg => heapOld W o (own_ltE hbk0.ho hg).2)⟩)
  have HBA : Hid (base ≤ W.heap.size) := hide (by omega)
  have HBA2 : Hid (∀ o, base ≤ (W.alloc o).drew.heap.size) := hide (fun o => by show base ≤ (W.alloc o).heap.size; simp; omega)
  have HSA : Hid (∀ o, W.heap.size < (W.alloc o).drew.heap.size) := hide (fun o => by show W.heap.size < (W.alloc o).heap.size; simp)
  have HNB : Hid (¬ (W.heap.size = bb ∨ lv.ownBlock = some W.heap.size)) := hide (fun e => e.elim (fun e => by omega) (fun e => by have := hownq _ e; omega))
  have HBE := hide hBe
  have HW0 := hide hw0
  have HQ0 := hide hq0
  have HR0 := hide hr0
  have HOQ := hide hownq
  have HOW := hide hown
  clear hBe hw0 hq0 hr0 hownq hown hbk0
  go_cut [7] (fun p wx => ∃ R lv', p = .pointer (some ⟨R, 0, none⟩) ∧ W.heap.size ≤ R ∧ wx.heap[R]? = some (.cells #[.int .u8 r.c, .int .u64 r.a, .int .u64 r.b] 40) ∧ BookAt wx bb base lv' B' ∧ Keep (fun b => b = bb ∨ lv.ownBlock = some b) W wx ∧ (∀ g, lv'.ownBlock = some g → lv.ownBlock = some g ∨ W.heap.size ≤ g))
  case first =>
    go_region_with (first
      | (go_at_call 57; refine (HC.out W.drew HB1.out HBA.out).mono ?_; rintro e w2 ⟨lv', rfl, hb2, hk2, hl2⟩; have HP := hide hb2; have HK := hide hk2; have HL := hide hl2; clear hb2 hk2 hl2)
      | (go_at_call 57; refine (HC.out _ (HB2.out _) (HBA2.out _)).mono ?_; rintro e w2 ⟨lv', rfl, hb2, hk2, hl2⟩; have hz := (hk2.block W.heap.size (HSA.out _) HNB.out).trans (heapNew W _); have d1 := cellB hz; have d2 := frozenB hz; have HZ := hide hz; clear hz; have HP := hide hb2; have HK := hide hk2; have HL := hide hl2; clear hb2 hk2 hl2))
    all_goals (go_wp2_with fail; go_meet)
    all_goals first
      | exact ansA HP.out HK.out HL.out
      | exact ansB HP.out HK.out HL.out HNB.out HZ.out
  case rest =>
    obtain ⟨R, lv', rfl, hR, hr1, hbk1, hk1, hl1⟩ := hcut
    obtain ⟨U, hU⟩ : ∃ U, U = wc := ⟨_, rfl⟩
    rw [← hU] at hr1 hbk1 hk1 ⊢
    clear hU
    have hw1 := (hk1.block wb (by omega) (fun e => e.elim hwbb (fun e => HOW.out _ e rfl))).trans HW0.out
    have hq1 := (hk1.block w.heap.size (by omega) (fun e => e.elim (fun e => by omega) (fun e => by have := HOQ.out _ e; omega))).trans HQ0.out
    have hr2 := (hk1.block (w.heap.size + 1) (by omega) (fun e => e.elim (fun e => by omega) (fun e => by have := HOQ.out _ e; omega))).trans HR0.out
    have hbb1 := hbk1.hb
    have a5 := cellB hw1
    have a6 := frozenB hw1
    have a7 := cellB hq1
    have a8 := cellB hr2
    have a9 := cellB hr1
    have a10 := cellB hbb1
    have HBK := hide hbk1
    have HK1 := hide hk1
    have HL1 := hide hl1
    have HW1 := hide hw1
    have HQ1 := hide hq1
    have HR1 := hide hr2
    clear hbk1 hk1 hl1 hw1 hq1 hr2 hr1 hbb1 a1 a2 a3 a4
    have hKw : Keep (fun b => b = bb ∨ b = wb ∨ lv.ownBlock = some b) w U := (Keep.of_below HBE.out).trans (HK1.out.mono (fun k h _ => h.elim Or.inl (fun h => Or.inr (Or.inr h))))
    have hLw : ∀ g, lv'.ownBlock = some g → lv.ownBlock = some g ∨ w.heap.size ≤ g := fun g hg => (HL1.out g hg).imp id (fun h => by omega)
    have hBs : ∀ j v, BookAt (U.setCell ⟨wb, j, none⟩ v) bb base lv' B' := fun j v => ⟨(heapSetO (fun e => hwbb e.symm) _ _).trans HBK.out.hb, own_keptE HBK.out.ho (fun g hg => heapSetO ((HL1.out g hg).elim (HOW.out g) (fun h => by omega)) _ _)⟩
    have HKW := hide hKw
    have HLW := hide hLw
    have HBS := hide hBs
    clear hKw hLw hBs
    by_cases h2 : r.c = 2
    · have elt : IntKind.u64.wrap (lt + q.n) = lt' := by rw [HLT.out, if_pos h2, IntKind.wrap_u64]
      have ELT := hide elt
      clear elt
      have n1 : ¬ r.c = 1 := by omega
      go_upto_region 7 with fail
      go_cut [] (fun wx => wx.heap[wb]? = some (.cells #[c0, .pointer (some ⟨bb, 0, none⟩), c2, c3, c4, .bool false, f0, f1, f2, f3, f4, f5, f6, f7, f8, f9, f10, f11, f12, was, win, least, .int .u64 lt'] 60) ∧ BookAt wx bb base lv' B' ∧ Keep (fun b => b = bb ∨ b = wb ∨ lv.ownBlock = some b) w wx ∧ wx.heap[w.heap.size]? = some (.cells #[.int .u8 q.op, .int .u8 q.k0, .int .u8 q.k1, .int .u8 q.k2, .int .u8 q.k3, .int .u8 q.k4, .int .u8 q.k5, .int .u8 q.k6, .int .u8 q.k7, .int .u8 q.kd, .int .u64 q.x, .int .u64 q.y, .int .u64 q.n] 58) ∧ wx.heap[w.heap.size + 1]? = some (.cells #[.int .u8 r.c, .int .u64 r.a, .int .u64 r.b] 40))
      case first =>
        go_region
        all_goals (go_wp2_with fail; go_meet)
        all_goals (rw [ELT.out]; exact ⟨(by have h22 := heapSet HW1.out 22 (Value.int .u64 lt'); simpa using h22 : (U.setCell ⟨wb, 22, none⟩ (.int .u64 lt')).heap[wb]? = some (.cells #[c0, .pointer (some ⟨bb, 0, none⟩), c2, c3, c4, .bool false, f0, f1, f2, f3, f4, f5, f6, f7, f8, f9, f10, f11, f12, was, win, least, .int .u64 lt'] 60)), ⟨(HBS.out 22 _).hb, (HBS.out 22 _).ho⟩, (HKW.out.set (Or.inl (Or.inr (Or.inl rfl))) _ _).drew, (heapSetO (by omega) _ _).trans HQ1.out, (heapSetO (by omega) _ _).trans HR1.out⟩)
      case rest =>
        obtain ⟨z1, z2, z3, z4, z5⟩ := hcut
        obtain ⟨X, hX⟩ : ∃ X, X = wc := ⟨_, rfl⟩
        rw [← hX] at z1 z2 z3 z4 z5 ⊢
        clear hX a5 a6 a7 a8 a9 a10
        have b1 := cellB z5
        have b2 := cellB z4
        have Z1 := hide z1
        have Z2 := hide z2
        have Z3 := hide z3
        clear z1 z2 z3 z4 z5
        go_wp2_with fail
        exact bodyPost_ret (v := .bool true) (by simp [results, Tryz.results53, go_sem]) rfl ⟨rfl, lv', least, Z2.out, Z1.out, Z3.out, HLW.out⟩
    · have elt : lt = lt' := by rw [HLT.out, if_neg h2]
      have HW2 : Hid (U.heap[wb]? = some (.cells #[c0, .pointer (some ⟨bb, 0, none⟩), c2, c3, c4, .bool false, f0, f1, f2, f3, f4, f5, f6, f7, f8, f9, f10, f11, f12, was, win, least, .int .u64 lt'] 60)) := hide (by rw [← elt]; exact HW1.out)
      clear elt
      by_cases h1 : r.c = 1 ∧ (q.op = 1 ∨ q.op = 4 ∨ q.op = 5)
      · obtain ⟨e1, h1⟩ := h1
        rcases h1 with e2 | e2 | e2
        all_goals (go_wp2_with fail)
        all_goals exact bodyPost_ret (v := .bool true) (by simp [results, Tryz.results53, go_sem]) rfl ⟨rfl, lv', _, HBS.out 21 _, by simpa using heapSet HW2.out 21 _, HKW.out.set (Or.inl (Or.inr (Or.inl rfl))) _ _, HLW.out⟩
      · by_cases e1 : r.c = 1
        · have n1 : (q.op == 1) = false := by rw [beq_eq_false_iff_ne]; exact fun e => h1 ⟨e1, Or.inl e⟩
          have n4 : (q.op == 4) = false := by rw [beq_eq_false_iff_ne]; exact fun e => h1 ⟨e1, Or.inr (Or.inl e)⟩
          have n5 : (q.op == 5) = false := by rw [beq_eq_false_iff_ne]; exact fun e => h1 ⟨e1, Or.inr (Or.inr e)⟩
          clear h1
          go_wp2_with fail
          exact bodyPost_ret (v := .bool true) (by simp [results, Tryz.results53, go_sem]) rfl ⟨rfl, lv', least, HBK.out, HW2.out, HKW.out, HLW.out⟩
        · clear h1
          go_wp2_with fail
          exact bodyPost_ret (v := .bool true) (by simp [results, Tryz.results53, go_sem]) rfl ⟨rfl, lv', least, HBK.out, HW2.out, HKW.out, HLW.out⟩
end Go.Proofs.YtlamgpeiolfffaaGreatDoor

namespace Go.Proofs.YtlamgpeiolfffaaGreatDoor
open Go.RowKit

theorem runL_ok : ∀ (n : Nat) (a : List Int) (L : Ld), a.length ≤ n → L.ok → Bytes a → (runL L a).1.ok ∧ Bytes (runL L a).2.2.1 ∧ (runL L a).2.2.1.length ≤ a.length := by
  intro n
  induction n with
  | zero =>
    intro a L h hL ha
    have e : a = [] := List.length_eq_zero_iff.1 (by omega)
    subst e
    rw [runL_stop L [] (by simp [rdErr])]
    exact ⟨hL, ha, Nat.le_refl _⟩
  | succ n ih =>
    intro a L h hL ha
    by_cases h0 : rdErr a = 0
    · rw [runL_step L a h0]
      obtain ⟨r1, r2, _, _⟩ := rdN_ok a h0
      obtain ⟨g1, g2, g3⟩ := ih (a.drop (rdN a).toNat) (doM L (rdQ a)).1 (by rw [List.length_drop]; omega) (doM_ok L (rdQ a) hL (rdQ_ok a ha)).1 (ha.drop _)
      refine ⟨g1, g2, Nat.le_trans g3 ?_⟩
      rw [List.length_drop]
      omega
    · rw [runL_stop L a h0]
      exact ⟨hL, ha, Nat.le_refl _⟩
theorem passM_okd (L : Ld) (now : Int) (h : L.ok) (h0 : 0 ≤ now) (h1 : now ≤ 18446744073709551615) : (passM L now).ok := by
  refine ⟨?_, h.adm, h.key, h.qt, h.nd, h.len⟩
  have := h.time
  unfold passM
  dsimp only
  split <;> omega
theorem feedM_ok (L : Ld) (c : Cn) (now : Int) (bs : List Int) (hL : L.ok) (h0 : 0 ≤ now) (h1 : now ≤ 18446744073709551615) (hc : Bytes c.waits) (hb : Bytes bs) : (feedM L c now bs).1.ok ∧ Bytes (feedM L c now bs).2.1.waits ∧ (feedM L c now bs).2.1.waits.length ≤ c.waits.length + bs.length := by
  cases h : c.bad with
  | true => rw [feedM_bad _ _ _ _ h]; exact ⟨passM_okd L now hL h0 h1, hc, by simp⟩
  | false =>
    rw [feedM_good _ _ _ _ h]
    obtain ⟨g1, g2, g3⟩ := runL_ok _ (c.waits ++ bs) (passM L now) (Nat.le_refl _) (passM_okd L now hL h0 h1) (hc.app hb)
    rw [List.length_append] at g3
    split
    · exact ⟨g1, fun b hb => by simp at hb, by simp⟩
    · exact ⟨g1, g2, g3⟩
theorem runL_len : ∀ (n : Nat) (a : List Int) (L : Ld), a.length ≤ n → (runL L a).2.1.length ≤ a.length := by
  intro n
  induction n with
  | zero =>
    intro a L h
    have e : a = [] := List.length_eq_zero_iff.1 (by omega)
    subst e
    rw [runL_stop L [] (by simp [rdErr])]
    exact Nat.le_refl _
  | succ n ih =>
    intro a L h
    by_cases h0 : rdErr a = 0
    · rw [runL_step L a h0]
      obtain ⟨r1, r2, _, _⟩ := rdN_ok a h0
      have g := ih (a.drop (rdN a).toNat) (doM L (rdQ a)).1 (by rw [List.length_drop]; omega)
      rw [List.length_drop] at g
      simp only [List.length_cons]
      omega
    · rw [runL_stop L a h0]
      exact Nat.zero_le _
theorem feedM_len (L : Ld) (c : Cn) (now : Int) (bs : List Int) : (feedM L c now bs).2.2.length ≤ c.waits.length + bs.length + 1 := by
  cases h : c.bad with
  | true => rw [feedM_bad _ _ _ _ h]; simp
  | false =>
    rw [feedM_good _ _ _ _ h]
    have g := runL_len _ (c.waits ++ bs) (passM L now) (Nat.le_refl _)
    rw [List.length_append] at g
    split
    · simp only [List.length_append, List.length_cons, List.length_nil]
      omega
    · dsimp only
      omega
theorem numsOf_take (s : ByteArray) (n : Nat) : numsOf (s.extract 0 n) = (numsOf s).take n := by
  simp [numsOf, List.map_take]
theorem numsOf_drop (s : ByteArray) (n : Nat) : numsOf (s.extract n s.size) = (numsOf s).drop n := by
  simp [numsOf, List.map_drop]
  exact List.take_of_length_le (by simp)
end Go.Proofs.YtlamgpeiolfffaaGreatDoor
