import Derived.Test.YtlamgpeiolfffaaGreatDoorZz31
import Derived.Test.YtlamgpeiolfffaaGreatDoorZz23
import Derived.Test.YtlamgpeiolfffaaGreatDoorZz19
namespace Go.Proofs.YtlamgpeiolfffaaGreatDoor
open Go.RowKit

theorem WaitN.kept {w w' : World} {sb m : Nat} {cb : Nat → Nat} {c : Nat → Cn} {g : Nat} (h : WaitN w sb m cb c g) (hk : ∀ j, j < m → w'.heap[cb j]? = w.heap[cb j]?) : WaitN w' sb m cb c g :=
  fun j hj cw hcw => h j hj cw ((hk j hj).symm.trans hcw)
theorem HostAt.more_wait {wr w2 w4 : World} {hb db nb sb : Nat} {mb : Option Nat} {blk : Int} {L : Ld} {F : Nat → Prop} {B : Nat} {cv v5 : Value} {m : Nat} {cb : Nat → Nat} {c : Nat → Cn} {N : Nat} {ob : Obj} (H : HostAt wr hb db nb sb mb blk L F B cv m cb c) (_hq : ∀ i, c i = ⟨[], false⟩) (hN : N = wr.heap.size) (_hBN : B ≤ N)
    (h2 : w2.heap[N]? = some (.cells #[.pointer (some ⟨sb, 0, none⟩), .slice none 0 0, .bool false] 103)) (hs2 : w2.heap.size = N + 1) (hb2 : Below N wr w2)
    (_ho4 : w4.ownsRow B 76 1 v5 (m + 1) (ptrs cb m ++ [.pointer (some ⟨N, 0, none⟩)])) (hg4 : (w2.alloc ob).grownBy w4 cv.ownBlock) (_hl4 : v5.ownBlock = cv.ownBlock ∨ v5.ownBlock = some (w2.alloc ob).heap.size) :
    ∀ g, WaitN wr sb m cb c g → WaitN (w4.setCell ⟨hb, 2, none⟩ v5) sb (m + 1) (fun i => if i = m then N else cb i) c g := by
  have lh : hb < N := hN ▸ ltB H.hh
  have ld : db < N := hN ▸ ltB H.hd
  have nhd : db ≠ hb := by
    intro e
    have h := H.hd
    rw [e, H.hh] at h
    simp at h
  have nh : cv.ownBlock ≠ some hb := fun e => own_neE H.ho e H.hh (by decide) rfl
  have nd : cv.ownBlock ≠ some db := fun e => own_neE H.ho e H.hd (by decide) rfl
  have nN : cv.ownBlock ≠ some N := fun e => by have := (own_ltE H.ho e).2; omega
  have hA : (w2.alloc ob).heap.size = N + 2 := by rw [World.size_alloc, hs2]
  have X4 : ∀ k, k < N → cv.ownBlock ≠ some k → w4.heap[k]? = wr.heap[k]? := fun k hk hne =>
    ((hg4.block k (by omega) (fun e => hne e.symm)).trans (heapOld w2 ob (by omega))).trans (hb2.block k hk)
  have X : ∀ k, k < N → k ≠ hb → cv.ownBlock ≠ some k → (w4.setCell ⟨hb, 2, none⟩ v5).heap[k]? = wr.heap[k]? := fun k hk h1 hne => (heapSetO h1 _ _).trans (X4 k hk hne)
  have hh4 := (X4 hb lh nh).trans H.hh
  have hsz4 : N + 2 ≤ w4.heap.size := hA ▸ hg4.size
  have hcn : ∀ i, i < m → cb i < N ∧ cb i ≠ hb ∧ cv.ownBlock ≠ some (cb i) := fun i hi => by
    obtain ⟨cw, g1, _⟩ := (H.hc i hi).mem
    refine ⟨hN ▸ ltB g1, fun e => ?_, fun e => own_neE H.ho e g1 (by decide) rfl⟩
    rw [e, H.hh] at g1
    simp at g1
  have hFN : ∀ b, F b → b < N := fun b h => hN ▸ H.hs.lt b h
  have hsz : wr.heap.size ≤ (w4.setCell ⟨hb, 2, none⟩ v5).heap.size := by rw [World.size_setCell]; omega
  intro g hw j hj cw hcw
  dsimp only at hcw
  by_cases him : j = m
  · rw [if_pos him, heapSetO (by omega), hg4.block N (by omega) (fun e => nN e.symm), heapOld w2 ob (by omega), h2] at hcw
    simp at hcw
    rw [← hcw.1]
    simp [Value.ownBlock]
  · rw [if_neg him] at hcw
    obtain ⟨c1, c2, c3⟩ := hcn j (by omega)
    exact hw j (by omega) cw ((X _ c1 c2 c3).symm.trans hcw)

set_option maxRecDepth 100000 in
set_option maxHeartbeats 1000000 in
theorem feed11w (kp pt : Int) (hb db nb sb : Nat) (mb : Option Nat) (blk : Int) (L : Ld) (F : Nat → Prop) (B : Nat) (cv : Value) (m : Nat) (cb : Nat → Nat) (c : Nat → Cn) (k now : Int) (s : ByteArray) (w : World) (H : HostAt w hb db nb sb mb blk L F B cv m cb c) (hm : m ≤ 3) (hB : B ≤ w.heap.size) (hq : m < 3 → ∀ i, c i = ⟨[], false⟩) (i : Nat) (hpk : pickM k 3 = (i : Int)) (k0 : -9223372036854775808 ≤ k) (k1 : k ≤ 9223372036854775807) (hL : L.ok) (h0 : 0 ≤ now) (h1 : now ≤ 18446744073709551615) (hbw : Bytes (c i).waits) (hlen : (c i).waits.length + (numsOf s).length ≤ 100000) :
    Calls Tryz.prog 11 #[.pointer (some ⟨hb, 0, none⟩), .int .i64 k, .int .u64 now, .string s, .int .i64 (-1), .int .i64 (-1), .int .i64 kp, .int .i64 pt] w fun e w' => ∃ F' cv' cb', e = .returned (.tuple #[.string (strOfNums (encs (feedM L (c i) now (numsOf s)).2.2)), .bool false]) ∧ HostAt w' hb db nb sb mb blk (feedM L (c i) now (numsOf s)).1 F' B cv' 3 cb' (fun j => if j = i then (feedM L (c i) now (numsOf s)).2.1 else c j) ∧ Keep (HG hb db F cv m cb) w w' ∧ (∀ b, HG hb db F' cv' 3 cb' b → HG hb db F cv m cb b ∨ w.heap.size ≤ b) ∧ ∀ g, g < w.heap.size → WaitN w sb m cb c g → WaitN w' sb 3 cb' (fun j => if j = i then (feedM L (c i) now (numsOf s)).2.1 else c j) g := by
  have hsz100 : s.size ≤ 100000 := by have := numsOf_length s; omega
  have hi3 : i < 3 := by have := (pickM_ok k 3 (by omega)).2; omega
  have hdo : Hid (∀ w1 L F1 q, SrvAt w1 1 sb L F1 → L.ok → q.ok → Calls Tryz.prog 69 #[.pointer (some ⟨sb, 0, none⟩), .agg #[.int .u8 q.op, .int .u8 q.k0, .int .u8 q.k1, .int .u8 q.k2, .int .u8 q.k3, .int .u8 q.k4, .int .u8 q.k5, .int .u8 q.k6, .int .u8 q.k7, .int .u8 q.kd, .int .u64 q.x, .int .u64 q.y, .int .u64 q.n]] w1 fun e w' => e = .returned (.agg #[.int .u8 (doM L q).2.c, .int .u64 (doM L q).2.a, .int .u64 (doM L q).2.b]) ∧ Out w1 1 sb (doM L q).1 F1 w') := hide (fun w1 L F1 q a b d => do69 1 sb L F1 q w1 a b d)
  have a0 := cellB H.hh
  obtain ⟨i0, hi, hz0, hz1, hz2⟩ := info_parts Tryz.info76
  go_enter Tryz.func11, Tryz.ntmps11
  go_wp2_with fail
  go_loopw [] (fun wr => ∃ cv' m' cb', m' ≤ 3 ∧ B ≤ wr.heap.size ∧ HostAt wr hb db nb sb mb blk L F B cv' m' cb' c ∧ (m' < 3 → ∀ i, c i = ⟨[], false⟩) ∧ Keep (HG hb db F cv m cb) w wr ∧ (∀ b, HG hb db F cv' m' cb' b → HG hb db F cv m cb b ∨ w.heap.size ≤ b) ∧ (∀ g, WaitN w sb m cb c g → WaitN wr sb m' cb' c g)) (fun wr => 3 - (match wr.cell? ⟨hb, 2, none⟩ with | some v => sliceLen v | none => 0))
  case atStart => exact ⟨cv, m, cb, hm, hB, H, hq, Keep.refl _ _, fun b h => Or.inl h, fun _ h => h⟩
  case round =>
    obtain ⟨cv1, m1, cb1, hm1, hB1, H1, hq1, hK1, hG1, hWW⟩ := hrel
    have HWW := hide hWW
    clear hWW
    obtain ⟨x1, c1, e1⟩ : ∃ a c, cv1 = .slice a m1 c := own_sliceE H1.ho
    subst e1
    have a1 := cellB H1.hh
    have a2 := frozenB H1.hh
    clear a0
    by_cases hlt : m1 < 3
    · have hlt' : (m1 : Int) < 3 := by omega
      go_upto_region 4 with fail
      have a11 := a1 1
      have a12 := a1 2
      have hhw := H1.hh
      have HH1 := hide H1
      have HK1 := hide hK1
      have HG1 := hide hG1
      have HQ1 := hide (hq1 hlt)
      have HQ := hide hq
      clear a1 H1 hK1 hG1 hq1 hq
      go_region_law
        (first | (refine step_connect (by rfl) _ (by rfl) sb (by rfl) ?_; intro w2 hcn hsz2 hb2; have HS2 := hide hsz2; clear hsz2; have hh2 := (hb2.block hb (ltB hhw)).trans hhw; have q1 := cellB hh2 2; have hh3 := upB hh2 (.cells #[.pointer (some ⟨wr.heap.size, 0, none⟩)] 76); have q2 := cellB hh3 2) | (refine step_append_any (by rfl) _ _ 73 76 i0 (.pointer none) 1 8 Tryz.underlying73 hi hz0 hz1 hz2 (by rfl) (by decide) (by rfl) B (.slice x1 m1 c1) m1 (ptrs cb1 m1) (by rfl) (own_keptE HH1.out.ho (fun z hz => (heapOld _ _ (Nat.lt_of_lt_of_le (own_ltE HH1.out.ho hz).2 hb2.size)).trans (hb2.block z (own_ltE HH1.out.ho hz).2))) ⟨w2.heap.size, 0, none⟩ 1 1 [.pointer (some ⟨wr.heap.size, 0, none⟩)] (by rfl) (by rfl) (cell_one_new _ _ _) (by simp [Value.oneCell']) (by omega) (by omega) (Nat.le_trans hB1 (Nat.le_trans hb2.size (Below.size ((Below.refl 0 w2).alloc (Nat.zero_le _) _)))) ?_; intro v5 w4 hown4 hgr4 hloc4; obtain ⟨ya, yc, hyw⟩ := own_sliceE hown4; subst hyw; have hh4 := (hgr4.block hb (ltB hh3) (fun e => own_neE HH1.out.ho e.symm hhw (by decide) rfl)).trans hh3; have d1 := cellB hh4; have d2 := frozenB hh4))
      all_goals have hmo := HostAt.more HH1.out HQ1.out (N := wr.heap.size) rfl hB1 hcn HS2.out ⟨hb2.os, hb2.tape, hb2.output, hb2.size, hb2.block⟩ hown4 hgr4 hloc4
      all_goals have hmw := HostAt.more_wait HH1.out HQ1.out (N := wr.heap.size) rfl hB1 hcn HS2.out ⟨hb2.os, hb2.tape, hb2.output, hb2.size, hb2.block⟩ hown4 hgr4 hloc4
      all_goals have hK := HK1.out.then hmo.2.1 (fun i hi h => (HG1.out i h).elim id (fun h => absurd hi (Nat.not_lt.2 h)))
      all_goals have hbs := HK1.out.size
      all_goals have hms := cellB hmo.1.hh 2
      all_goals clear d1 d2 q1 q2 a11 a12 a2
      all_goals go_wp2_with fail
      all_goals go_roundw
      all_goals first | (exact ⟨_, m1 + 1, _, by omega, Nat.le_trans hB1 hmo.2.1.size, hmo.1, fun _ => HQ1.out, hK, fun b h => (hmo.2.2 b h).elim (HG1.out b) (fun h => Or.inr (Nat.le_trans hbs h)), fun g h => hmw g (HWW.out g h)⟩) | skip
      all_goals rw [show (World.setCell _ _ _).cell? ⟨hb, 2, none⟩ = some (.slice ya (m1 + 1) yc) from hms, show wr.cell? ⟨hb, 2, none⟩ = some (.slice x1 m1 c1) from cellB hhw 2]
      all_goals simp only [sliceLen]
      all_goals omega
    · obtain rfl : m1 = 3 := by omega
      have hdw := H1.hd
      have hhw := H1.hh
      have n1 : ¬ hb = db := fun e => by
        have h := hdw
        rw [← e, hhw] at h
        simp at h
      have n2 : ¬ db = hb := fun e => n1 e.symm
      obtain ⟨V, hV⟩ : ∃ V, V = ((wr.setCell ⟨db, 3, none⟩ (.int .i64 (-1))).setCell ⟨db, 4, none⟩ (.int .i64 (-1))).drew := ⟨_, rfl⟩
      have hdV : V.heap[db]? = wr.heap[db]? := by rw [hV, heapDrew, hdw]; simpa using heapSet (heapSet hdw 3 (.int .i64 (-1))) 4 (.int .i64 (-1))
      have hkV : ∀ k, V.heap[k]? = wr.heap[k]? := fun k => by
        by_cases e : k = db
        · rw [e]; exact hdV
        · rw [hV, heapDrew, heapSetO e, heapSetO e]
      have hsV : V.heap.size = wr.heap.size := by rw [hV]; simp
      have HV : HostAt V hb db nb sb mb blk L F B (.slice x1 3 c1) 3 cb1 c := H1.kept (Nat.le_of_eq hsV.symm) (fun k _ => hkV k)
      have hKV : Keep (HG hb db F cv m cb) w V := ⟨by rw [hV]; exact hK1.os, by rw [hV]; exact hK1.tape, by rw [hV]; exact hK1.output, by rw [hsV]; exact hK1.size, fun k hk hG => (hkV k).trans (hK1.block k hk hG)⟩
      have HWV' : Hid (∀ g, WaitN w sb m cb c g → WaitN V sb 3 cb1 c g) := hide (fun g h => (HWW.out g h).kept (fun j _ => hkV _))
      have b := cellB hhw
      have b1 := cellB hdw
      have b2 := frozenB hdw
      have HQ := hide hq
      clear a1 a2 hq
      go_upto_region 5 with fail
      have b0 := b 0
      clear b
      go_cut [] (fun wx => wx = V)
      case first =>
        go_region_held3 (fun w' => w'.cell? ⟨hb, 0, none⟩ = some (.pointer (some ⟨db, 0, none⟩))) (go_keep) (fail)
        all_goals (go_wp2_with fail; go_meet)
        all_goals exact hV.symm
      case rest =>
        subst hcut
        have HWV := HWV'
        clear hV b0 b1 b2 hdV
        have hbs := fun (w : World) (s : ByteArray) => run_bytes_of_string (P := Tryz.prog) w 9 69 5 s Tryz.underlying9 Tryz.underlying69 Tryz.underlying5
        obtain ⟨kb, kc, hkv, hkb, hkl⟩ := HV.ho.form (by decide)
        injection hkv with e1 _ e2
        subst e1 e2
        have hBV : B ≤ wc.heap.size := by rw [hsV]; exact hB1
        have hGV : ∀ b, HG hb db F (.slice (some ⟨kb, 0, none⟩) 3 c1) 3 cb1 b → HG hb db F cv m cb b ∨ w.heap.size ≤ b := hG1
        have HSV := hide hsV
        clear hsV H1 hK1 hG1 hkV hB1 hdw hhw hm1
        go_upto_region 7 with fail
        obtain ⟨D, hD⟩ : ∃ D, D = grownCap wc s.size 0 5 := ⟨_, rfl⟩
        have hDs : s.size ≤ D := by rw [hD]; simpa using grownCap_ge wc s.size 0 5
        rw [← hD]
        obtain ⟨U, hU⟩ : ∃ U, U = (wc.alloc (.cells (bytesRow s D) 5 ((bytesRow s D).size, (bytesRow s D).size + 1))).drew := ⟨_, rfl⟩
        have hsl : Sl U (.slice (some ⟨wc.heap.size, 0, none⟩) s.size D) (numsOf s) := hU ▸ Sl.of_bytes wc s D hDs
        have hbk : U.heap[wc.heap.size]? = some (.cells (bytesRow s D) 5 ((bytesRow s D).size, (bytesRow s D).size + 1)) := by rw [hU]; exact heapNew _ _
        have hkU : ∀ k, k < wc.heap.size → U.heap[k]? = wc.heap[k]? := fun k hk => by rw [hU]; exact heapOld _ _ hk
        have hsU : U.heap.size = wc.heap.size + 1 := by rw [hU]; simp
        have HU : HostAt U hb db nb sb mb blk L F B (.slice (some ⟨kb, 0, none⟩) 3 c1) 3 cb1 c := HV.kept (by omega) hkU
        have hKU : Keep (HG hb db F cv m cb) w U := by rw [hU]; exact (hKV.alloc _).drew
        have hwl := hKV.size
        rw [← hU]
        obtain ⟨wb, hwb⟩ : ∃ wb, wb = wc.heap.size := ⟨_, rfl⟩
        have hkF : ¬ HG hb db F (.slice (some ⟨kb, 0, none⟩) 3 c1) 3 cb1 wb := fun h => by
          have := HV.lt wb h
          omega
        have HWN : Hid (WaitN U.drew sb 3 cb1 c wb) := hide (fun j hj cw hcw hown => by
          have h2 := (HV.hc j hj).waits_lt ((hkU _ (ltB (HV.hc j hj).mem.choose_spec.1)).symm.trans hcw) hown
          omega)
        have HWU : Hid (∀ g, WaitN w sb m cb c g → WaitN U.drew sb 3 cb1 c g) := hide (fun g h => (HWV.out g h).kept (fun j hj => hkU _ (ltB (HV.hc j hj).mem.choose_spec.1)))
        clear hU hkU HV hKV hbs
        rw [← hwb] at hsl hbk hsU hwl hBV ⊢
        have hbl := HU.lt
        have HBK := hide hbk
        have HWL := hide hwl
        have HGV := hide hGV
        have HKU := hide hKU
        have HSU := hide hsU
        have HBL := hide hbl
        have HKF := hide hkF
        have f1 := cellB HU.hh 2
        have f2 : U.cell? ⟨kb, i, none⟩ = some (.pointer (some ⟨cb1 i, 0, none⟩)) := ptr_cell HU i hi3
        have hh2 := HU.hh
        have HHU : Hid (HostAt U.drew hb db nb sb mb blk L F B (.slice (some ⟨kb, 0, none⟩) 3 c1) 3 cb1 c) := hide (HU.kept (Nat.le_refl _) (fun _ _ => rfl))
        have HBU : Hid (B ≤ U.drew.heap.size) := hide (by show B ≤ U.heap.size; omega)
        have HSL : Hid (Src U.drew (.slice (some ⟨wb, 0, none⟩) s.size D) (numsOf s)) := hide (hsl.src.kept (Nat.le_refl _) (fun _ _ _ _ _ _ => rfl))
        have HVF : Hid (∀ g o n d, Value.slice (some ⟨wb, 0, none⟩) s.size D = .slice (some ⟨g, o, none⟩) n d → ¬ F g) := hide (fun g o n d h hF => HKF.out (by injection h with h _ _; injection h with h; injection h with h _; exact Or.inr (Or.inr (Or.inl (h ▸ hF)))))
        clear hbk hwl hGV hKU hsU hbl hkF HU hsl hD hwb
        have hi0 : (0 : Int) ≤ (i : Int) := by omega
        have hi3' : (i : Int) < 3 := by omega
        have hwbU : wb < U.heap.size := by rw [HSU.out]; omega
        go_cut [19] (fun o wx => o = .string (strOfNums (encs (feedM L (c i) now (numsOf s)).2.2)) ∧ ∃ F3, HostAt wx hb db nb sb mb blk (feedM L (c i) now (numsOf s)).1 F3 B (.slice (some ⟨kb, 0, none⟩) 3 c1) 3 cb1 (fun j => if j = i then (feedM L (c i) now (numsOf s)).2.1 else c j) ∧ Keep (HG hb db F (.slice (some ⟨kb, 0, none⟩) 3 c1) 3 cb1) U.drew wx ∧ (∀ b, HG hb db F3 (.slice (some ⟨kb, 0, none⟩) 3 c1) 3 cb1 b → HG hb db F (.slice (some ⟨kb, 0, none⟩) 3 c1) 3 cb1 b ∨ U.drew.heap.size ≤ b) ∧ (∀ g, g < U.drew.heap.size → WaitN U.drew sb 3 cb1 c g → WaitN wx sb 3 cb1 (fun j => if j = i then (feedM L (c i) now (numsOf s)).2.1 else c j) g))
        case first =>
          go_region_law
            (first | (refine step_fn (by rfl) 26 callFunc26 _ _ (by rfl) #[.int .i64 k, .int .i64 3] (by simp only [List.map_toArray, List.map_cons, List.map_nil]; rfl) (pick26' k i _ k0 k1 hpk) ?_; rintro e w1 ⟨rfl, rfl⟩; refine ⟨_, rfl, ?_⟩) | (refine step_fn (by rfl) 27 callFunc27 _ _ (by rfl) #[.pointer (some ⟨cb1 i, 0, none⟩), .int .u64 now, .slice (some ⟨wb, 0, none⟩) s.size D] (by simp only [List.map_toArray, List.map_cons, List.map_nil]; rfl) (feed27 sb (cb1 i) F L (c i) _ now (numsOf s) U.drew HHU.out.hs hL h0 h1 (HHU.out.hc i hi3) HSL.out (numsOf_bytes s) hbw hlen HVF.out hdo) ?_; rintro e w3 ⟨rv, rfl, hP⟩; refine ⟨_, rfl, ?_⟩; obtain ⟨F3, H3, hK3, hG3, hown3, hW3⟩ := HostAt.fed HHU.out HBU.out i hi3 hP; have hcv := conv_own hown3 rfl))
          all_goals (go_wp2_with fail; go_meet)
          all_goals exact ⟨rfl, F3, H3, hK3, hG3, hW3⟩
        case rest =>
          obtain ⟨rfl, F3, H3, hK3, hG3, hWA3⟩ := hcut
          have hWN3 := hWA3 wb hwbU HWN.out
          have hWK3 : ∀ g, g < w.heap.size → WaitN w sb m cb c g → WaitN wc sb 3 cb1 (fun j => if j = i then (feedM L (c i) now (numsOf s)).2.1 else c j) g := fun g hg h => hWA3 g (Nat.lt_of_lt_of_le hg HKU.out.size) (HWU.out g h)
          clear hWA3
          obtain ⟨w3, hw3⟩ : ∃ w3, w3 = wc := ⟨_, rfl⟩
          rw [← hw3] at H3 hK3 hWN3 hWK3 ⊢
          have HWK3 := hide hWK3
          clear hWK3
          clear hw3
          have hsd : U.drew.heap.size = U.heap.size := rfl
          have hs3 := hK3.size
          have hKw : Keep (HG hb db F cv m cb) w w3 := HKU.out.drew.then hK3 (fun b hb' h => (HGV.out b h).elim id (fun h => absurd hb' (Nat.not_lt.2 h)))
          have hGw : ∀ b, HG hb db F3 (.slice (some ⟨kb, 0, none⟩) 3 c1) 3 cb1 b → HG hb db F cv m cb b ∨ w.heap.size ≤ b := fun b h => (hG3 b h).elim (HGV.out b) (fun h => Or.inr (Nat.le_trans (HKU.out.size) h))
          have hb3 : w3.heap[wb]? = some (.cells (bytesRow s D) 5 ((bytesRow s D).size, (bytesRow s D).size + 1)) := (hK3.block wb hwbU HKF.out).trans HBK.out
          have hN3 : ¬ HG hb db F3 (.slice (some ⟨kb, 0, none⟩) 3 c1) 3 cb1 wb := fun h => (hG3 wb h).elim HKF.out (fun h => by omega)
          have hWb : Wb w3 w3 wb s.size := ⟨rfl, rfl, rfl, rfl, fun _ _ => rfl, _, _, hb3, bytesRow_size s D, bytesRow_size s D⟩
          obtain ⟨out, hout⟩ : ∃ out, out = strOfNums (encs (feedM L (c i) now (numsOf s)).2.2) := ⟨_, rfl⟩
          rw [← hout]
          have HOUT := hide hout
          have HH3 := hide H3
          have HKW := hide hKw
          have HGW := hide hGw
          have HN3 := hide hN3
          have HW3 := hide hWN3
          have HWB := hide hWb
          have hwl := HWL.out
          clear hout H3 hKw hGw hN3 hWN3 hWb hK3 hG3 f1 f2 hh2 hb3 hdo HSL HVF HBU HHU HKU HGV
          go_wp2_with fail
          go_loopw [77] (fun z wz => ∃ j : Nat, j ≤ s.size ∧ z = .int .i64 j ∧ Wb w3 wz wb s.size) (fun z _ => s.size - (intOf z).toNat)
          case atStart => exact ⟨0, Nat.zero_le _, rfl, HWB.out⟩
          case round =>
            obtain ⟨j, hj, rfl, LW⟩ := hrel
            by_cases hlt : j < s.size
            · obtain ⟨⟨u, hu⟩, hfz⟩ := LW.cell j hlt
              go_wp2
              go_roundw
              case rel => exact ⟨j + 1, by omega, by go_num, LW.step j _⟩
              case measure => simp [intOf]; omega
            · obtain rfl : j = s.size := by omega
              have HZ : HostAt wr hb db nb sb mb blk (feedM L (c i) now (numsOf s)).1 F3 B (.slice (some ⟨kb, 0, none⟩) 3 c1) 3 cb1 (fun j => if j = i then (feedM L (c i) now (numsOf s)).2.1 else c j) := HH3.out.keptE wb HN3.out HW3.out (Nat.le_of_eq LW.size.symm) (fun k _ h => LW.blk k h)
              have hKZ : Keep (HG hb db F cv m cb) w wr := ⟨LW.os.trans HKW.out.os, LW.tape.trans HKW.out.tape, LW.output.trans HKW.out.output, by rw [LW.size]; exact HKW.out.size, fun k hk hG => (LW.blk k (by omega)).trans (HKW.out.block k hk hG)⟩
              have HWZ : Hid (∀ g, g < w.heap.size → WaitN w sb m cb c g → WaitN wr sb 3 cb1 (fun j => if j = i then (feedM L (c i) now (numsOf s)).2.1 else c j) g) := hide (fun g hg h => (HWK3.out g hg h).kept (fun j hj => LW.blk _ (fun e => HN3.out (e ▸ Or.inr (Or.inr (Or.inr (Or.inr ⟨j, hj, rfl⟩)))))))
              have hhz := HZ.hh
              have hdz := HZ.hd
              have a3 := cellB hhz 0
              have a4 := cellB hdz 5
              have HHZ := hide HZ
              have HKZ := hide hKZ
              clear HZ hKZ LW
              go_wp2_with fail
              refine (after28 hb db mb (some nb) _ _ _ _ (-1) (-1) kp pt _ hhz hdz).mono ?_
              rintro e w5 ⟨rfl, e1, e2⟩
              go_wp2
              go_ret2
              refine ⟨F3, _, cb1, by rw [← HOUT.out]; rfl, HHZ.out.kept e2.size (fun q hq => ?_), HKZ.out.then e2 (fun q _ h => Or.inr (Or.inl h)), HGW.out, fun g hg h => (HWZ.out g hg h).kept (fun j hj => e2.block _ (ltB (HHZ.out.hc j hj).mem.choose_spec.1) (fun e => by
                obtain ⟨cwx, h1, _⟩ := (HHZ.out.hc j hj).mem
                rw [e, hdz] at h1
                simp at h1))⟩
              by_cases hqd : q = db
              · rw [hqd]; exact e1.trans hdz.symm
              · exact e2.block q hq hqd
end Go.Proofs.YtlamgpeiolfffaaGreatDoor

namespace Go.Proofs.YtlamgpeiolfffaaGreatDoor
open Go.RowKit

theorem Tryz.info92 : (Tryz.prog.info? 92).map (fun i => (i.zero, i.size, i.bytes)) = some (some (.pointer none), 1, 8) := by kernel_rfl
theorem ptrs_snoc (tb : Nat → Nat) (i : Nat) (x : Nat) : ptrs (fun j => if j = i then x else tb j) (i + 1) = ptrs tb i ++ [.pointer (some ⟨x, 0, none⟩)] := by
  unfold ptrs
  rw [List.range_succ, List.map_append]
  congr 1
  · apply List.map_congr_left
    intro j hj
    have := List.mem_range.1 hj
    show Value.pointer (some ⟨if j = i then x else tb j, 0, none⟩) = _
    rw [if_neg (by omega)]
  · simp

/-- Streams that were made, so many. -/
structure OpI (w : World) (wb : Nat) (C : Value → Array Value) (i : Nat) (v : Value) (tb : Nat → Nat) (wr : World) : Prop where
  blk : wr.heap[wb]? = some (.cells (C v) 60)
  own : wr.ownsRow w.heap.size 92 1 v i (ptrs tb i)
  st : ∀ j, j < i → wr.heap[tb j]? = some (.cells #[.slice none 0 0, .bool false] 94) ∧ w.heap.size ≤ tb j
  inj : ∀ j k, j < i → k < i → tb j = tb k → j = k
  keep : Keep (fun b => b = wb) w wr

set_option maxRecDepth 100000 in
set_option maxHeartbeats 4000000 in
theorem open18 (wb : Nat) (c0 c1 c2 c3 c4 c5 f0 f1 f2 f3 f4 f5 f6 f7 f8 f9 f10 f11 f12 was win least lt : Value) (w : World) (hw : w.heap[wb]? = some (.cells #[c0, c1, c2, c3, c4, c5, f0, f1, f2, f3, f4, f5, f6, f7, f8, f9, f10, f11, f12, was, win, least, lt] 60)) :
    Calls Tryz.prog 18 #[.pointer (some ⟨wb, 0, none⟩)] w fun e w' => e = .returned (.tuple #[]) ∧ ∃ v tb, OpI w wb (fun v => #[c0, c1, v, c3, .bool false, c5, f0, f1, f2, f3, f4, f5, f6, f7, f8, f9, f10, f11, f12, was, win, least, .int .u64 0]) 3 v tb w' := by
  obtain ⟨i1, hj, hy0, hy1, hy2⟩ := info_parts Tryz.info92
  have a1 := cellB hw
  have a2 := frozenB hw
  have lw := ltB hw
  have HW := hide hw
  clear hw
  go_enter Tryz.func18, Tryz.ntmps18
  go_wp2_with fail
  go_loopw [2] (fun s2 wr => ∃ i : Nat, ∃ v tb, i ≤ 3 ∧ s2 = .int .i64 i ∧ OpI w wb (fun v => #[c0, c1, v, c3, c4, c5, f0, f1, f2, f3, f4, f5, f6, f7, f8, f9, f10, f11, f12, was, win, least, lt]) i v tb wr) (fun s2 _ => 3 - (intOf s2).toNat)
  case atStart =>
    refine ⟨0, .slice none 0 0, fun _ => 0, by omega, rfl, ⟨by simpa using heapSet HW.out 2 _, World.ownsRow_nil _ _ _ _, fun j hj => by omega, fun j k hj => by omega, Keep.set (S := fun b => b = wb) (b := wb) (Keep.refl _ w) (Or.inl rfl) _ _⟩⟩
  case round =>
    obtain ⟨i, v, tb, hi, rfl, I⟩ := hrel
    obtain ⟨va, vc, rfl⟩ := own_sliceE I.own
    have hblk : wr.heap[wb]? = some (.cells #[c0, c1, .slice va i vc, c3, c4, c5, f0, f1, f2, f3, f4, f5, f6, f7, f8, f9, f10, f11, f12, was, win, least, lt] 60) := I.blk
    have a3 := cellB hblk
    have a4 := frozenB hblk
    have hks := I.keep.size
    have hI := hide I
    have HBL := hide hblk
    clear I a1 a2 hblk
    by_cases hlt : i < 3
    · have hin : (i : Int) < 3 := by omega
      have a5 := fun o j => upC HBL.out o j
      have a6 := fun o o2 j => upC (upB HBL.out o) o2 j
      have HO2 : Hid (∀ o1 o2, ((wr.alloc o1).alloc o2).ownsRow w.heap.size 92 1 (.slice va i vc) i (ptrs tb i)) := hide (fun o1 o2 => own_keptE hI.out.own (fun z hz => by
        have := own_ltE hI.out.own hz
        exact (heapOld _ _ (by simp; omega)).trans (heapOld _ _ (by omega))))
      have hnw : (Value.slice va i vc).ownBlock ≠ some wb := fun e => by have := own_ltE hI.out.own e; omega
      go_wp2_with (at_builtin; refine wpList_append_own_at _ rfl _ _ 54 rfl w.heap.size 92 i1 (.pointer none) 1 8 Tryz.underlying54 hj hy0 hy1 hy2 rfl (by decide) (.slice va i vc) i (ptrs tb i) rfl (HO2.out _ _) ⟨wr.heap.size + 1, 0, none⟩ 1 1 [.pointer (some ⟨wr.heap.size, 0, none⟩)] rfl rfl (fun j u hju => by rw [Addr.add_lit, Nat.zero_add, ← hju]; exact (cellB (heapN (by simp)) j).trans (by simp)) (by simp [Value.oneCell']) (by unfold maxLen; omega) (by omega) (by simp; omega) ?_; intro v5 w4 hown4 hgr4 hnil4 hloc4; obtain ⟨ya, yc, hyw⟩ := own_sliceE hown4; subst hyw; have hb4 := (hgr4.block wb (by simp; omega) (fun e => hnw e.symm)).trans (upB (upB HBL.out _) _); have b1 := cellB hb4; have b2 := frozenB hb4; have HO4 := hide hown4; have HG4 := hide hgr4; have HB4 := hide hb4; have HL4 := hide hloc4; clear hown4 hgr4 hnil4 hloc4 hb4)
      go_roundw
      case rel =>
        have hg4 := HG4.out.size
        have hg5 : wr.heap.size + 2 ≤ w4.heap.size := by simp at hg4; omega
        have hn7 : ∀ z, z < w.heap.size → (Value.slice va i vc).ownBlock ≠ some z := fun z hz e => by have := own_ltE hI.out.own e; omega
        have hk4 := ((hI.out.keep).alloc (.cells #[.slice none 0 0, .bool false] 94)).alloc (.cells #[.pointer (some ⟨wr.heap.size, 0, none⟩)] 92)
        have hkk : Keep (fun b => b = wb) w w4 := ⟨HG4.out.os.trans hk4.os, HG4.out.tape.trans hk4.tape, HG4.out.output.trans hk4.output, Nat.le_trans hk4.size hg4, fun z hz hS => (HG4.out.block z (Nat.lt_of_lt_of_le hz hk4.size) (fun e => hn7 z hz e.symm)).trans (hk4.block z hz hS)⟩
        have hown94 : ∀ z a t, wr.heap[z]? = some (.cells a t) → t ≠ 92 → (Value.slice va i vc).ownBlock ≠ some z := fun z a t hz ht e => own_neE hI.out.own e hz ht rfl
        have hnew : w4.heap[wr.heap.size]? = some (.cells #[.slice none 0 0, .bool false] 94) := (HG4.out.block wr.heap.size (by simp; omega) (fun e => by have := own_ltE hI.out.own e.symm; omega)).trans (upB (heapNew _ _) _)
        refine ⟨i + 1, .slice ya (i + 1) yc, fun j => if j = i then wr.heap.size else tb j, by omega, by go_num, ⟨by simpa using heapSet HB4.out 2 _, ?_, ?_, ?_, Keep.set (S := fun b => b = wb) (b := wb) hkk (Or.inl rfl) _ _⟩⟩
        · rw [ptrs_snoc]
          refine own_keptE HO4.out (fun z hz => ?_)
          have := own_ltE HO4.out hz
          exact heapSetO (by omega) _ _
        · intro j hj'
          by_cases e : j = i
          · rw [if_pos e]
            exact ⟨(heapSetO (by omega) _ _).trans hnew, hks⟩
          · rw [if_neg e]
            have h2 := hI.out.st j (by omega)
            have h3 := ltB h2.1
            exact ⟨(heapSetO (by omega) _ _).trans ((HG4.out.block (tb j) (by simp; omega) (fun e => hown94 _ _ _ h2.1 (by decide) e.symm)).trans ((heapOld _ _ (by simp; omega)).trans ((heapOld _ _ h3).trans h2.1))), h2.2⟩
        · intro j k hj' hk' he
          by_cases ej : j = i <;> by_cases ek : k = i
          · omega
          · rw [if_pos ej, if_neg ek] at he
            have := ltB (hI.out.st k (by omega)).1
            omega
          · rw [if_neg ej, if_pos ek] at he
            have := ltB (hI.out.st j (by omega)).1
            omega
          · rw [if_neg ej, if_neg ek] at he
            exact hI.out.inj j k (by omega) (by omega) he
      case measure => simp [intOf]; omega
    · obtain rfl : i = 3 := by omega
      go_wp2_with fail
      go_end0
      refine ⟨rfl, .slice va 3 vc, tb, ⟨by simpa using heapSet (heapSet HBL.out 4 _) 22 _, ?_, ?_, hI.out.inj, Keep.set (S := fun b => b = wb) (b := wb) (Keep.set (S := fun b => b = wb) (b := wb) hI.out.keep (Or.inl rfl) _ _) (Or.inl rfl) _ _⟩⟩
      · refine own_keptE hI.out.own (fun z hz => ?_)
        have := own_ltE hI.out.own hz
        exact (heapSetO (by omega) _ _).trans (heapSetO (by omega) _ _)
      · intro j hj
        have := hI.out.st j hj
        exact ⟨(heapSetO (by omega) _ _).trans ((heapSetO (by omega) _ _).trans this.1), this.2⟩
end Go.Proofs.YtlamgpeiolfffaaGreatDoor

namespace Go.Proofs.YtlamgpeiolfffaaGreatDoor
open Go.RowKit

/-- A step of a script, as numbers. -/
structure Sp where
  kind : Int
  conn : Int
  now : Int
  qs : List Rq
  raw : ByteArray
  cut : Int
  left : Int
  full : Int
  kept : Int
  part : Int
abbrev stv (p : Sp) (v : Value) : List Value := [.int .i64 p.kind, .int .i64 p.conn, .int .u64 p.now, v, .string p.raw, .int .i64 p.cut, .int .i64 p.left, .int .i64 p.full, .int .i64 p.kept, .int .i64 p.part]
def stvs : List Sp → List Value → List Value
  | p :: ps, v :: vs => stv p v ++ stvs ps vs
  | _, _ => []
theorem stvs_snoc : ∀ (ps : List Sp) (vs : List Value) (p : Sp) (v : Value), ps.length = vs.length → stvs (ps ++ [p]) (vs ++ [v]) = stvs ps vs ++ stv p v
  | [], [], _, _, _ => rfl
  | a :: ps, b :: vs, p, v, h => by
    show stv a b ++ stvs (ps ++ [p]) (vs ++ [v]) = stv a b ++ stvs ps vs ++ stv p v
    rw [stvs_snoc ps vs p v (by simpa using h), List.append_assoc]
  | [], _ :: _, _, _, h => by simp at h
  | _ :: _, [], _, _, h => by simp at h
theorem stvs_get (x : Nat) (hx : x < 10) : ∀ (ps : List Sp) (vs : List Value) (i : Nat) (hi : i < ps.length) (hv : i < vs.length), (stvs ps vs)[i * 10 + x]? = (stv ps[i] vs[i])[x]?
  | p :: ps, v :: vs, 0, _, _ => by
    show (stv p v ++ stvs ps vs)[0 * 10 + x]? = _
    rw [Nat.zero_mul, Nat.zero_add, List.getElem?_append_left (by simpa using hx)]
    rfl
  | p :: ps, v :: vs, i + 1, hi, hv => by
    have h10 : (stv p v).length = 10 := rfl
    show (stv p v ++ stvs ps vs)[(i + 1) * 10 + x]? = _
    rw [List.getElem?_append_right (by rw [h10]; omega), h10, show (i + 1) * 10 + x - 10 = i * 10 + x by omega, stvs_get x hx ps vs i (by simpa using hi) (by simpa using hv)]
    rfl
/-- The requests but snapshots. -/
def fq (qs : List Rq) : List Rq := qs.filter (fun q => decide (q.op ≠ 5))
theorem fq_succ (qs : List Rq) (k : Nat) (hk : k < qs.length) : fq (qs.take (k + 1)) = if qs[k].op = 5 then fq (qs.take k) else fq (qs.take k) ++ [qs[k]] := by
  have e : qs.take (k + 1) = qs.take k ++ [qs[k]] := by rw [List.take_add_one, List.getElem?_eq_getElem hk]; rfl
  unfold fq
  rw [e, List.filter_append]
  by_cases h : qs[k].op = 5
  · simp [h]
  · simp [h]
theorem fq_le (qs : List Rq) : (fq qs).length ≤ qs.length := List.length_filter_le _ _
/-- Requests in memory. -/
def RqAt (w : World) (v : Value) (qs : List Rq) : Prop := ∃ ao cap, v = .slice ao qs.length cap ∧ qs.length ≤ cap ∧ (0 < qs.length → ∃ A o, ao = some ⟨A, o, none⟩ ∧ A < w.heap.size ∧ ∀ i (h : i < qs.length) j, j < 13 → w.cell? ⟨A, o + i * 13 + j, none⟩ = (rqw qs[i])[j]?)
abbrev ZS : Value := .agg #[.int .i64 0, .int .i64 0, .int .u64 0, .slice none 0 0, .string ⟨#[]⟩, .int .i64 0, .int .i64 0, .int .i64 0, .int .i64 0, .int .i64 0]
theorem Tryz.info62 : (Tryz.prog.info? 62).map (fun i => (i.zero, i.size, i.bytes)) = some (some ZS, 10, 104) := by kernel_rfl

/-- What holds of the steps that are done. -/
structure WoI (w : World) (sps : List Sp) (i : Nat) (s3 : Value) (vs : List Value) (wr : World) : Prop where
  len : vs.length = i
  own : wr.ownsRow w.heap.size 62 10 s3 i (stvs (sps.take i) vs)
  rq : ∀ j (h : j < vs.length) (hj : j < sps.length), wr.ownsRow w.heap.size 58 13 vs[j] (fq sps[j].qs).length (rqws (fq sps[j].qs))
  below : Below w.heap.size w wr

/-- What holds of the requests of a step that are done. -/
structure WiI (V : World) (P : Nat) (C : Value → Array Value) (qs : List Rq) (k : Nat) (rv : Value) (wr : World) : Prop where
  blk : wr.heap[P]? = some (.cells (C rv) 62)
  own : wr.ownsRow V.heap.size 58 13 rv (fq (qs.take k)).length (rqws (fq (qs.take k)))
  keep : Keep (fun b => b = P) V wr

theorem wou_blk {wr w4 V : World} {o : Obj} {P : Nat} {x : Obj} {va : Option Addr} {m vc n : Nat} {xs : List Value} (hb : wr.heap[P]? = some x) (hV : V.heap.size = P + 1) (hown : ((wr.alloc o).drew).ownsRow V.heap.size 58 13 (.slice va m vc) n xs) (hg : ((wr.alloc o).drew).grownBy w4 (Value.slice va m vc).ownBlock) : w4.heap[P]? = some x := by
  have hl := ltB hb
  refine (hg.block P ?_ ?_).trans ((heapOld wr o hl).trans hb)
  · show P < (wr.alloc o).heap.size
    rw [World.size_alloc]; omega
  · intro e
    have := (own_ltE hown e.symm).1
    omega

theorem wi_step {V wr w4 : World} {o : Obj} {P : Nat} {C : Value → Array Value} {qs : List Rq} {k m vc : Nat} {va ya : Option Addr} {yc : Nat} {q : Rq} (J : WiI V P C qs k (.slice va m vc) wr) (hV : V.heap.size = P + 1) (hown : ((wr.alloc o).drew).ownsRow V.heap.size 58 13 (.slice va m vc) m (rqws (fq (qs.take k)))) (h4 : w4.ownsRow V.heap.size 58 13 (.slice ya (m + 1) yc) (m + 1) (rqws (fq (qs.take k)) ++ rqw q)) (hg : ((wr.alloc o).drew).grownBy w4 (Value.slice va m vc).ownBlock) (hh : w4.heap[P]? = some (.cells (C (.slice va m vc)) 62)) (hf : fq (qs.take (k + 1)) = fq (qs.take k) ++ [q]) (hm : m = (fq (qs.take k)).length) (hC : ∀ a b, (C a).setIfInBounds 3 b = C b) :
    WiI V P C qs (k + 1) (.slice ya (m + 1) yc) (w4.setCell ⟨P, 3, none⟩ (.slice ya (m + 1) yc)) := by
  have hgs := hg.size
  have hsz : (wr.alloc o).drew.heap.size = wr.heap.size + 1 := World.size_alloc _ _
  have hks := J.keep.size
  refine ⟨?_, ?_, ?_⟩
  · have := heapSet hh 3 (.slice ya (m + 1) yc)
    rw [hC] at this
    exact this
  · rw [hf, List.length_append, rqws_snoc, ← hm]
    exact own_keptE h4 (fun g hg' => heapSetO (by have := (own_ltE h4 hg').1; omega) _ _)
  · refine ⟨hg.os.trans J.keep.os, hg.tape.trans J.keep.tape, hg.output.trans J.keep.output, ?_, fun b hb hne => ?_⟩
    · rw [World.size_setCell]; omega
    · refine (heapSetO hne _ _).trans ((hg.block b (by omega) (fun e => ?_)).trans ((heapOld wr o (by omega)).trans (J.keep.block b hb hne)))
      have := (own_ltE hown e.symm).1
      omega
theorem own_type {w : World} {base e sz : Nat} {v : Value} {n : Nat} {xs : List Value} (h : w.ownsRow base e sz v n xs) {g : Nat} (hg : v.ownBlock = some g) : ∃ c fr, w.heap[g]? = some (.cells c e fr) := by
  rcases h.2 with ⟨rfl, rfl⟩ | ⟨g', cap, cur, hv, _, hh, _⟩
  · simp [Value.ownBlock] at hg
  · rw [hv] at hg
    simp [Value.ownBlock] at hg
    subst hg
    exact ⟨_, _, hh⟩
theorem wo_step {w Y V wr w5 : World} {o1 o : Obj} {P i oc : Nat} {oa : Option Addr} {sps : List Sp} {vs : List Value} {p : Sp} {rv v5 : Value} {C : Value → Array Value} {k : Nat} (I : WoI w sps i (.slice oa i oc) vs Y) (hV : V = Y.alloc o1) (hP : P = Y.heap.size) (J : WiI V P C p.qs k rv wr) (hk : p.qs.take k = p.qs) (hil : i < sps.length) (hp : p = sps[i])
    (h5 : w5.ownsRow w.heap.size 62 10 v5 (i + 1) (stvs (sps.take i) vs ++ stv p rv)) (hg : (wr.alloc o).grownBy w5 (Value.slice oa i oc).ownBlock) : WoI w sps (i + 1) v5 (vs ++ [rv]) w5 := by
  have hVs : V.heap.size = P + 1 := by rw [hV, hP]; simp
  have hks := J.keep.size
  have hgs := hg.size
  rw [World.size_alloc] at hgs
  have hYb := I.below.size
  have hVo : ∀ b, b < P → wr.heap[b]? = Y.heap[b]? := fun b h => (J.keep.block b (by omega) (by omega)).trans (by rw [hV]; exact heapOld _ _ (by omega))
  have hw5 : ∀ b, b < wr.heap.size → (Value.slice oa i oc).ownBlock ≠ some b → w5.heap[b]? = wr.heap[b]? := fun b h hne => (hg.block b (by rw [World.size_alloc]; omega) (fun e => hne e.symm)).trans (heapOld _ _ h)
  have hout : ∀ g, (Value.slice oa i oc).ownBlock = some g → ∃ c fr, wr.heap[g]? = some (.cells c 62 fr) := fun g hg' => by
    obtain ⟨c, fr, h⟩ := own_type I.own hg'
    have := (own_ltE I.own hg').2
    exact ⟨c, fr, (hVo g (by omega)).trans h⟩
  refine ⟨?_, ?_, fun j h hj => ?_, ?_⟩
  · rw [List.length_append, I.len]; rfl
  · have ht : sps.take (i + 1) = sps.take i ++ [p] := by rw [List.take_add_one, List.getElem?_eq_getElem hil, hp]; rfl
    rw [ht, stvs_snoc _ _ _ _ (by rw [List.length_take, I.len]; omega)]
    exact h5
  · by_cases hji : j < vs.length
    · rw [List.getElem_append_left hji]
      have h1 := I.rq j hji hj
      have h2 : wr.ownsRow w.heap.size 58 13 vs[j] (fq sps[j].qs).length (rqws (fq sps[j].qs)) := own_keptE h1 (fun g hg' => hVo g (by have := (own_ltE h1 hg').2; omega))
      refine own_keptE h2 (fun g hg' => hw5 g (own_ltE h2 hg').2 (fun e => ?_))
      obtain ⟨c, fr, hh⟩ := hout g e
      exact own_neE h2 hg' hh (by decide) rfl
    · have hl := I.len
      rw [List.length_append] at h
      simp only [List.length_singleton] at h
      have hje : j = i := by omega
      subst hje
      rw [List.getElem_append_right (by omega)]
      simp only [hl, Nat.sub_self, List.getElem_singleton]
      rw [← hp]
      have h1 := J.own
      rw [hk] at h1
      have h2 : wr.ownsRow w.heap.size 58 13 rv (fq p.qs).length (rqws (fq p.qs)) := by
        refine ⟨h1.1, ?_⟩
        rcases h1.2 with h | ⟨g, cap, cur, e1, e2, e3⟩
        · exact Or.inl h
        · exact Or.inr ⟨g, cap, cur, e1, by omega, e3⟩
      refine own_keptE h2 (fun g hg' => hw5 g (own_ltE h2 hg').2 (fun e => ?_))
      obtain ⟨c, fr, hh⟩ := hout g e
      exact own_neE h2 hg' hh (by decide) rfl
  · refine ⟨?_, ?_, ?_, by omega, fun b hb => ?_⟩
    · rw [hg.os]; show wr.os = _; rw [J.keep.os, hV]; exact I.below.os
    · rw [hg.tape]; show wr.tape = _; rw [J.keep.tape, hV]; exact I.below.tape
    · rw [hg.output]; show wr.output = _; rw [J.keep.output, hV]; exact I.below.output
    · refine (hw5 b (by omega) (fun e => ?_)).trans ((hVo b (by omega)).trans (I.below.block b hb))
      have := (own_ltE I.own e).1
      omega

set_option maxRecDepth 100000 in
set_option maxHeartbeats 8000000 in
theorem without7 (ao : Option Addr) (n cap : Nat) (sps : List Sp) (w : World) (hn : sps.length = n) (hnc : n ≤ cap) (hn1 : n ≤ 1048576) (hql : ∀ p ∈ sps, p.qs.length ≤ 1048576)
    (hc : 0 < n → ∃ A o, ao = some ⟨A, o, none⟩ ∧ A < w.heap.size ∧ ∀ i (h : i < sps.length), ∃ v, (∀ x, x < 10 → w.cell? ⟨A, o + i * 10 + x, none⟩ = (stv sps[i] v)[x]?) ∧ RqAt w v sps[i].qs) :
    Calls Tryz.prog 7 #[.slice ao n cap] w fun e w' => ∃ s3 m vs, e = .returned s3 ∧ (m = n ∧ n ≤ 16384 ∨ m = 0 ∧ 16384 < n) ∧ WoI w sps m s3 vs w' := by
  obtain ⟨i0, hi, hz0, hz1, hz2⟩ := info_parts Tryz.info62
  obtain ⟨i1, hj, hy0, hy1, hy2⟩ := info_parts Tryz.info58
  have HC := hide hc
  have HN := hide hn
  have HQL := hide hql
  clear hc hn hql
  go_enter Tryz.func7, Tryz.ntmps7
  go_wp2
  go_loopw [3, 4] (fun s3 s4 wr => ∃ (i : Nat) (vs : List Value), i ≤ n ∧ (i = 0 ∨ n ≤ 16384) ∧ s4 = .int .i64 i ∧ WoI w sps i s3 vs wr) (fun _ s4 _ => n - (intOf s4).toNat)
  case atStart => exact ⟨0, [], by omega, Or.inl rfl, rfl, rfl, World.ownsRow_nil _ _ _ _, fun j h => by simp at h, Below.refl _ _⟩
  case round =>
    obtain ⟨i, vs, hin, hor, rfl, I⟩ := hrel
    obtain ⟨Y, rfl⟩ : ∃ Y, Y = wr := ⟨_, rfl⟩
    have HI := hide I
    have hwr := I.below.size
    obtain ⟨oa, oc, ho⟩ := own_sliceE I.own
    subst ho
    by_cases hlt : i < n
    · have hltI : (i : Int) < (n : Int) := by omega
      by_cases hsm : n ≤ 16384
      · have hsmI : (n : Int) ≤ 16384 := by omega
        have hil : i < sps.length := by rw [HN.out]; exact hlt
        obtain ⟨A, o, rfl, hA, hcc⟩ := HC.out (by omega)
        obtain ⟨v, hcell, hrq⟩ := hcc i hil
        obtain ⟨p, hp⟩ : ∃ p, p = sps[i] := ⟨_, rfl⟩
        rw [← hp] at hcell hrq
        have hqlen : p.qs.length ≤ 1048576 := hp ▸ HQL.out _ (List.getElem_mem hil)
        obtain ⟨ra, rc, rfl, hrc, hrcell⟩ := hrq
        have hk : ∀ x, x < 10 → Y.cell? ⟨A, o + i * 10 + x, none⟩ = (stv p (.slice ra p.qs.length rc))[x]? := fun x hx => (I.below.cell (p := ⟨A, o + i * 10 + x, none⟩) hA).trans (hcell x hx)
        have k0 := hk 0 (by omega)
        have k1 := hk 1 (by omega)
        have k2 := hk 2 (by omega)
        have k3 := hk 3 (by omega)
        have k4 := hk 4 (by omega)
        have k5 := hk 5 (by omega)
        have k6 := hk 6 (by omega)
        have k7 := hk 7 (by omega)
        have k8 := hk 8 (by omega)
        have k9 := hk 9 (by omega)
        rw [Nat.add_zero] at k0
        have HCE := hide hcell
        have HRC := hide hrcell
        have HP := hide hp
        clear hk hcell hrcell hp hcc I
        go_wp2_with fail
        obtain ⟨V, hV⟩ : ∃ V, V = Y.alloc (.cells #[.int .i64 p.kind, .int .i64 p.conn, .int .u64 p.now, .slice none 0 0, .string p.raw, .int .i64 p.cut, .int .i64 p.left, .int .i64 p.full, .int .i64 p.kept, .int .i64 p.part] 62) := ⟨_, rfl⟩
        rw [← hV]
        obtain ⟨P, hP⟩ : ∃ P, P = Y.heap.size := ⟨_, rfl⟩
        rw [← hP]
        have hVs : V.heap.size = P + 1 := by rw [hV, hP]; simp
        have hVP : V.heap[P]? = some (.cells #[.int .i64 p.kind, .int .i64 p.conn, .int .u64 p.now, .slice none 0 0, .string p.raw, .int .i64 p.cut, .int .i64 p.left, .int .i64 p.full, .int .i64 p.kept, .int .i64 p.part] 62) := by rw [hV, hP]; exact heapNew _ _
        have hVo : ∀ b, b < P → V.heap[b]? = Y.heap[b]? := fun b h => by rw [hV]; exact heapOld _ _ (by omega)
        have hwP : w.heap.size ≤ P := by omega
        have hAP : A < P := by omega
        have HVK := hide hVo
        have HVP := hide hVP
        have k3V : V.cell? ⟨A, o + i * 10 + 3, none⟩ = some (.slice ra p.qs.length rc) := (World.cell?_of_block (w := Y) (hVo A hAP)).trans k3
        obtain ⟨ql, hqe⟩ : ∃ ql, ql = p.qs.length := ⟨_, rfl⟩
        rw [← hqe] at k3V hqlen hrc
        have HQE := hide hqe
        have HK3 := hide k3V
        have HVO := hide hV
        have HPO := hide hP
        have HRC2 : Hid (0 < ql → ∃ A2 o2, ra = some ⟨A2, o2, none⟩ ∧ A2 < w.heap.size ∧ ∀ k (h : k < p.qs.length) j, j < 13 → w.cell? ⟨A2, o2 + k * 13 + j, none⟩ = (rqw p.qs[k])[j]?) := hide (by rw [hqe]; exact HRC.out)
        clear k0 k1 k2 k3 k4 k5 k6 k7 k8 k9 hV hP hVo hVP hqe k3V HRC
        go_loopw [6] (fun s6 X => ∃ (k : Nat) (rv : Value), k ≤ ql ∧ s6 = .int .i64 k ∧ WiI V P (fun v => #[.int .i64 p.kind, .int .i64 p.conn, .int .u64 p.now, v, .string p.raw, .int .i64 p.cut, .int .i64 p.left, .int .i64 p.full, .int .i64 p.kept, .int .i64 p.part]) p.qs k rv X) (fun s6 _ => ql - (intOf s6).toNat)
        case atStart => exact ⟨0, .slice none 0 0, by omega, rfl, HVP.out, World.ownsRow_nil _ _ _ _, Keep.refl _ _⟩
        case round =>
          obtain ⟨k, rv, hkq, rfl, J⟩ := hrel
          have hks := J.keep.size
          obtain ⟨va, vc, hrv⟩ := own_sliceE J.own
          obtain ⟨m, hm⟩ : ∃ m, m = (fq (p.qs.take k)).length := ⟨_, rfl⟩
          rw [← hm] at hrv
          subst hrv
          have hml : m ≤ ql := by rw [hm]; have := fq_le (p.qs.take k); rw [List.length_take] at this; omega
          have hXA : wr.heap[A]? = V.heap[A]? := J.keep.block A (by omega) (by omega)
          have hb := J.blk
          have d3 : wr.cell? ⟨A, o + i * 10 + 3, none⟩ = some (.slice ra ql rc) := (World.cell?_of_block (w := V) hXA).trans HK3.out
          have HJ := hide J
          have HM := hide hm
          clear J hm
          by_cases hlk : k < ql
          · have hlkI : (k : Int) < (ql : Int) := by omega
            obtain ⟨A2, o2, rfl, hA2, hq2⟩ := HRC2.out (by omega)
            have hkl : k < p.qs.length := by rw [← HQE.out]; exact hlk
            obtain ⟨q, hq⟩ : ∃ q, q = p.qs[k] := ⟨_, rfl⟩
            have hqc : ∀ x, x < 13 → wr.cell? ⟨A2, o2 + k * 13 + x, none⟩ = (rqw q)[x]? := fun x hx => by
              rw [World.cell?_of_block (w := V) (HJ.out.keep.block A2 (by omega) (by omega)), World.cell?_of_block (w := Y) (HVK.out A2 (by omega)), HI.out.below.cell (p := ⟨A2, o2 + k * 13 + x, none⟩) hA2, hq]
              exact hq2 k hkl x hx
            have q0 := hqc 0 (by omega)
            have q1 := hqc 1 (by omega)
            have q2 := hqc 2 (by omega)
            have q3 := hqc 3 (by omega)
            have q4 := hqc 4 (by omega)
            have q5 := hqc 5 (by omega)
            have q6 := hqc 6 (by omega)
            have q7 := hqc 7 (by omega)
            have q8 := hqc 8 (by omega)
            have q9 := hqc 9 (by omega)
            have q10 := hqc 10 (by omega)
            have q11 := hqc 11 (by omega)
            have q12 := hqc 12 (by omega)
            rw [Nat.add_zero] at q0
            have hsuc := fq_succ p.qs k hkl
            rw [← hq] at hsuc
            have HS := hide hsuc
            have HQ := hide hq
            clear hq hsuc hqc hq2
            by_cases h5 : q.op = 5
            · have h5' : (q.op == 5) = true := by simp [h5]
              go_wp2
              go_roundw
              case rel =>
                refine ⟨k + 1, _, by omega, by go_num, hb, ?_, HJ.out.keep⟩
                rw [HS.out, if_pos h5]
                exact HJ.out.own
              case measure => simp [intOf]; omega
            · have h5' : (q.op == 5) = false := by simp [h5]
              go_upto_region 11 with fail
              have f1 := cellB hb 3
              have f2 := frozenB hb 3
              have HOWN : Hid ((wr.alloc (.cells #[.int .u8 q.op, .int .u8 q.k0, .int .u8 q.k1, .int .u8 q.k2, .int .u8 q.k3, .int .u8 q.k4, .int .u8 q.k5, .int .u8 q.k6, .int .u8 q.k7, .int .u8 q.kd, .int .u64 q.x, .int .u64 q.y, .int .u64 q.n] 58)).drew.ownsRow V.heap.size 58 13 (.slice va m vc) m (rqws (fq (p.qs.take k)))) := hide (by
                have h0 := HJ.out.own
                rw [← HM.out] at h0
                exact own_keptE h0 (fun z hz => heapOld _ _ (own_ltE h0 hz).2))
              have HCL : Hid (∀ j u, (rqw q)[j]? = some u → (wr.alloc (.cells #[.int .u8 q.op, .int .u8 q.k0, .int .u8 q.k1, .int .u8 q.k2, .int .u8 q.k3, .int .u8 q.k4, .int .u8 q.k5, .int .u8 q.k6, .int .u8 q.k7, .int .u8 q.kd, .int .u64 q.x, .int .u64 q.y, .int .u64 q.n] 58)).drew.cell? ((⟨wr.heap.size, 0, none⟩ : Addr).add j) = some u) := hide (fun j u hj => by
                rw [Addr.add_lit, Nat.zero_add]
                refine (cellB (heapNew wr (.cells #[.int .u8 q.op, .int .u8 q.k0, .int .u8 q.k1, .int .u8 q.k2, .int .u8 q.k3, .int .u8 q.k4, .int .u8 q.k5, .int .u8 q.k6, .int .u8 q.k7, .int .u8 q.kd, .int .u64 q.x, .int .u64 q.y, .int .u64 q.n] 58)) j).trans ?_
                rw [← hj]
                simp)
              have HBS : Hid (V.heap.size ≤ (wr.alloc (.cells #[.int .u8 q.op, .int .u8 q.k0, .int .u8 q.k1, .int .u8 q.k2, .int .u8 q.k3, .int .u8 q.k4, .int .u8 q.k5, .int .u8 q.k6, .int .u8 q.k7, .int .u8 q.kd, .int .u64 q.x, .int .u64 q.y, .int .u64 q.n] 58)).drew.heap.size) := hide (by show V.heap.size ≤ (wr.alloc _).heap.size; rw [World.size_alloc]; omega)
              have hPl : P < wr.heap.size := ltB hb
              have HB := hide hb
              clear hb
              go_region_law (refine step_append_any (by rfl) _ _ 28 58 i1 ZR 13 48 Tryz.underlying28 hj hy0 hy1 hy2 (by rfl) (by decide) (by rfl) V.heap.size (.slice va m vc) m (rqws (fq (p.qs.take k))) (by rfl) HOWN.out ⟨wr.heap.size, 0, none⟩ 1 1 (rqw q) (by rfl) (by rfl) HCL.out (by simp [Value.oneCell']) (by omega) (by omega) HBS.out ?_; intro v5 w4 hown4 hgr4 hloc4; obtain ⟨ya, yc, hyw⟩ := own_sliceE hown4; subst hyw; have hh4 := wou_blk HB.out hVs HOWN.out hgr4; have d1 := cellB hh4 3; have d2 := frozenB hh4 3)
              all_goals go_wp2
              all_goals go_roundw
              all_goals first
                | exact ⟨k + 1, _, by omega, by go_num, wi_step HJ.out hVs HOWN.out hown4 hgr4 hh4 (HS.out.trans (if_neg h5)) HM.out (fun _ _ => rfl)⟩
                | (simp [intOf]; omega)
          · have hke : k = ql := by omega
            have hkI : ¬ (k : Int) < (ql : Int) := by omega
            have t0 := cellB hb 0
            have t1 := cellB hb 1
            have t2 := cellB hb 2
            have t3 := cellB hb 3
            have t4 := cellB hb 4
            have t5 := cellB hb 5
            have t6 := cellB hb 6
            have t7 := cellB hb 7
            have t8 := cellB hb 8
            have t9 := cellB hb 9
            have HOUT : Hid ((wr.alloc (.cells #[.int .i64 p.kind, .int .i64 p.conn, .int .u64 p.now, .slice va m vc, .string p.raw, .int .i64 p.cut, .int .i64 p.left, .int .i64 p.full, .int .i64 p.kept, .int .i64 p.part] 62)).ownsRow w.heap.size 62 10 (.slice oa i oc) i (stvs (sps.take i) vs)) := hide (own_keptE HI.out.own (fun g hg => by
              have hgl := (own_ltE HI.out.own hg).2
              have hgP : g < P := by have := HPO.out; omega
              exact (heapOld _ _ (by omega)).trans ((HJ.out.keep.block g (by omega) (by omega)).trans (HVK.out g hgP))))
            have HCL : Hid (∀ j u, (stv p (.slice va m vc))[j]? = some u → (wr.alloc (.cells #[.int .i64 p.kind, .int .i64 p.conn, .int .u64 p.now, .slice va m vc, .string p.raw, .int .i64 p.cut, .int .i64 p.left, .int .i64 p.full, .int .i64 p.kept, .int .i64 p.part] 62)).cell? ((⟨wr.heap.size, 0, none⟩ : Addr).add j) = some u) := hide (fun j u hj => by
              rw [Addr.add_lit, Nat.zero_add]
              refine (cellB (heapNew wr (.cells #[.int .i64 p.kind, .int .i64 p.conn, .int .u64 p.now, .slice va m vc, .string p.raw, .int .i64 p.cut, .int .i64 p.left, .int .i64 p.full, .int .i64 p.kept, .int .i64 p.part] 62)) j).trans ?_
              rw [← hj]
              simp)
            have HBS : Hid (w.heap.size ≤ (wr.alloc (.cells #[.int .i64 p.kind, .int .i64 p.conn, .int .u64 p.now, .slice va m vc, .string p.raw, .int .i64 p.cut, .int .i64 p.left, .int .i64 p.full, .int .i64 p.kept, .int .i64 p.part] 62)).heap.size) := hide (by rw [World.size_alloc]; omega)
            have HKE := hide hke
            clear hke
            go_wp2_with (at_builtin; refine wpList_append_own _ rfl _ _ 22 rfl w.heap.size 62 i0 ZS 10 104 Tryz.underlying22 hi hz0 hz1 hz2 rfl (by decide) (.slice oa i oc) i (stvs (sps.take i) vs) rfl HOUT.out ⟨wr.heap.size, 0, none⟩ 1 1 (stv p (.slice va m vc)) rfl rfl HCL.out (by simp [Value.oneCell']) (by unfold maxLen; omega) (by omega) HBS.out ?_; intro v5 w5 hown5 hgr5 hnil5)
            go_roundw
            case rel =>
              have hpl : p.qs.take k = p.qs := List.take_of_length_le (by rw [HKE.out, HQE.out]; exact Nat.le_refl _)
              refine ⟨i + 1, vs ++ [.slice va m vc], by omega, Or.inr hsm, by go_num, wo_step HI.out HVO.out HPO.out HJ.out hpl hil HP.out hown5 hgr5⟩
            case measure => simp [intOf]; omega
      · have hsmI : ¬ (n : Int) ≤ 16384 := by omega
        obtain rfl : i = 0 := by omega
        clear I
        go_wp2
        go_ret
        exact ⟨_, rfl, 0, ⟨rfl, by omega⟩, vs, HI.out⟩
    · have hltI : ¬ (i : Int) < (n : Int) := by omega
      obtain rfl : i = n := by omega
      clear I
      go_wp2
      go_ret
      exact ⟨_, rfl, i, by omega, vs, HI.out⟩
end Go.Proofs.YtlamgpeiolfffaaGreatDoor
