import Derived.Test.YtlcnkcgmjnfbiaaGreatDoorZd29
set_option linter.unusedSectionVars false
namespace Go.Proofs.YtlcnkcgmjnfbiaaGreatDoor
open Go.RowKit Go.Maps
variable [dK] [iK]

def kvals (k : Ky) : List Value := [.int .u8 k.k0, .int .u8 k.k1, .int .u8 k.k2, .int .u8 k.k3, .int .u8 k.k4, .int .u8 k.k5, .int .u8 k.k6, .int .u8 k.k7]
def qvals (q : Qt) : List Value := [.int .u8 q.kd, .int .u64 q.x, .int .u64 q.y, .int .u64 q.lv, .int .u64 q.wn]
/-- Records, one behind the other, as cells. -/
def rrow (es : Es) (ks : List Ky) : List Value := ks.flatMap fun k => kvals k ++ qvals (heldOf es k)
theorem rrow_snoc (es : Es) (ks : List Ky) (k : Ky) : rrow es (ks ++ [k]) = rrow es ks ++ (kvals k ++ qvals (heldOf es k)) := by
  unfold rrow
  rw [List.flatMap_append]
  simp
theorem recs_cons (es : Es) (k : Ky) (ks : List Ky) : recs es (k :: ks) = kby k ++ (qby (heldOf es k) ++ recs es ks) := by
  unfold recs
  rw [List.flatMap_cons, List.append_assoc]
theorem Tryz.infoRec : (Tryz.prog.info? 173).map (fun i => (i.zero, i.size, i.bytes)) = some (some (.agg #[.int .u8 0, .int .u8 0, .int .u8 0, .int .u8 0, .int .u8 0, .int .u8 0, .int .u8 0, .int .u8 0, .int .u8 0, .int .u64 0, .int .u64 0, .int .u64 0, .int .u64 0]), 13, 48) := by kernel_rfl
theorem cells13_new (w : World) (k : Ky) (q : Qt) (t : TypeId) : ∀ j u, (kvals k ++ qvals q)[j]? = some u → (w.alloc (.cells #[.int .u8 k.k0, .int .u8 k.k1, .int .u8 k.k2, .int .u8 k.k3, .int .u8 k.k4, .int .u8 k.k5, .int .u8 k.k6, .int .u8 k.k7, .int .u8 q.kd, .int .u64 q.x, .int .u64 q.y, .int .u64 q.lv, .int .u64 q.wn] t)).cell? ((⟨w.heap.size, 0, none⟩ : Addr).add j) = some u := by
  intro j u hj
  rw [Addr.add_lit, Nat.zero_add, World.cell?_alloc_at _ _ _ _ rfl]
  match j, hj with
  | 0, hj => exact hj
  | 1, hj => exact hj
  | 2, hj => exact hj
  | 3, hj => exact hj
  | 4, hj => exact hj
  | 5, hj => exact hj
  | 6, hj => exact hj
  | 7, hj => exact hj
  | 8, hj => exact hj
  | 9, hj => exact hj
  | 10, hj => exact hj
  | 11, hj => exact hj
  | 12, hj => exact hj
  | j + 13, hj => simp [kvals, qvals] at hj
theorem rec_one (k : Ky) (q : Qt) : ∀ u ∈ kvals k ++ qvals q, u.oneCell' = true := by
  intro v hv
  simp [kvals, qvals] at hv
  rcases hv with h | h | h | h | h | h | h | h | h | h | h | h | h <;> subst h <;> rfl

/-- While an image's records are read. -/
structure RdR (w1 wr : World) (F g I : Nat) (turn time : Int) (es : Es) (ks : List Ky) (tl : List Int) (j : Nat) (v : Value) : Prop where
  box : wr.heap[I]? = some (.cells #[.int .u64 turn, .int .u64 time, v] 167)
  own : wr.ownsRow (I + 1) 173 13 v j (rrow es (ks.take j))
  fd : FdAt wr F g (recs es (ks.drop j) ++ tl)
  bel : Below w1.heap.size w1 wr

set_option maxRecDepth 100000 in
set_option maxHeartbeats 4000000 in
/-- An image is read as it was written. -/
theorem read148 (gt o g n cap : Nat) (turn time : Int) (es : Es) (ks : List Ky) (w : World) (hT : TabOk w gt o) (hl : ks.length ≤ 12) (hk : ∀ k ∈ ks, k.ok ∧ (heldOf es k).ok) (ht : 0 ≤ turn ∧ turn ≤ 18446744073709551615) (hm : 0 ≤ time ∧ time ≤ 18446744073709551615) (hn : (imgB turn time es ks).length = n) (hnc : n ≤ cap) (hgl : g < w.heap.size) (hgt : gt < w.heap.size) (hne : g ≠ gt)
    (hc : ∀ j, j < n → w.cell? ⟨g, 0 + j, none⟩ = some (.int .u8 ((imgB turn time es ks).getD j 0))) :
    Calls Tryz.prog 151 #[.pointer (some ⟨gt, o, none⟩), .slice (some ⟨g, 0, none⟩) n cap] w fun e w' => ∃ v, e = .returned (.tuple #[.agg #[.int .u64 turn, .int .u64 time, v], .bool true]) ∧ w'.ownsRow w.heap.size 173 13 v ks.length (rrow es ks) ∧ TabPost w w' gt o := by
  obtain ⟨i0, hi, hz0, hz1, hz2⟩ := info_parts Tryz.infoRec
  have b8 : ∀ v, (be8 v).length = 8 := fun _ => rfl
  have hfit : ∀ k ∈ ks, k.ok ∧ (heldOf es k).fit := fun k h => ⟨(hk k h).1, ⟨by rcases (hk k h).2.kd with h | h <;> omega, (hk k h).2.x, (hk k h).2.y, (hk k h).2.lv, (hk k h).2.wn⟩⟩
  obtain ⟨A, hA⟩ : ∃ A, A = imgA turn time es ks := ⟨_, rfl⟩
  have hAl : A.length = 17 + 41 * ks.length := by rw [hA]; exact imgA_len _ _ _ _
  have hAb : Bytes A := hA ▸ imgA_bytes turn time es ks hl hfit
  obtain ⟨sm, hsm⟩ : ∃ sm, sm = sumM A := ⟨_, rfl⟩
  have hB : imgB turn time es ks = A ++ be8 sm := by rw [hsm, hA]; rfl
  rw [hB] at hn hc
  have hnl : n = A.length + 8 := by rw [← hn, List.length_append, b8]
  obtain ⟨V, hV⟩ : ∃ V, V = w.alloc (.cells #[.int .u64 0, .int .u64 0, .slice none 0 0] 167) := ⟨_, rfl⟩
  have hBV : Below w.heap.size w V := hV ▸ (Below.refl _ w).alloc (Nat.le_refl _) _
  have h0 : V.heap[w.heap.size]? = some (.cells #[.int .u64 0, .int .u64 0, .slice none 0 0] 167) := hV ▸ heapNew _ _
  have hsV : V.heap.size = w.heap.size + 1 := by rw [hV]; simp
  have hcV : ∀ j, j < n → V.cell? ⟨g, 0 + j, none⟩ = some (.int .u8 ((A ++ be8 sm).getD j 0)) := fun j hj => (hBV.cell (p := ⟨g, 0 + j, none⟩) hgl).trans (hc j hj)
  have hA0 : A.getD 0 0 = (ks.length : Int) := by rw [hA]; rfl
  have HW := hide (whole169 gt o g 0 n cap (ks.length : Int) A sm V (hT.block (hBV.block gt hgt)) hsm hnl.symm hnc (by omega) (by omega) (by omega) (by omega) hne
    (by have := hcV 0 (by omega); rw [getD_app_l _ _ _ (by omega), hA0] at this; simpa using this) (fun j hj => by rw [hcV j (by omega), getD_app_l _ _ _ hj]) hAb
    (fun j hj => by
      have := hcV (A.length + j) (by omega)
      rw [getD_app_r] at this
      rw [show 0 + (n - 8) + j = 0 + (A.length + j) by omega, this]
      match j, hj with
      | 0, _ => rfl
      | 1, _ => rfl
      | 2, _ => rfl
      | 3, _ => rfl
      | 4, _ => rfl
      | 5, _ => rfl
      | 6, _ => rfl
      | 7, _ => rfl))
  have hbyt : Bytes (A ++ be8 sm) := fun b hb => (List.mem_append.1 hb).elim (hAb b) (be8_bytes sm b)
  have hsplit : A ++ be8 sm = (ks.length : Int) :: (be8 turn ++ (be8 time ++ (recs es ks ++ be8 sm))) := by rw [hA]; unfold imgA; simp
  have HCV := hide hcV
  have HBV := hide hBV
  have HSV := hide hsV
  have HK := hide hk
  have HNL := hide (And.intro hnl hn)
  have HBY := hide hbyt
  have HSP := hide hsplit
  have HTT := hide (And.intro ht hm)
  have HT := hide hT
  have hl' : (ks.length : Int) ≤ 12 := by omega
  clear hc hcV hT hA hAl hAb hsm hB hn hnl hfit hBV hsV hk hbyt hsplit ht hm hA0
  go_enter Tryz.func151, Tryz.ntmps151
  go_wp2_with fail
  rw [← hV]
  clear hV
  refine HW.out.mono ?_
  rintro e w1 ⟨rfl, hP⟩
  have hs1 := hP.keep.size
  have sV := HSV.out
  have g1 := (hP.keep.block w.heap.size (ltB h0) (fun e => by omega)).trans h0
  have hc1 : ∀ j, j < n → w1.cell? ⟨g, 0 + j, none⟩ = some (.int .u8 ((A ++ be8 sm).getD j 0)) := fun j hj => (World.cell?_of_block (w := V) (hP.keep.block g (by omega) hne)).trans (HCV.out j hj)
  have hgl1 : g < w1.heap.size := by omega
  have HP := hide hP
  have HC1 := hide hc1
  have HG1 := hide g1
  clear hP hc1 g1
  go_wp2_with fail
  refine (of_any (some ⟨g, 0, none⟩) n cap w1).mono ?_
  rintro e w2 ⟨rfl, hw2⟩
  obtain ⟨F, hF⟩ : ∃ F, F = w1.heap.size := ⟨_, rfl⟩
  have hfd : FdAt w2 F g ((ks.length : Int) :: (be8 turn ++ (be8 time ++ (recs es ks ++ be8 sm)))) := by
    rw [← HSP.out]
    obtain ⟨hnl, hn⟩ := HNL.out
    refine ⟨⟨0, cap, ?_, by omega, fun j hj => ?_⟩, ?_, HBY.out, by omega, by rw [hw2]; simp; omega, by rw [hw2, hF]; simp⟩
    · rw [hw2, hF, hn]; exact cellB (heapNew _ _) 0
    · rw [hw2, World.cell?_alloc_lt _ _ ⟨g, 0 + j, none⟩ hgl1]; exact HC1.out j (by omega)
    · rw [hw2, hF]; exact frozenB (heapNew _ _) 0
  have hb2 : Below w1.heap.size w1 w2 := hw2 ▸ (Below.refl _ w1).alloc (Nat.le_refl _) _
  have hs2 : w2.heap.size = F + 1 := by rw [hw2, hF]; simp
  rw [← hF]
  clear hw2
  have HR1 := hide (rdByte F g _ _ w2 hfd (by rw [List.length_append, b8]; omega))
  have HB2 := hide hb2
  have HS2 := hide hs2
  have HF := hide hF
  clear hfd hb2 hs2 hF
  go_wp2_with fail
  refine HR1.out.mono ?_
  rintro e w3 ⟨rfl, h3, k3⟩
  have HR2 := hide (rdNum F g turn _ w3 h3 (by rw [List.length_append, b8]; omega) HTT.out.1.1 HTT.out.1.2)
  have HK3 := hide k3
  clear h3 k3
  go_wp2_with fail
  refine HR2.out.mono ?_
  rintro e w4 ⟨rfl, h4, k4⟩
  have HR3 := hide (rdNum F g time _ w4 h4 (by rw [List.length_append, b8]; omega) HTT.out.2.1 HTT.out.2.2)
  have HK4 := hide (HK3.out.then k4 (fun _ _ h => h))
  clear h4 k4
  go_wp2_with fail
  refine HR3.out.mono ?_
  rintro e w5 ⟨rfl, h5, k5⟩
  have HK5 := hide (HK4.out.then k5 (fun _ _ h => h))
  have H5 := hide h5
  clear h5 k5
  obtain ⟨Y, hY⟩ : ∃ Y, Y = w5.alloc (.cells #[.int .u64 turn, .int .u64 time, .slice none 0 0] 167) := ⟨_, rfl⟩
  obtain ⟨I, hI⟩ : ∃ I, I = w5.heap.size := ⟨_, rfl⟩
  have hRY : RdR w1 Y F g I turn time es ks (be8 sm) 0 (.slice none 0 0) := by
    have s5 := HK5.out.size
    have s2 := HS2.out
    have eF := HF.out
    refine ⟨by rw [hI, hY]; exact heapNew _ _, World.ownsRow_nil _ _ _ _, ?_, ?_⟩
    · rw [List.drop_zero]
      exact H5.out.kept (by rw [hY]; simp) (hY ▸ heapOld _ _ H5.out.Fl) (hY ▸ heapOld _ _ H5.out.gl)
    · rw [hY]
      exact (HB2.out.trans (HK5.out.below (by omega) (fun k hk => by omega))).alloc (by omega) _
  have HRY := hide hRY
  have HIl : Hid (w1.heap.size < I) := hide (by have := HK5.out.size; have := HS2.out; have := HF.out; omega)
  clear hRY
  go_upto_region 7 with fail
  rw [← hY, ← hI]
  clear hY hI
  go_wp2_with fail
  go_loopw [31] (fun s wr => ∃ (j : Nat) (v : Value), j ≤ ks.length ∧ s = .int .u8 j ∧ RdR w1 wr F g I turn time es ks (be8 sm) j v) (fun s _ => ks.length - (intOf s).toNat)
  case atStart => exact ⟨0, _, Nat.zero_le _, rfl, HRY.out⟩
  case round =>
    obtain ⟨j, v, hj, rfl, hR⟩ := hrel
    obtain ⟨a0, d0, e0⟩ := own_sliceE hR.own
    subst e0
    by_cases hlt : j < ks.length
    · obtain ⟨k, hkj⟩ : ∃ k, k = ks[j] := ⟨_, rfl⟩
      obtain ⟨q, hq⟩ : ∃ q, q = heldOf es k := ⟨_, rfl⟩
      have hdr : ks.drop j = k :: ks.drop (j + 1) := by rw [hkj]; exact List.drop_eq_getElem_cons hlt
      have hq0 : q.ok := by rw [hq, hkj]; exact (HK.out _ (List.getElem_mem hlt)).2
      have hfd := hR.fd
      rw [hdr, recs_cons, ← hq, List.append_assoc, List.append_assoc] at hfd
      have hIF := HIl.out
      have eF := HF.out
      have lI := ltB hR.box
      have nFI : F ≠ I := by omega
      have ngI : g ≠ I := by omega
      have HRK := hide (rdKey F g k _ wr hfd (by rw [List.length_append, qby_length]; omega))
      have HR0 := hide hR
      have hkj' : ks[j]? = some k := by rw [hkj]; exact List.getElem?_eq_getElem hlt
      have HDR := hide (And.intro hdr (And.intro hkj' hq))
      have HQ0 := hide hq0
      have hjl : (j : Int) < (ks.length : Int) := by omega
      have HLT := hide hlt
      clear hfd hR hdr hkj hkj' hq hq0 hIF eF hlt hj
      go_wp2_with fail
      refine HRK.out.mono ?_
      rintro e w6 ⟨rfl, h6, k6⟩
      obtain ⟨Wk, hWk⟩ : ∃ Wk, Wk = w6.alloc (.cells #[.int .u8 k.k0, .int .u8 k.k1, .int .u8 k.k2, .int .u8 k.k3, .int .u8 k.k4, .int .u8 k.k5, .int .u8 k.k6, .int .u8 k.k7] 37) := ⟨_, rfl⟩
      obtain ⟨K, hK⟩ : ∃ K, K = w6.heap.size := ⟨_, rfl⟩
      have s6 := k6.size
      have hk0 : Wk.heap[K]? = some (.cells #[.int .u8 k.k0, .int .u8 k.k1, .int .u8 k.k2, .int .u8 k.k3, .int .u8 k.k4, .int .u8 k.k5, .int .u8 k.k6, .int .u8 k.k7] 37) := by rw [hK, hWk]; exact heapNew _ _
      have h6' : FdAt Wk F g (qby q ++ (recs es (ks.drop (j + 1)) ++ be8 sm)) := h6.kept (by rw [hWk]; simp) (hWk ▸ heapOld _ _ h6.Fl) (hWk ▸ heapOld _ _ h6.gl)
      have hkWk : Keep (fun c => c = F) wr Wk := hWk ▸ k6.alloc _
      have nKF : K ≠ F := by have := h6.Fl; omega
      have HRQ := hide (qread170 F g q _ Wk h6' (by rw [List.length_append, b8]; omega) HQ0.out)
      have HKW := hide hkWk
      have HKs : Hid (wr.heap.size ≤ K) := hide (by omega)
      clear h6 h6' k6 hkWk s6
      go_upto_region 10 with fail
      rw [← hWk, ← hK]
      clear hWk hK
      go_wp2_with fail
      refine HRQ.out.mono ?_
      rintro e w7 ⟨rfl, h7, k7⟩
      obtain ⟨Wq, hWq⟩ : ∃ Wq, Wq = w7.alloc (.cells #[.int .u8 q.kd, .int .u64 q.x, .int .u64 q.y, .int .u64 q.lv, .int .u64 q.wn] 171) := ⟨_, rfl⟩
      obtain ⟨Q, hQ⟩ : ∃ Q, Q = w7.heap.size := ⟨_, rfl⟩
      have s7 := k7.size
      have lK := ltB hk0
      have hk7 : Wq.heap[K]? = some (.cells #[.int .u8 k.k0, .int .u8 k.k1, .int .u8 k.k2, .int .u8 k.k3, .int .u8 k.k4, .int .u8 k.k5, .int .u8 k.k6, .int .u8 k.k7] 37) := hWq ▸ upB ((k7.block K lK nKF).trans hk0) _
      have hq7 : Wq.heap[Q]? = some (.cells #[.int .u8 q.kd, .int .u64 q.x, .int .u64 q.y, .int .u64 q.lv, .int .u64 q.wn] 171) := by rw [hQ, hWq]; exact heapNew _ _
      have hkWq : Keep (fun c => c = F) wr Wq := hWq ▸ (HKW.out.then k7 (fun _ _ h => h)).alloc _
      have hI7 : Wq.heap[I]? = some (.cells #[.int .u64 turn, .int .u64 time, .slice a0 j d0] 167) := (hkWq.block I lI (fun e => nFI e.symm)).trans HR0.out.box
      have hfd7 : FdAt Wq F g (recs es (ks.drop (j + 1)) ++ be8 sm) := h7.kept (by rw [hWq]; simp) (hWq ▸ heapOld _ _ h7.Fl) (hWq ▸ heapOld _ _ h7.gl)
      have hoF : ∀ x, (Value.slice a0 j d0).ownBlock = some x → I + 1 ≤ x ∧ x < wr.heap.size := fun x hx => own_ltE HR0.out.own hx
      have hown7 : Wq.ownsRow (I + 1) 173 13 (.slice a0 j d0) j (rrow es (ks.take j)) := own_keptE HR0.out.own (fun x hx => hkWq.block x (hoF x hx).2 (fun e => by have := (hoF x hx).1; have := HIl.out; have := HF.out; omega))
      have HKQ := hide hkWq
      have HFD := hide hfd7
      have HSI : Hid (I + 1 ≤ Wq.heap.size) := hide (by have := hkWq.size; omega)
      clear h7 k7 hkWq hfd7 s7 lK hk0
      go_upto_region 11 with fail
      rw [← hWq, ← hQ]
      clear hWq hQ
      have c1 := cellB hk7
      have c2 := cellB hq7
      have c3 := cellB hI7
      have c3' := frozenB hI7
      go_wp2_with (first
        | (at_builtin; refine wpList_append_own_at (w := _) rfl _ _ 165 rfl (I + 1) 173 i0 (.agg #[.int .u8 0, .int .u8 0, .int .u8 0, .int .u8 0, .int .u8 0, .int .u8 0, .int .u8 0, .int .u8 0, .int .u8 0, .int .u64 0, .int .u64 0, .int .u64 0, .int .u64 0]) 13 48 Tryz.underlying165 hi hz0 hz1 hz2 rfl (by decide) (.slice a0 j d0) j _ rfl (hown7.alloc _) ⟨Wq.heap.size, 0, none⟩ 1 1 (kvals k ++ qvals q) rfl rfl (cells13_new _ _ _ _) (rec_one k q) (by unfold maxLen; omega) (by omega) (by have := HSI.out; simp; omega) ?_; intro v2 w8 hown8 hgrow8 _ hat8; obtain ⟨a2, d2, e2⟩ := own_sliceE hown8; subst e2
           have hI8 := (hgrow8.block I (by have := ltB hI7; simp; omega) (fun e => by have := (hoF I e.symm).1; omega)).trans ((heapOld _ _ (ltB hI7)).trans hI7)
           have c4 := cellB hI8
           have c4' := frozenB hI8)
        | go_in)
      go_roundw
      case rel =>
        obtain ⟨hdr, hkj, hq⟩ := HDR.out
        have hlt := HLT.out
        have hB : Below w1.heap.size w1 Wq := by
          refine HR0.out.bel.trans ((HKQ.out.mono (fun _ h _ => h)).below HR0.out.bel.size (fun c hc => ?_))
          have := HF.out
          omega
        have hX : ∀ x, x < Wq.heap.size → (Value.slice a0 j d0).ownBlock ≠ some x → w8.heap[x]? = Wq.heap[x]? := fun x hx hne' => (hgrow8.block x (by simp; omega) (fun e => hne' e.symm)).trans (heapOld _ _ hx)
        have hnF : (Value.slice a0 j d0).ownBlock ≠ some F := fun e => by have := (hoF F e).1; have := HIl.out; have := HF.out; omega
        have hng : (Value.slice a0 j d0).ownBlock ≠ some g := fun e => by have := (hoF g e).1; have := HIl.out; omega
        have hs8 : Wq.heap.size ≤ w8.heap.size := Nat.le_trans (by simp) hgrow8.size
        refine ⟨j + 1, .slice a2 (j + 1) d2, by omega, by go_num, by simpa using heapSet hI8 2 (.slice a2 (j + 1) d2), ?_, ?_, ?_⟩
        · have e : ks.take (j + 1) = ks.take j ++ [k] := by rw [List.take_add_one, hkj]; rfl
          rw [e, rrow_snoc, ← hq]
          exact ownsRow_setCell_other hown8 (a := ⟨I, 2, none⟩) (fun e => absurd (own_ltE hown8 e).1 (by show ¬ I + 1 ≤ I; omega)) _
        · exact HFD.out.kept (by rw [World.size_setCell]; exact hs8) ((heapSetO nFI _ _).trans (hX F HFD.out.Fl hnF)) ((heapSetO ngI _ _).trans (hX g HFD.out.gl hng))
        · refine Below.setCell ?_ (by show w1.heap.size ≤ I; have := HIl.out; omega) _
          exact (hB.alloc hB.size _).grown hgrow8 (by have := hB.size; simp; omega) (fun x e => by have := (hoF x e).1; have := HIl.out; omega)
      case measure => have := HLT.out; simp [intOf]; omega
    · obtain rfl : j = ks.length := by omega
      have c1 := cellB hR.box
      have g1 := (hR.bel.block w.heap.size (ltB HG1.out)).trans HG1.out
      have c2 := cellB g1
      have c2' := frozenB g1
      have HR0 := hide hR
      have HGr := hide g1
      have hIr : I ≠ w.heap.size := by have := HIl.out; omega
      clear hR g1
      go_wp2
      refine bodyPost_ret (v := .tuple #[.agg #[.int .u64 turn, .int .u64 time, .slice a0 ks.length d0], .bool true]) (by simp [results, Tryz.results151, go_sem, c2]) rfl ⟨_, rfl, ?_, ?_⟩
      · have ho := HR0.out.own
        rw [List.take_length] at ho
        have hr : ∀ x, (Value.slice a0 ks.length d0).ownBlock = some x → I + 1 ≤ x := fun x hx => (own_ltE ho hx).1
        have nr : (Value.slice a0 ks.length d0).ownBlock ≠ some w.heap.size := fun e => by have := hr _ e; have := HIl.out; omega
        have h3 := ownsRow_setCell_other (ownsRow_setCell_other (ownsRow_setCell_other ho (a := ⟨w.heap.size, 0, none⟩) nr (.int .u64 turn)) (a := ⟨w.heap.size, 1, none⟩) nr (.int .u64 time)) (a := ⟨w.heap.size, 2, none⟩) nr (.slice a0 ks.length d0)
        refine ⟨h3.1, ?_⟩
        rcases h3.2 with h | ⟨x, cap', cur, e1, e2, e3⟩
        · exact Or.inl h
        · exact Or.inr ⟨x, cap', cur, e1, by have := HIl.out; omega, e3⟩
      · have hB := HR0.out.bel
        have hP := HP.out
        have hBV := HBV.out
        have gr : gt ≠ w.heap.size := by omega
        have hgt1 : gt < w1.heap.size := by omega
        have hX : (((wr.setCell ⟨w.heap.size, 0, none⟩ (.int .u64 turn)).setCell ⟨w.heap.size, 1, none⟩ (.int .u64 time)).setCell ⟨w.heap.size, 2, none⟩ (.slice a0 ks.length d0)).heap[gt]? = w1.heap[gt]? := ((heapSetO gr _ _).trans ((heapSetO gr _ _).trans (heapSetO gr _ _))).trans (hB.block gt hgt1)
        refine ⟨hP.tab.block hX, fun x hx => ⟨(World.cell?_of_block (w := w1) hX).trans ((hP.cel x hx).1.trans (hBV.cell (p := ⟨gt, x, none⟩) hgt)), (World.frozen?_of_block (w := w1) hX).trans ((hP.cel x hx).2.trans (hBV.frozen (p := ⟨gt, x, none⟩) hgt))⟩, ?_⟩
        refine Keep.set (S := fun c => c = gt) (b := w.heap.size) (Keep.set (S := fun c => c = gt) (b := w.heap.size) (Keep.set (S := fun c => c = gt) (b := w.heap.size) ?_ (Or.inr (Nat.le_refl _)) _ _) (Or.inr (Nat.le_refl _)) _ _) (Or.inr (Nat.le_refl _)) _ _
        exact ((Keep.of_below hBV).then hP.keep (fun _ _ h => h)).then (T := fun _ => False) (Keep.of_below hB) (fun _ _ h => h.elim)
end Go.Proofs.YtlcnkcgmjnfbiaaGreatDoor
