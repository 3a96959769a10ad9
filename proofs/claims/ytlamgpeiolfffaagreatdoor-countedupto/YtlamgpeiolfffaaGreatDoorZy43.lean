import Derived.Test.YtlamgpeiolfffaaGreatDoorZy40
import Derived.Test.YtlamgpeiolfffaaGreatDoorZy41
import Derived.Test.YtlamgpeiolfffaaGreatDoorZy34
set_option linter.unusedSectionVars false
namespace Go.Proofs.YtlamgpeiolfffaaGreatDoor
open Go.RowKit
variable [dK] [iK]

theorem callFunc20 (vs : Array Value) (w : World) : Sem.run Tryz.prog (callFunc 20 vs) w = .ok (.enter 20 vs) w := by simp [go_sem]
theorem callFunc51 (vs : Array Value) (w : World) : Sem.run Tryz.prog (callFunc 51 vs) w = .ok (.enter 51 vs) w := by simp [go_sem]
theorem callFunc53 (vs : Array Value) (w : World) : Sem.run Tryz.prog (callFunc 53 vs) w = .ok (.enter 53 vs) w := by simp [go_sem]
theorem pick20' (k : Int) (i : Nat) (w : World) (h0 : -9223372036854775808 ≤ k) (h1 : k ≤ 9223372036854775807) (h : pickM k 3 = (i : Int)) :
    Calls Tryz.prog 20 #[.int .i64 k, .int .i64 3] w fun e w' => e = .returned (.int .i64 i) ∧ w' = w := by
  rw [← h]
  exact pick20 k 3 w (by omega) (by omega) h0 h1

theorem doM_told (L : Ld) (q : Rq) (hL : L.ok) (hq : q.ok) : (doM L q).2.told := by
  have h := (doM_ok L q hL hq).2
  have hc : 1 ≤ (doM L q).2.c ∧ (doM L q).2.c ≤ 9 := by
    unfold doM
    by_cases h2 : q.op = 2
    · rw [if_neg (by omega), if_pos h2]
      cases fnd q.key L.ks with
      | none => simp
      | some z =>
        have := admM_code z L.time q.n
        simp only []
        omega
    · rw [if_neg h2]
      repeat' split
      all_goals simp
  exact ⟨hc.1, hc.2, h.a, h.b⟩
theorem rqws_get (j : Nat) (hj : j < 13) : ∀ (l : List Rq) (i : Nat) (hi : i < l.length), (rqws l)[i * 13 + j]? = (rqw l[i])[j]?
  | q :: t, 0, _ => by
    show (rqw q ++ rqws t)[0 * 13 + j]? = _
    rw [Nat.zero_mul, Nat.zero_add, List.getElem?_append_left (by simpa using hj)]
    rfl
  | q :: t, i + 1, hi => by
    have h13 : (rqw q).length = 13 := rfl
    show (rqw q ++ rqws t)[(i + 1) * 13 + j]? = _
    rw [List.getElem?_append_right (by rw [h13]; omega), h13, show (i + 1) * 13 + j - 13 = i * 13 + j by omega, rqws_get j hj t i (by simpa using hi)]
    rfl


/-- What is left of the replies while the law asks for them, one by one. -/
structure FdI (X : World) (wb bb base kb kc gb : Nat) (c0 c3 : Value) (f0 f1 f2 f3 f4 f5 f6 f7 f8 f9 f10 f11 f12 was win : Value) (lv : Value) (qs : List Rq) (tail : List Int) (i : Nat) (L : Ld) (vb : Value) (wr : World) : Prop where
  book : ∃ lv' B', BookAt wr bb base lv' B' ∧ Sim L B' ∧ (∀ g, lv'.ownBlock = some g → lv.ownBlock = some g ∨ X.heap.size ≤ g)
  blk : ∃ least, wr.heap[wb]? = some (.cells #[c0, .pointer (some ⟨bb, 0, none⟩), .slice (some ⟨kb, 0, none⟩) 3 kc, c3, .bool false, .bool false, f0, f1, f2, f3, f4, f5, f6, f7, f8, f9, f10, f11, f12, was, win, least, .int .u64 L.adm] 60)
  bytes : Sl wr vb (encs (doL L (qs.drop i)).2 ++ tail)
  vbg : ∀ g o n c, vb = .slice (some ⟨g, o, none⟩) n c → g = gb
  keep : Keep (fun b => b = bb ∨ b = wb ∨ lv.ownBlock = some b) X wr

theorem doL_len : ∀ (qs : List Rq) (L : Ld), (doL L qs).2.length = qs.length
  | [], _ => rfl
  | q :: t, L => by show ((doM L q).2 :: (doL (doM L q).1 t).2).length = _; rw [List.length_cons, doL_len t]; rfl
theorem doL_told : ∀ (qs : List Rq) (L : Ld), L.ok → (∀ q ∈ qs, q.ok) → ∀ r ∈ (doL L qs).2, r.told
  | [], _, _, _, r, h => by cases h
  | q :: t, L, hL, hq, r, h => by
    rcases List.mem_cons.1 h with h | h
    · exact h ▸ doM_told L q hL (hq q List.mem_cons_self)
    · exact doL_told t _ (doM_ok L q hL (hq q List.mem_cons_self)).1 (fun q' h' => hq q' (List.mem_cons_of_mem _ h')) r h
theorem Sl.keptN {w w' : World} {v : Value} {bs : List Int} (h : Sl w v bs) (hs : w.heap.size ≤ w'.heap.size) (hk : bs ≠ [] → ∀ g o n c, v = .slice (some ⟨g, o, none⟩) n c → g < w.heap.size → w'.heap[g]? = w.heap[g]?) : Sl w' v bs := by
  rcases h with h | h
  · exact Or.inl h
  · exact Sl.kept (Or.inr h) hs (hk (fun e => by have := h.1; rw [e] at this; simp at this))
theorem Sl.lt {w : World} {v : Value} {bs : List Int} (h : Sl w v bs) (hne : bs ≠ []) {g o n c : Nat} (hv : v = .slice (some ⟨g, o, none⟩) n c) : g < w.heap.size := by
  rcases h with ⟨h, _⟩ | ⟨_, g', o', c', e, _, hg, _⟩
  · exact absurd h hne
  · rw [hv] at e
    injection e with e _ _
    injection e with e
    injection e with e _
    rw [e]; exact hg
theorem fd_sl {wr wc : World} {g o m c : Nat} {hd bsr : List Int} (hm : m = bsr.length) (hc : m + 18 ≤ c) (hg : g < wc.heap.size) (hk : wc.heap[g]? = wr.heap[g]?) (hcell : ∀ x, x < m + 18 → wr.cell? ⟨g, o + x, none⟩ = some (.int .u8 ((hd ++ bsr).getD x 0))) (hhd : hd.length = 18) : Sl wc (.slice (if c = 18 then some ⟨g, o, none⟩ else some ⟨g, o + 18, none⟩) m (c - 18)) bsr := by
  by_cases h0 : m = 0
  · left
    refine ⟨List.length_eq_zero_iff.1 (by omega), Or.inr ?_⟩
    rw [h0]
    split
    · exact ⟨_, _, _, rfl⟩
    · exact ⟨_, _, _, rfl⟩
  · right
    rw [if_neg (by omega)]
    refine ⟨by omega, g, o + 18, c - 18, by rw [hm], by omega, hg, fun j hj => ?_⟩
    rw [World.cell?_of_block (w := wr) hk, Nat.add_assoc, hcell (18 + j) (by omega), show (hd ++ bsr).getD (18 + j) 0 = bsr.getD j 0 from by simp only [List.getD_eq_getElem?_getD]; rw [List.getElem?_append_right (by omega), hhd, Nat.add_sub_cancel_left]]
/-- What the law knows when it has fed its stream. -/
def FedPost (wb bb base kb kc ti : Nat) (_rv lv c0 c3 f0 f1 f2 f3 f4 f5 f6 f7 f8 f9 f10 f11 f12 was win : Value) (L2 : Ld) (b1 : Bool) (lf : List Int) (w w' : World) : Prop :=
  ∃ lv' B' least' rv', BookAt w' bb base lv' B' ∧ Sim L2 B' ∧ w'.heap[wb]? = some (.cells #[c0, .pointer (some ⟨bb, 0, none⟩), .slice (some ⟨kb, 0, none⟩) 3 kc, c3, .bool false, .bool false, f0, f1, f2, f3, f4, f5, f6, f7, f8, f9, f10, f11, f12, was, win, least', .int .u64 L2.adm] 60) ∧ w'.heap[ti]? = some (.cells #[rv', .bool b1] 94) ∧ Sl w' rv' lf ∧ (lf ≠ [] → ∀ g o n c, rv' = .slice (some ⟨g, o, none⟩) n c → w.heap.size ≤ g ∧ lv'.ownBlock ≠ some g) ∧ (∀ g, lv'.ownBlock = some g → lv.ownBlock = some g ∨ w.heap.size ≤ g) ∧ Keep (fun b => b = bb ∨ b = wb ∨ lv.ownBlock = some b ∨ b = ti) w w'

set_option maxRecDepth 100000 in
set_option maxHeartbeats 8000000 in
theorem fed33 (wb bb base kb kc ti i : Nat) (rv lv c0 c3 f0 f1 f2 f3 f4 f5 f6 f7 f8 f9 f10 f11 f12 was win least : Value) (L : Ld) (B : Bk) (k now : Int) (hsim : Sim L B) (hn0 : 0 ≤ now) (hn1 : now ≤ 18446744073709551615) (s rp : ByteArray) (w : World) (hw : w.heap[wb]? = some (.cells #[c0, .pointer (some ⟨bb, 0, none⟩), .slice (some ⟨kb, 0, none⟩) 3 kc, c3, .bool false, .bool false, f0, f1, f2, f3, f4, f5, f6, f7, f8, f9, f10, f11, f12, was, win, least, .int .u64 L.adm] 60)) (h : BookAt w bb base lv B)
    (hi : pickM k 3 = (i : Int)) (hi3 : i < 3) (k0 : -9223372036854775808 ≤ k) (k1 : k ≤ 9223372036854775807) (hcell : w.cell? ⟨kb, i, none⟩ = some (.pointer (some ⟨ti, 0, none⟩))) (hkb : kb < w.heap.size) (hkw : kb ≠ wb) (hkt : kb ≠ bb) (b0 b1 bd : Bool)
    (hst : w.heap[ti]? = some (.cells #[rv, .bool b0] 94)) (waits : List Int) (l : List Rq) (lf : List Int) (hsl : Sl w rv waits)
    (h51 : ∀ U : World, U.heap[ti]? = some (.cells #[rv, .bool b0] 94) → Sl U rv waits → Calls Tryz.prog 51 #[.pointer (some ⟨ti, 0, none⟩), .string s] U fun e w' => ∃ ov rv', e = .returned (.tuple #[ov, .bool bd]) ∧ w'.ownsRow U.heap.size 58 13 ov l.length (rqws l) ∧ Keep (fun b => b = ti) U w' ∧ w'.heap[ti]? = some (.cells #[rv', .bool b1] 94) ∧ Sl w' rv' lf ∧ (lf ≠ [] → ∀ g o n c, rv' = .slice (some ⟨g, o, none⟩) n c → U.heap.size ≤ g))
    (hgood : ∀ q ∈ l, q.ok ∧ q.op ∈ [1, 2, 3, 4, 5, 6]) (hll : l.length ≤ 50000) (tail : List Int) (htail : tail = if bd then encRep 6 0 0 else []) (hrp : numsOf rp = encs (doL (passM L now) l).2 ++ tail) (hrv : waits ≠ [] → ∀ g o n c, rv = .slice (some ⟨g, o, none⟩) n c → g ≠ bb ∧ g ≠ wb) (hbase : base ≤ w.heap.size) :
    Calls Tryz.prog 33 #[.pointer (some ⟨wb, 0, none⟩), .int .i64 k, .int .u64 now, .string s, .string rp, .bool false] w fun e w' => e = .returned (.bool true) ∧ FedPost wb bb base kb kc ti rv lv c0 c3 f0 f1 f2 f3 f4 f5 f6 f7 f8 f9 f10 f11 f12 was win (doL (passM L now) l).1 b1 lf w w' := by
  have a1 := cellB hw
  have hlw := ltB hw
  have hlb := ltB h.hb
  have hwbb : wb ≠ bb := fun e => by have := hw.symm.trans (e ▸ h.hb); simp at this
  have htb : ti ≠ bb := fun e => by have := hst.symm.trans (e ▸ h.hb); simp at this
  have htw : ti ≠ wb := fun e => by have := hst.symm.trans (e ▸ hw); simp at this
  have hlt := ltB hst
  have HGOOD := hide hgood
  have HW := hide hw
  have HS := hide hsl
  have HRV := hide hrv
  have H51 := hide h51
  have HTL := hide htail
  clear hw hsl hrv hgood h51 htail
  go_enter Tryz.func33, Tryz.ntmps33
  go_wp2_with fail
  refine (tell50 bb base lv B now _ h).mono ?_
  rintro e w1 ⟨rfl, hb1, hk1⟩
  have hw1 := (hk1.block wb hlw hwbb).trans HW.out
  have a2 := cellB hw1
  have a3 := frozenB hw1
  have hst1 := (hk1.block ti hlt htb).trans hst
  have hc1 : w1.cell? ⟨kb, i, none⟩ = some (.pointer (some ⟨ti, 0, none⟩)) := by rw [World.cell?_of_block (w := w) (hk1.block kb hkb hkt)]; exact hcell
  go_upto_region 3 with fail
  obtain ⟨U, hU⟩ : ∃ U, U = w1.setCell ⟨wb, 4, none⟩ (.bool false) := ⟨_, rfl⟩
  rw [← hU]
  have hkU : Keep (fun b => b = bb ∨ b = wb) w U := hU ▸ Keep.set (S := fun b => b = bb ∨ b = wb) (b := wb) (hk1.mono (fun _ h _ => Or.inl h)) (Or.inl (Or.inr rfl)) _ _
  have hwU : U.heap[wb]? = some (.cells #[c0, .pointer (some ⟨bb, 0, none⟩), .slice (some ⟨kb, 0, none⟩) 3 kc, c3, .bool false, .bool false, f0, f1, f2, f3, f4, f5, f6, f7, f8, f9, f10, f11, f12, was, win, least, .int .u64 L.adm] 60) := by rw [hU]; simpa using heapSet hw1 4 (.bool false)
  have hstU : U.heap[ti]? = some (.cells #[rv, .bool b0] 94) := (hkU.block ti hlt (fun e => e.elim htb htw)).trans hst
  have hcU : U.cell? ⟨kb, i, none⟩ = some (.pointer (some ⟨ti, 0, none⟩)) := by rw [World.cell?_of_block (w := w) (hkU.block kb hkb (fun e => e.elim hkt hkw))]; exact hcell
  have hslU : Sl U rv waits := Sl.keptN HS.out hkU.size (fun hne g o n c e hg => hkU.block g hg (fun e' => e'.elim (HRV.out hne g o n c e).1 (HRV.out hne g o n c e).2))
  have hbU : BookAt U bb base lv (tellM B now) := by
    rw [hU]
    exact ⟨(heapSetO hwbb.symm _ _).trans hb1.hb, own_keptE hb1.ho (fun g hg => heapSetO (own_neE hb1.ho hg hw1 (by decide)) _ _)⟩
  have hsz := hkU.size
  have b1' := cellB hwU
  have HBU := hide hbU
  have HKU := hide hkU
  have HWU := hide hwU
  have HST : Hid (U.drew.heap[ti]? = some (.cells #[rv, .bool b0] 94)) := hide hstU
  have HSL : Hid (Sl U.drew rv waits) := hide (hslU.kept (Nat.le_refl _) (fun _ _ _ _ _ _ => rfl))
  have hi0 : (0 : Int) ≤ (i : Int) := by omega
  have hi3' : (i : Int) < 3 := by omega
  clear hU hkU hwU hstU hslU hbU hw1 hst1 hc1 hb1 hk1 hst hcell h a1 a2 a3
  go_cut [13, 14] (fun s13 s14 wx => ∃ rv', s14 = .bool bd ∧ wx.ownsRow U.heap.size 58 13 s13 l.length (rqws l) ∧ Keep (fun b => b = ti) U wx ∧
      wx.heap[ti]? = some (.cells #[rv', .bool b1] 94) ∧ Sl wx rv' lf ∧ (lf ≠ [] → ∀ g o n c, rv' = .slice (some ⟨g, o, none⟩) n c → U.heap.size ≤ g))
  case first =>
    go_region_law (first
      | (refine step_fn (by rfl) 20 callFunc20 _ _ (by rfl) #[.int .i64 k, .int .i64 3] (by simp only [List.map_toArray, List.map_cons, List.map_nil]; rfl) (pick20' k i _ k0 k1 hi) ?_; rintro e w1 ⟨rfl, rfl⟩; refine ⟨_, rfl, ?_⟩)
      | (refine step_fn (by rfl) 51 callFunc51 _ _ (by rfl) #[.pointer (some ⟨ti, 0, none⟩), .string s] (by simp only [List.map_toArray, List.map_cons, List.map_nil]; rfl) (H51.out U.drew HST.out HSL.out) ?_; rintro e w3 ⟨ov, rv', rfl, p1, p2, p3, p4, p5⟩; refine ⟨_, rfl, ?_⟩))
    all_goals (go_wp2_with fail; go_meet)
    all_goals exact ⟨rv', rfl, p1, ⟨p2.os, p2.tape, p2.output, p2.size, p2.block⟩, p3, p4, p5⟩
  case rest =>
    obtain ⟨rv', rfl, p1, p2, p3, p4, p5⟩ := hcut
    obtain ⟨ova, ovc, rfl⟩ := own_sliceE p1
    obtain ⟨V, hV⟩ : ∃ V, V = wc := ⟨_, rfl⟩
    rw [← hV] at p1 p2 p3 p4 ⊢
    clear hV b1'
    have hrun := fun (w : World) (s : ByteArray) => run_bytes_of_string (P := Tryz.prog) w 9 69 5 s Tryz.underlying9 Tryz.underlying69 Tryz.underlying5
    have P1 := hide p1
    have P2 := hide p2
    have P3 := hide p3
    have P4 := hide p4
    have P5 := hide p5
    have hVs := p2.size
    clear p1 p2 p3 p4 p5
    have hcap := grownCap_ge V rp.size 0 5
    go_wp2_with fail
    obtain ⟨D, hD⟩ : ∃ D, D = grownCap V rp.size 0 5 := ⟨_, rfl⟩
    rw [← hD] at hcap ⊢
    obtain ⟨X, hX⟩ : ∃ X, X = (V.alloc (.cells (bytesRow rp D) 5 ((bytesRow rp D).size, (bytesRow rp D).size + 1))).drew := ⟨_, rfl⟩
    rw [← hX]
    have hXs : X.heap.size = V.heap.size + 1 := by rw [hX]; simp
    have hXk : ∀ z, z < V.heap.size → X.heap[z]? = V.heap[z]? := fun z hz => by rw [hX]; exact heapOld _ _ hz
    have hXb : Sl X (.slice (some ⟨V.heap.size, 0, none⟩) rp.size D) (numsOf rp) := hX ▸ Sl.of_bytes V rp D (by simpa using hcap)
    have hXe : X.os = V.os ∧ X.tape = V.tape ∧ X.output = V.output := by rw [hX]; exact ⟨rfl, rfl, rfl⟩
    have hownU : ∀ g, lv.ownBlock = some g → g < U.heap.size := fun g hg => (own_ltE HBU.out.ho hg).2
    have hownt : ∀ g, lv.ownBlock = some g → g ≠ ti := fun g hg => own_neE HBU.out.ho hg HST.out (by decide)
    have hXwb : X.heap[wb]? = some (.cells #[c0, .pointer (some ⟨bb, 0, none⟩), .slice (some ⟨kb, 0, none⟩) 3 kc, c3, .bool false, .bool false, f0, f1, f2, f3, f4, f5, f6, f7, f8, f9, f10, f11, f12, was, win, least, .int .u64 L.adm] 60) := (hXk wb (by omega)).trans ((P2.out.block wb (by omega) (fun e => htw e.symm)).trans HWU.out)
    have hXbk : BookAt X bb base lv (tellM B now) := ⟨(hXk bb (by omega)).trans ((P2.out.block bb (by omega) (fun e => htb e.symm)).trans HBU.out.hb), own_keptE HBU.out.ho (fun g hg => (hXk g (by have := hownU g hg; omega)).trans (P2.out.block g (hownU g hg) (fun e => hownt g hg e)))⟩
    have HXK := hide hXk
    have HXB := hide hXb
    have HXW := hide hXwb
    have HXO := hide hXbk
    have HXE := hide hXe
    have HOU := hide hownU
    have HOT := hide hownt
    have HRP := hide hrp
    clear hX hXk hXb hXwb hXbk hXe hownU hownt hrp hcap hD hrun
    go_loopw [15, 16] (fun s15 s16 wr => ∃ (j : Nat) (L' : Ld), j ≤ l.length ∧ s16 = .int .i64 j ∧ FdI X wb bb base kb kc V.heap.size c0 c3 f0 f1 f2 f3 f4 f5 f6 f7 f8 f9 f10 f11 f12 was win lv l tail j L' s15 wr ∧ doL L' (l.drop j) = ((doL (passM L now) l).1, (doL (passM L now) l).2.drop j)) (fun _ s16 _ => l.length - (intOf s16).toNat)
    case atStart =>
      refine ⟨0, passM L now, Nat.zero_le _, rfl, ⟨⟨lv, tellM B now, HXO.out, hsim.pass now hn0 hn1, fun g hg => Or.inl hg⟩, ⟨least, HXW.out⟩, by rw [List.drop_zero, ← HRP.out]; exact HXB.out, fun g o n c e => by injection e with e _ _; injection e with e; injection e with e _; exact e.symm, Keep.refl _ _⟩, rfl⟩
    case round =>
      obtain ⟨j, L', hj, rfl, I, hdo⟩ := hrel
      obtain ⟨lv', B', hbk, hsm, hlv⟩ := I.book
      obtain ⟨least', hblk⟩ := I.blk
      have hkX := I.keep.size
      by_cases hlt : j < l.length
      · obtain ⟨q, hq⟩ : ∃ q, q = l[j] := ⟨_, rfl⟩
        have hgood := HGOOD.out q (hq ▸ List.getElem_mem hlt)
        have hdr : l.drop j = q :: l.drop (j + 1) := by rw [List.drop_eq_getElem_cons hlt, ← hq]
        obtain ⟨r, hr⟩ : ∃ r, r = (doM L' q).2 := ⟨_, rfl⟩
        obtain ⟨L2, hL2⟩ : ∃ L2, L2 = (doM L' q).1 := ⟨_, rfl⟩
        have htold : r.told := hr ▸ doM_told L' q hsm.lok hgood.1
        obtain ⟨hs1, hs2⟩ := hsm.step q hgood.1 hgood.2
        have hask : askM B' q = ((askM B' q).1, r) := by rw [hr, hs1]
        obtain ⟨B2, hB2⟩ : ∃ B2, B2 = (askM B' q).1 := ⟨_, rfl⟩
        rw [← hB2] at hask hs2
        rw [← hL2] at hs2
        have h7 : r.c ≠ 7 := hr ▸ doM_7 L' q
        have hadm : L2.adm = if r.c = 2 then (L'.adm + q.n) % 18446744073709551616 else L'.adm := by rw [hL2, hr]; exact doM_adm L' q
        obtain ⟨bsr, hbsr⟩ : ∃ bsr, bsr = encs (doL L2 (l.drop (j + 1))).2 ++ tail := ⟨_, rfl⟩
        have hby : encs (doL L' (l.drop j)).2 ++ tail = encRep r.c r.a r.b ++ bsr := by
          rw [hdr, hbsr, hr, hL2, ← List.append_assoc]; rfl
        have hdo2 : doL L2 (l.drop (j + 1)) = ((doL (passM L now) l).1, (doL (passM L now) l).2.drop (j + 1)) := by
          rw [hdr] at hdo
          have e1 := congrArg Prod.fst hdo
          have e2 := congrArg (fun x => x.2.drop 1) hdo
          simp only [List.drop_drop] at e2
          rw [hL2]
          exact Prod.ext e1 e2
        have htl18 : tail.length ≤ 18 := by rw [HTL.out]; split <;> decide
        have htlb : Bytes tail := by
          rw [HTL.out]
          split
          · have h6 := encs_bytes [⟨6, 0, 0⟩] (fun r hr => by rw [List.mem_singleton.1 hr]; exact ⟨by decide, by decide, by decide, by decide⟩)
            have e6 : encs [⟨6, 0, 0⟩] = encRep 6 0 0 := by unfold encs; simp
            rw [e6] at h6
            exact h6
          · exact fun x hx => by cases hx
        have hsl := I.bytes
        rw [hby] at hsl
        obtain ⟨bk1, bk2, bk3⟩ := rp_back r htold.c1 htold.c9 htold.a htold.b bsr
        obtain ⟨m, hm⟩ : ∃ m, m = bsr.length := ⟨_, rfl⟩
        have hbl : (encRep r.c r.a r.b ++ bsr).length = m + 18 := by rw [List.length_append, hm, Nat.add_comm]; rfl
        have hml : m ≤ 1000000 := by rw [hm, hbsr, List.length_append, encs_length, doL_len, List.length_drop]; omega
        have hbyt : Bytes (encRep r.c r.a r.b ++ bsr) := by
          rw [← hby]
          exact (encs_bytes _ (doL_told _ _ hsm.lok (fun q' h' => (HGOOD.out q' (List.mem_of_mem_drop h')).1))).app htlb
        have hsl2 := hsl
        rcases hsl with ⟨hnil, _⟩ | ⟨hp, g, o, c, hv, hc, hg, hcell⟩
        · rw [hnil] at hbl; simp at hbl
        rw [hbl] at hv hc hcell
        have hgV : g = V.heap.size := I.vbg g o _ c hv
        subst hv
        have h52 := read18 _ (encRep r.c r.a r.b ++ bsr) wr hsl2 (by omega) hbyt.getD r bk3.symm 18 0 bk2.symm bk1.symm
        obtain ⟨ob, oc, hov, hob, hobl⟩ := P1.out.form (by omega)
        injection hov with ho1 _ ho2
        subst ho1 ho2
        have hobk : wr.heap[ob]? = V.heap[ob]? := (I.keep.block ob (by omega) (fun e => by rcases e with e | e | e; omega; omega; have := HOU.out ob e; omega)).trans (HXK.out ob hobl)
        have hlc : ∀ x, x < 13 → wr.cell? ⟨ob, j * 13 + x, none⟩ = (rqw q)[x]? := fun x hx => by
          rw [World.cell?_of_block (w := V) hobk, P1.out.cellAt (j * 13 + x) (by omega), rqws_get x hx l j hlt, hq]
        have hobw : ob < wr.heap.size := by omega
        have hwrb := ltB hblk
        have hgw : V.heap.size < wr.heap.size := by omega
        have hadl := hsm.lok.adm
        have H52 := hide h52
        have hI := hide I
        have HLC := hide hlc
        have HBLK := hide hblk
        have HBK := hide hbk
        have HDO2 := hide hdo2
        have HM := hide hm
        have HADM := hide hadm
        have HASK := hide hask
        have HCE := hide hcell
        have HS2 := hide hs2
        have HBSR := hide hbsr
        have HLV := hide hlv
        have HBO := hide hsm.bok
        have HH7 := hide h7
        have HGD := hide hgood
        have HADL := hide hadl
        have hjl : (j : Int) < (l.length : Int) := by omega
        have hj0 : (0 : Int) ≤ (j : Int) := by omega
        clear h52 I hlc hblk hbk hdo hdo2 hm hq hr hL2 hadm hask hcell hs2 hbsr hs1 hby hdr hB2 hsm hlv bk1 bk2 bk3 hsl2 hbyt hobk h7 hgood hadl hbl hp htlb htl18 htold
        go_wp2_with fail
        subst hgV
        refine H52.out.mono ?_
        rintro e w3 ⟨rfl, hb3⟩
        have HB3 := hide hb3
        have hs3 := hb3.size
        have HV := hide hVs
        have HX := hide hXs
        have HSZ := hide hsz
        clear hb3 hVs hXs hsz hkX hcU hsim
        go_upto_region 11 with fail
        obtain ⟨Z, hZ⟩ : ∃ Z, Z = w3.alloc (.cells #[.int .u8 r.c, .int .u64 r.a, .int .u64 r.b] 40) := ⟨_, rfl⟩
        rw [← hZ]
        have hZs : Z.heap.size = w3.heap.size + 1 := by rw [hZ]; simp
        have hZk : ∀ b, b < wr.heap.size → Z.heap[b]? = wr.heap[b]? := fun b h => by rw [hZ]; exact (heapOld _ _ (by omega)).trans (HB3.out.block b h)
        have hZn : Z.heap[w3.heap.size]? = some (.cells #[.int .u8 r.c, .int .u64 r.a, .int .u64 r.b] 40) := by rw [hZ]; exact heapNew _ _
        have hzc : ∀ x, x < 13 → Z.cell? ⟨ob, j * 13 + x, none⟩ = (rqw q)[x]? := fun x hx => (World.cell?_of_block (w := wr) (hZk ob hobw)).trans (HLC.out x hx)
        have z0 := hzc 0 (by omega)
        have z1 := hzc 1 (by omega)
        have z2 := hzc 2 (by omega)
        have z3 := hzc 3 (by omega)
        have z4 := hzc 4 (by omega)
        have z5 := hzc 5 (by omega)
        have z6 := hzc 6 (by omega)
        have z7 := hzc 7 (by omega)
        have z8 := hzc 8 (by omega)
        have z9 := hzc 9 (by omega)
        have z10 := hzc 10 (by omega)
        have z11 := hzc 11 (by omega)
        have z12 := hzc 12 (by omega)
        rw [Nat.add_zero] at z0
        have y0 := cellB hZn 0
        have y1 := cellB hZn 1
        have y2 := cellB hZn 2
        have HZE : Hid (Z.os = w3.os ∧ Z.tape = w3.tape ∧ Z.output = w3.output) := hide (by rw [hZ]; exact ⟨rfl, rfl, rfl⟩)
        have hZw : Z.drew.heap[wb]? = some (.cells #[c0, .pointer (some ⟨bb, 0, none⟩), .slice (some ⟨kb, 0, none⟩) 3 kc, c3, .bool false, .bool false, f0, f1, f2, f3, f4, f5, f6, f7, f8, f9, f10, f11, f12, was, win, least', .int .u64 L'.adm] 60) := (hZk wb hwrb).trans HBLK.out
        have hZb : BookAt Z.drew bb base lv' B' := ⟨(hZk bb (ltB HBK.out.hb)).trans HBK.out.hb, own_keptE HBK.out.ho (fun g hg => hZk g (own_ltE HBK.out.ho hg).2)⟩
        have hZl : base ≤ Z.drew.heap.size := by show base ≤ Z.heap.size; have := HV.out; have := HX.out; have := HSZ.out; have := hI.out.keep.size; omega
        have H53 := hide (answered53 wb bb base lv' c0 (.slice (some ⟨kb, 0, none⟩) 3 kc) c3 (.bool false) f0 f1 f2 f3 f4 f5 f6 f7 f8 f9 f10 f11 f12 was win least' L'.adm B' B2 q r Z.drew hZw hZb HBO.out HGD.out.1 HGD.out.2 hZl HASK.out HH7.out HADL.out.1 HADL.out.2 L2.adm HADM.out)
        have HZK := hide hZk
        have HZS := hide hZs
        clear hZ hzc hZw hZb hZl hZk hZs hZn
        go_cut [20] (fun s20 wx => s20 = .bool true ∧ ∃ lv2 least2, BookAt wx bb base lv2 B2 ∧ wx.heap[wb]? = some (.cells #[c0, .pointer (some ⟨bb, 0, none⟩), .slice (some ⟨kb, 0, none⟩) 3 kc, c3, .bool false, .bool false, f0, f1, f2, f3, f4, f5, f6, f7, f8, f9, f10, f11, f12, was, win, least2, .int .u64 L2.adm] 60) ∧ Keep (fun b => b = bb ∨ b = wb ∨ lv'.ownBlock = some b) Z.drew wx ∧ (∀ g, lv2.ownBlock = some g → lv'.ownBlock = some g ∨ Z.drew.heap.size ≤ g))
        case first =>
          go_region_law (refine step_fn (by rfl) 53 callFunc53 _ _ (by rfl) #[.pointer (some ⟨wb, 0, none⟩), .agg #[.int .u8 q.op, .int .u8 q.k0, .int .u8 q.k1, .int .u8 q.k2, .int .u8 q.k3, .int .u8 q.k4, .int .u8 q.k5, .int .u8 q.k6, .int .u8 q.k7, .int .u8 q.kd, .int .u64 q.x, .int .u64 q.y, .int .u64 q.n], .agg #[.int .u8 r.c, .int .u64 r.a, .int .u64 r.b]] (by simp only [List.map_toArray, List.map_cons, List.map_nil]; rfl) H53.out ?_; rintro e w5 ⟨rfl, lv2, least2, p1, p2, p3, p4⟩; refine ⟨_, rfl, ?_⟩)
          all_goals (go_wp2_with fail; go_meet)
          all_goals exact ⟨rfl, lv2, least2, p1, p2, p3, p4⟩
        case rest =>
          obtain ⟨rfl, lv2, least2, p1, p2, p3, p4⟩ := hcut
          have HP1 := hide p1
          have HP2 := hide p2
          have HP3 := hide p3
          have HP4 := hide p4
          clear p1 p2 p3 p4 z0 z1 z2 z3 z4 z5 z6 z7 z8 z9 z10 z11 z12 y0 y1 y2
          have hmI : (18 : Int) ≤ (m : Int) + 18 := by omega
          go_wp2
          go_roundw
          case rel =>
            have hZs2 : wr.heap.size ≤ Z.drew.heap.size := by show wr.heap.size ≤ Z.heap.size; have := HZS.out; omega
            have hKs := HP3.out.size
            have hks := hI.out.keep.size
            have hX1 := HX.out
            have hV1 := HV.out
            have hS1 := HSZ.out
            have hkT : Keep (fun b => b = bb ∨ b = wb ∨ lv'.ownBlock = some b) wr wc := ⟨HP3.out.os.trans (HZE.out.1.trans HB3.out.os), HP3.out.tape.trans (HZE.out.2.1.trans HB3.out.tape), HP3.out.output.trans (HZE.out.2.2.trans HB3.out.output), by omega, fun b hb hT => (HP3.out.block b (by omega) hT).trans (HZK.out b hb)⟩
            have hVn : wc.heap[V.heap.size]? = wr.heap[V.heap.size]? := hkT.block _ hgw (fun e => by
              rcases e with e | e | e
              · omega
              · omega
              · rcases HLV.out _ e with h | h
                · have := HOU.out _ h; omega
                · omega)
            refine ⟨j + 1, L2, by omega, by go_num, ⟨⟨lv2, B2, HP1.out, HS2.out, fun g hg => ?_⟩, ⟨least2, HP2.out⟩, ?_, ?_, ?_⟩, HDO2.out⟩
            · rcases HP4.out g hg with h | h
              · exact HLV.out g h
              · exact Or.inr (by omega)
            · rw [← HBSR.out]
              exact fd_sl HM.out hc (by omega) hVn HCE.out rfl
            · intro g' o' n' c' hh
              split at hh <;> (injection hh with h1 _ _; injection h1 with h1; injection h1 with h1 _; exact h1.symm)
            · refine hI.out.keep.then hkT (fun b hb hT => ?_)
              rcases hT with h | h | h
              · exact Or.inl h
              · exact Or.inr (Or.inl h)
              · rcases HLV.out _ h with h | h
                · exact Or.inr (Or.inr h)
                · omega
          case measure => simp [intOf]; omega
      · have hje : j = l.length := by omega
        have hL' : L' = (doL (passM L now) l).1 := by
          rw [hje, List.drop_length] at hdo
          exact congrArg Prod.fst hdo
        have hslt : Sl wr u15 tail := by
          have := I.bytes
          rw [hje, List.drop_length] at this
          simpa [doL, encs] using this
        have hVk : ∀ b, b < V.heap.size → b ≠ bb → b ≠ wb → lv.ownBlock ≠ some b → wr.heap[b]? = V.heap[b]? := fun b hb h1 h2 h3 => (I.keep.block b (by omega) (fun e => by rcases e with e | e | e; exact h1 e; exact h2 e; exact h3 e)).trans (HXK.out b hb)
        have hfin : ∀ wf, Below wr.heap.size wr wf → FedPost wb bb base kb kc ti rv lv c0 c3 f0 f1 f2 f3 f4 f5 f6 f7 f8 f9 f10 f11 f12 was win (doL (passM L now) l).1 b1 lf w wf := by
          intro wf hbf
          have hwf := hbf.size
          have hlvt : lv.ownBlock ≠ some ti := fun e => HOT.out ti e rfl
          refine ⟨lv', B', least', rv', ⟨(hbf.block bb (ltB hbk.hb)).trans hbk.hb, own_keptE hbk.ho (fun g hg => hbf.block g (own_ltE hbk.ho hg).2)⟩, hL' ▸ hsm, (hbf.block wb (ltB hblk)).trans (hL' ▸ hblk), ?_, ?_, ?_, ?_, ?_⟩
          · exact (hbf.block ti (by omega)).trans ((hVk ti (by omega) htb htw hlvt).trans P3.out)
          · refine Sl.keptN P4.out (by omega) (fun hne g o n c e hg => (hbf.block g (by omega)).trans ?_)
            have h := P5.out hne g o n c e
            exact hVk g hg (by omega) (by omega) (fun e => by have := HOU.out g e; omega)
          · intro hne g o n c e
            have h := P5.out hne g o n c e
            have hl := P4.out.lt hne e
            refine ⟨by omega, fun e' => ?_⟩
            rcases hlv g e' with h' | h'
            · have := HOU.out g h'; omega
            · omega
          · intro g hg
            rcases hlv g hg with h | h
            · exact Or.inl h
            · exact Or.inr (by omega)
          · have k1 : Keep (fun b => b = bb ∨ b = wb ∨ lv.ownBlock = some b ∨ b = ti) w U := HKU.out.mono (fun b h _ => h.elim Or.inl (fun h => Or.inr (Or.inl h)))
            have k2 : Keep (fun b => b = bb ∨ b = wb ∨ lv.ownBlock = some b ∨ b = ti) U V := P2.out.mono (fun b h _ => Or.inr (Or.inr (Or.inr h)))
            have k3 : Keep (fun b => b = bb ∨ b = wb ∨ lv.ownBlock = some b ∨ b = ti) V X := ⟨HXE.out.1, HXE.out.2.1, HXE.out.2.2, by omega, fun b hb _ => HXK.out b hb⟩
            have k4 : Keep (fun b => b = bb ∨ b = wb ∨ lv.ownBlock = some b ∨ b = ti) X wr := I.keep.mono (fun b h _ => by rcases h with h | h | h; exact Or.inl h; exact Or.inr (Or.inl h); exact Or.inr (Or.inr (Or.inl h)))
            exact (((k1.trans k2).trans k3).trans k4).trans (Keep.of_below hbf)
        have HFIN := hide hfin
        have hjI : ¬ (j : Int) < (l.length : Int) := by omega
        have HTL2 := HTL.out
        have HSLT := hide hslt
        clear hfin hVk hslt hL' hdo I hbk hsm hlv hblk hVs hXs hsz hkX hcU hsim
        cases bd with
        | false =>
          rw [if_neg (by decide)] at HTL2
          have hsl3 := HSLT.out
          rw [HTL2] at hsl3
          obtain ⟨a, c, hva⟩ := hsl3.shape
          subst hva
          clear hsl3 HTL2
          go_wp2
          go_ret
          exact ⟨rfl, HFIN.out _ (Below.refl _ _)⟩
        | true =>
          rw [if_pos rfl] at HTL2
          have hsl3 := HSLT.out
          rw [HTL2] at hsl3
          obtain ⟨bk1, bk2, bk3⟩ := rp_back ⟨6, 0, 0⟩ (by decide) (by decide) ⟨by decide, by decide⟩ ⟨by decide, by decide⟩ []
          rw [List.append_nil] at bk1 bk2 bk3
          have h52 := read18 u15 (encRep 6 0 0) wr hsl3 (by decide) (fun x => Bytes.getD (fun b hb => by revert b; decide) x) ⟨6, 0, 0⟩ bk3.symm 18 0 bk2.symm bk1.symm
          rcases hsl3 with ⟨hnil, _⟩ | ⟨hp, g, o, c, hv, hc, hg, hcell⟩
          · simp [encRep] at hnil
          have h18 : (encRep 6 0 0).length = 18 := rfl
          rw [h18] at hv hc
          subst hv
          have H52 := hide h52
          clear h52 hcell hp HTL2 bk1 bk2 bk3 hg
          go_wp2_with fail
          refine H52.out.mono ?_
          rintro e w3 ⟨rfl, hb3⟩
          have HB3 := hide hb3
          have hs3 := hb3.size
          clear hb3
          go_wp2
          all_goals go_ret
          all_goals exact ⟨rfl, HFIN.out _ (HB3.out.alloc (by omega) _)⟩
end Go.Proofs.YtlamgpeiolfffaaGreatDoor
