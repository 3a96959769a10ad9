import Derived.Test.YtjkepphpahfdgaaDoorRoundM
namespace Go.Proofs.YtjkepphpahfdgaaDoor
open Go.RowKit

theorem request_none (q : Rq) (hq : q.ok) (hop : reqLen q.op = 0) (w : World) : Calls Tryd.prog 5 #[.agg #[.int .u8 q.op, .int .u8 q.k0, .int .u8 q.k1, .int .u8 q.k2, .int .u8 q.k3, .int .u8 q.k4, .int .u8 q.k5, .int .u8 q.k6, .int .u8 q.k7, .int .u8 q.kd, .int .u64 q.x, .int .u64 q.y, .int .u64 q.n]] w fun e w' => Below w.heap.size w w' ∧ e = .returned (.slice none 0 0) := by
  refine (request_q q hq w).mono ?_
  rintro e w' ⟨hb, ⟨_, h⟩ | ⟨h, _⟩⟩
  · exact ⟨hb, h⟩
  · exact absurd hop h
theorem request_some (q : Rq) (hq : q.ok) (hop : reqLen q.op ≠ 0) (L : Nat) (hL : L = q.enc.length) (w : World) : Calls Tryd.prog 5 #[.agg #[.int .u8 q.op, .int .u8 q.k0, .int .u8 q.k1, .int .u8 q.k2, .int .u8 q.k3, .int .u8 q.k4, .int .u8 q.k5, .int .u8 q.k6, .int .u8 q.k7, .int .u8 q.kd, .int .u64 q.x, .int .u64 q.y, .int .u64 q.n]] w fun e w' => Below w.heap.size w w' ∧ ∃ g, w.heap.size ≤ g ∧ g < w'.heap.size ∧ e = .returned (.slice (some ⟨g, 0, none⟩) L L) ∧ w'.ownsRow w.heap.size 5 1 (.slice (some ⟨g, 0, none⟩) L L) L (q.enc.map (Value.int .u8)) := by
  refine (request_q q hq w).mono ?_
  rintro e w' ⟨hb, ⟨h, _⟩ | ⟨_, g, L', hg, hL', rfl, ho⟩⟩
  · exact absurd h hop
  · obtain rfl : L' = L := hL'.trans hL.symm
    exact ⟨hb, g, hg, (ho.lt g rfl).2, rfl, ho⟩

set_option maxRecDepth 100000 in
set_option maxHeartbeats 1000000 in
/-- No such Op: nil. -/
theorem round_none (q : Rq) (hq : q.ok) (s : ByteArray) (k : Int) (w : World) (hop : reqLen q.op = 0) :
    Calls Tryd.prog 4 #[.agg #[.int .u8 q.op, .int .u8 q.k0, .int .u8 q.k1, .int .u8 q.k2, .int .u8 q.k3, .int .u8 q.k4, .int .u8 q.k5, .int .u8 q.k6, .int .u8 q.k7, .int .u8 q.kd, .int .u64 q.x, .int .u64 q.y, .int .u64 q.n], .string s, .int .i64 k] w fun e w' => e = .returned (.bool true) ∧ Below w.heap.size w w' := by
  have hop' : q.op < 1 ∨ 6 < q.op := by
    rcases Int.lt_or_le q.op 1 with h | h
    · exact .inl h
    · rcases Int.lt_or_le 6 q.op with h' | h'
      · exact .inr h'
      · exfalso
        have : q.op = 1 ∨ q.op = 2 ∨ q.op = 3 ∨ q.op = 4 ∨ q.op = 5 ∨ q.op = 6 := by omega
        rcases this with h | h | h | h | h | h <;> simp [reqLen, h] at hop
  go_enter Tryd.func4, Tryd.ntmps4
  go_wp2_with fail
  refine (request258 _).mono ?_
  rintro e w1 ⟨hb1, g, hg, hgl, rfl, c0, c16, c17⟩
  have hB1 : Below w.heap.size w w1 := ((Below.refl _ w).alloc (Nat.le_refl _) _).trans (hb1.mono (by simp))
  have hq1 : ∀ j, w1.cell? ⟨w.heap.size, j, none⟩ = (#[.int .u8 q.op, .int .u8 q.k0, .int .u8 q.k1, .int .u8 q.k2, .int .u8 q.k3, .int .u8 q.k4, .int .u8 q.k5, .int .u8 q.k6, .int .u8 q.k7, .int .u8 q.kd, .int .u64 q.x, .int .u64 q.y, .int .u64 q.n] : Array Value)[j]? := fun j => (hb1.cell (p := ⟨w.heap.size, j, none⟩) (by simp)).trans (cell_box w _ _ j)
  have hs1 : w.heap.size < w1.heap.size := by have := hb1.size; simp at this; omega
  clear hb1
  go_wp2_with fail
  refine (request_none q hq hop _).mono ?_
  rintro e w2 ⟨hb2, rfl⟩
  have hq2 : ∀ j, w2.cell? ⟨w.heap.size, j, none⟩ = (#[.int .u8 q.op, .int .u8 q.k0, .int .u8 q.k1, .int .u8 q.k2, .int .u8 q.k3, .int .u8 q.k4, .int .u8 q.k5, .int .u8 q.k6, .int .u8 q.k7, .int .u8 q.kd, .int .u64 q.x, .int .u64 q.y, .int .u64 q.n] : Array Value)[j]? := fun j => (hb2.cell (p := ⟨w.heap.size, j, none⟩) hs1).trans (hq1 j)
  have hB2 : Below w.heap.size w w2 := hB1.trans (hb2.mono (by omega))
  clear hq1 c0 c16 c17 hb2 hB1 hop
  have hsn := fun (w : World) (a : Option Addr) (l c : Nat) => Lib.run_eql_slice_nil (P := Tryd.prog) w 31 5 a l c 0 0 Tryd.underlying31
  rcases hop' with h | h
  · have hd : decide (q.op < 1) = true := by simpa using h
    go_wp2
    go_ret
    exact ⟨rfl, hB2⟩
  · have hn : ¬ q.op < 1 := by omega
    have hd : decide (q.op < 1) = false := by simpa using hn
    have hd2 : decide (6 < q.op) = true := by simpa using h
    go_wp2
    go_ret
    exact ⟨rfl, hB2⟩

set_option maxRecDepth 100000 in
set_option maxHeartbeats 1000000 in
/-- More than 100 bytes behind: nothing is asked. -/
theorem round_long (q : Rq) (hq : q.ok) (s : ByteArray) (k : Int) (w : World) (hop : reqLen q.op ≠ 0) (hs : 100 < s.size) (hsz : s.size ≤ 9223372036854775807) :
    Calls Tryd.prog 4 #[.agg #[.int .u8 q.op, .int .u8 q.k0, .int .u8 q.k1, .int .u8 q.k2, .int .u8 q.k3, .int .u8 q.k4, .int .u8 q.k5, .int .u8 q.k6, .int .u8 q.k7, .int .u8 q.kd, .int .u64 q.x, .int .u64 q.y, .int .u64 q.n], .string s, .int .i64 k] w fun e w' => e = .returned (.bool true) ∧ Below w.heap.size w w' := by
  have hsI : (100 : Int) < (s.size : Int) := by omega
  go_enter Tryd.func4, Tryd.ntmps4
  go_wp2_with fail
  refine (request258 _).mono ?_
  rintro e w1 ⟨hb1, g, hg, hgl, rfl, c0, c16, c17⟩
  have hB1 : Below w.heap.size w w1 := ((Below.refl _ w).alloc (Nat.le_refl _) _).trans (hb1.mono (by simp))
  have hq1 : ∀ j, w1.cell? ⟨w.heap.size, j, none⟩ = (#[.int .u8 q.op, .int .u8 q.k0, .int .u8 q.k1, .int .u8 q.k2, .int .u8 q.k3, .int .u8 q.k4, .int .u8 q.k5, .int .u8 q.k6, .int .u8 q.k7, .int .u8 q.kd, .int .u64 q.x, .int .u64 q.y, .int .u64 q.n] : Array Value)[j]? := fun j => (hb1.cell (p := ⟨w.heap.size, j, none⟩) (by simp)).trans (cell_box w _ _ j)
  have hs1 : w.heap.size < w1.heap.size := by have := hb1.size; simp at this; omega
  clear hb1
  go_wp2_with fail
  refine (request_some q hq hop _ rfl _).mono ?_
  rintro e w2 ⟨hb2, g2, hg2, hgl2, rfl, ho2⟩
  have hB2 : Below w.heap.size w w2 := hB1.trans (hb2.mono (by omega))
  clear hq1 c0 c16 c17 hb2 hB1 hop
  have hsn := fun (w : World) (a : Option Addr) (l c : Nat) => Lib.run_eql_slice_nil (P := Tryd.prog) w 31 5 a l c 0 0 Tryd.underlying31
  go_wp2
  go_ret
  exact ⟨rfl, hB2⟩

set_option maxRecDepth 100000 in
set_option maxHeartbeats 1000000 in
theorem round_main (q : Rq) (hq : q.ok) (s : ByteArray) (k : Int) (w : World) (hop : reqLen q.op ≠ 0) (hs : s.size ≤ 100) (hk0 : -9223372036854775808 ≤ k) (hk1 : k ≤ 9223372036854775807)
    (hgl : w.cell? ⟨0, 0, none⟩ = some (.iface 89 (.agg #[.pointer (some ⟨1, 46, none⟩)]))) :
    Calls Tryd.prog 4 #[.agg #[.int .u8 q.op, .int .u8 q.k0, .int .u8 q.k1, .int .u8 q.k2, .int .u8 q.k3, .int .u8 q.k4, .int .u8 q.k5, .int .u8 q.k6, .int .u8 q.k7, .int .u8 q.kd, .int .u64 q.x, .int .u64 q.y, .int .u64 q.n], .string s, .int .i64 k] w fun e w' => e = .returned (.bool true) ∧ Below w.heap.size w w' := by
  have hsI : ¬ (100 : Int) < (s.size : Int) := by omega
  obtain ⟨L, hL⟩ : ∃ L, L = q.enc.length := ⟨_, rfl⟩
  have hLb : 2 ≤ L ∧ L ≤ 27 := by
    have hl := encReq_length q.op q.k0 q.k1 q.k2 q.k3 q.k4 q.k5 q.k6 q.k7 q.kd q.x q.y q.n
    rw [if_neg hop] at hl
    have hl' : ((q.enc.length : Nat) : Int) = reqLen q.op + 1 := hl
    rcases reqLen_cases q.op hop with h | h | (h | h) | (h | h) <;> simp [h, reqLen] at hl' <;> omega
  have HL := hide hL
  clear hL
  go_enter Tryd.func4, Tryd.ntmps4
  go_wp2_with fail
  refine (request258 _).mono ?_
  rintro e w1 ⟨hb1, g, hg, hgl', rfl, c0, c16, c17⟩
  have hB1 : Below w.heap.size w w1 := ((Below.refl _ w).alloc (Nat.le_refl _) _).trans (hb1.mono (by simp))
  have hq1 : ∀ j, w1.cell? ⟨w.heap.size, j, none⟩ = (#[.int .u8 q.op, .int .u8 q.k0, .int .u8 q.k1, .int .u8 q.k2, .int .u8 q.k3, .int .u8 q.k4, .int .u8 q.k5, .int .u8 q.k6, .int .u8 q.k7, .int .u8 q.kd, .int .u64 q.x, .int .u64 q.y, .int .u64 q.n] : Array Value)[j]? := fun j => (hb1.cell (p := ⟨w.heap.size, j, none⟩) (by simp)).trans (cell_box w _ _ j)
  have hs1 : w.heap.size < w1.heap.size := by have := hb1.size; simp at this; omega
  clear hb1
  go_wp2_with fail
  refine (request_some q hq hop L HL.out _).mono ?_
  rintro e w2 ⟨hb2, g2, hg2, hgl2, rfl, ho2⟩
  have hB2 : Below w.heap.size w w2 := hB1.trans (hb2.mono (by omega))
  have hq2 : ∀ j, w2.cell? ⟨w.heap.size, j, none⟩ = (#[.int .u8 q.op, .int .u8 q.k0, .int .u8 q.k1, .int .u8 q.k2, .int .u8 q.k3, .int .u8 q.k4, .int .u8 q.k5, .int .u8 q.k6, .int .u8 q.k7, .int .u8 q.kd, .int .u64 q.x, .int .u64 q.y, .int .u64 q.n] : Array Value)[j]? := fun j => (hb2.cell (p := ⟨w.heap.size, j, none⟩) hs1).trans (hq1 j)
  have HCV := hide (fun W (hW : ∀ i, i < L → W.cell? ⟨g2, 0 + i, none⟩ = some (.int .u8 (q.enc.getD i 0))) => run_convert_bytes_arg (P := Tryd.prog) W 31 5 Tryd.underlying31 Tryd.underlying5 g2 0 L L q.enc HL.out.symm hW 9 Tryd.underlying9)
  have HW2 : Hid (∀ i, i < L → w2.cell? ⟨g2, 0 + i, none⟩ = some (.int .u8 (q.enc.getD i 0))) := by
    intro i hi
    rw [Nat.zero_add, ho2.cellAt i (by omega)]
    simp [List.getD, List.getElem?_eq_getElem (show i < q.enc.length by rw [← HL.out]; exact hi)]
  obtain ⟨st, hst⟩ : ∃ st, st = strOfNums q.enc := ⟨_, rfl⟩
  have hcv : (convert 31 9 (.slice (some ⟨g2, 0, none⟩) L L)).run Tryd.prog w2 = .ok (.string st) w2 := by rw [hst]; exact HCV.out w2 HW2.out
  have hstz : st.size = L := by rw [hst, strOfNums_size]; exact HL.out.symm
  have hstb : st.size ≤ 27 := by omega
  have HST := hide hst
  have HSTZ := hide hstz
  clear hst hstz hq1 c0 c16 c17 hb2 hB1 ho2
  have hsn := fun (w : World) (a : Option Addr) (l c : Nat) => Lib.run_eql_slice_nil (P := Tryd.prog) w 31 5 a l c 0 0 Tryd.underlying31
  have hbs := fun (w : World) (s : ByteArray) => run_bytes_of_string (P := Tryd.prog) w 9 31 5 s Tryd.underlying9 Tryd.underlying31 Tryd.underlying5
  obtain ⟨bs, hbsd⟩ : ∃ bs, bs = q.enc ++ numsOf s := ⟨_, rfl⟩
  have hbsn : numsOf (st ++ s) = bs := by rw [numsOf_append, HST.out, numsOf_str _ (enc_range q hq), hbsd]
  have hbsr : ∀ x ∈ bs, 0 ≤ x ∧ x ≤ 255 := by rw [← hbsn]; exact numsOf_range _
  have hbsl : bs.length ≤ 1048576 := by rw [hbsd, List.length_append, numsOf_length, ← HL.out]; omega
  have hback : Back q (rdQ bs) q.enc (numsOf s) := by rw [hbsd]; exact back q hq _ hop
  obtain ⟨r, hr⟩ : ∃ r, r = rdQ bs := ⟨_, rfl⟩
  have hrok : r.ok := by rw [hr]; exact rdQ_ok bs (getD_range hbsr)
  rw [← hr] at hback
  have herr : (0 : Int) = rdErr bs := by rw [hbsd]; exact hback.err.symm
  have hrn : (L : Int) = rdN bs := by rw [hbsd, HL.out]; exact hback.n.symm
  have hrop : (r.op != q.op) = false := by simp [hback.op]
  have HE := hide herr
  have HN := hide hrn
  have HR := hide hr
  have HB := hide hback
  have HBN := hide hbsn
  clear herr hrn hr hback hbsn hbsd
  have hlt0 : 0 < w.heap.size := by
    rcases Nat.eq_zero_or_pos w.heap.size with h0 | h
    · simp [World.cell?, h0] at hgl
    · exact h
  have HG := hide hgl
  clear hgl
  go_wp2_with fail
  refine (read10 _ bs _ (by rw [← HBN.out]; exact src_bytes w2 (st ++ s) _ _ _ (by simp)) hbsl (getD_range hbsr) r HR.out L 0 HN.out HE.out ?hg1).mono ?_
  case hg1 => exact (World.cell?_alloc_lt _ _ ⟨0, 0, none⟩ (show 0 < w2.heap.size by omega)).trans ((hB2.cell (p := ⟨0, 0, none⟩) hlt0).trans HG.out)
  rintro e w3 ⟨rfl, hb3⟩
  have hs3 : w2.heap.size < w3.heap.size := by have := hb3.size; simp at this; omega
  have hB23 : Below w2.heap.size w2 w3 := (((Below.refl _ w2).alloc (Nat.le_refl _) _).drew).trans (hb3.mono (by simp))
  clear hb3 hcv
  have hB3 : Below w.heap.size w w3 := hB2.trans (hB23.mono (by omega))
  have hq3 : ∀ j, w3.cell? ⟨w.heap.size, j, none⟩ = (#[.int .u8 q.op, .int .u8 q.k0, .int .u8 q.k1, .int .u8 q.k2, .int .u8 q.k3, .int .u8 q.k4, .int .u8 q.k5, .int .u8 q.k6, .int .u8 q.k7, .int .u8 q.kd, .int .u64 q.x, .int .u64 q.y, .int .u64 q.n] : Array Value)[j]? := fun j => (hB23.cell (p := ⟨w.heap.size, j, none⟩) (by show w.heap.size < _; omega)).trans (hq2 j)
  clear hq2
  have hs03 : w.heap.size < w3.heap.size := by omega
  go_wp2_with fail
  refine (request_some r hrok (by rw [HB.out.op]; exact hop) L (by rw [HB.out.enc]; exact HL.out) _).mono ?_
  rintro e w4 ⟨hb4, g4, hg4, hgl4, rfl, ho4⟩
  have hs4 : w3.heap.size < w4.heap.size := by have := hb4.size; simp at this; omega
  have hB34 : Below w3.heap.size w3 w4 := ((Below.refl _ w3).alloc (Nat.le_refl _) _).trans (hb4.mono (by simp))
  have hg4' : w3.heap.size < g4 := by simp at hg4; omega
  have HO4 := hide ho4
  clear hb4 ho4 hg4
  have hLp : 0 < L := by omega
  go_wp2_with fail
  refine (pick_any k L _ hLp (by omega) hk0 hk1).mono ?_
  rintro e w4' ⟨p, hp, rfl, rfl⟩
  have hpL : p ≤ L := by omega
  go_wp2_with fail
  have hB24 : Below w2.heap.size w2 w4' := hB23.trans (hB34.mono (by omega))
  have HW4 : Hid (∀ i, i < L → w4'.cell? ⟨g2, 0 + i, none⟩ = some (.int .u8 (q.enc.getD i 0))) := fun i hi => (hB24.cell (p := ⟨g2, 0 + i, none⟩) hgl2).trans (HW2.out i hi)
  obtain ⟨b2, hb2d⟩ : ∃ b2, b2 = q.enc.take p := ⟨_, rfl⟩
  have hb2l : b2.length = p := by rw [hb2d, List.length_take, ← HL.out]; omega
  have hb2r : ∀ x ∈ b2, 0 ≤ x ∧ x ≤ 255 := fun x hx => enc_range q hq x (List.mem_of_mem_take (by rw [← hb2d]; exact hx))
  have hsh : (1 : Int) = rdErr b2 := by rw [hb2d]; exact (short_of q hop p (by rw [← HL.out]; exact hp)).symm
  have hsrc : Src w4' (.slice (some ⟨g2, 0, none⟩) p L) b2 := by
    by_cases hp0 : p = 0
    · exact .inl ⟨List.eq_nil_of_length_eq_zero (by omega), .inr ⟨g2, 0, L, by rw [hp0]⟩⟩
    · refine .inr ⟨by omega, g2, 0, L, by rw [hb2l], Nat.lt_of_lt_of_le hgl2 hB24.size, ?_⟩
      intro j u hj
      have hjp : j < p := by
        have := (List.getElem?_eq_some_iff.1 hj).1
        simpa [hb2l] using this
      rw [HW4.out j (by omega), ← hj, hb2d, List.map_take, List.getElem?_take, if_pos hjp]
      simp [List.getD, List.getElem?_eq_getElem (show j < q.enc.length by rw [← HL.out]; omega)]
  have hgl4'' : w4'.cell? ⟨0, 0, none⟩ = some (.iface 89 (.agg #[.pointer (some ⟨1, 46, none⟩)])) := ((hB3.trans (hB34.mono (by omega))).cell (p := ⟨0, 0, none⟩) hlt0).trans HG.out
  refine (read10 _ b2 w4' hsrc (by omega) (getD_range hb2r) (rdQ b2) rfl (rdN b2) 1 rfl hsh hgl4'').mono ?_
  rintro e w5 ⟨rfl, hb5⟩
  obtain ⟨r2, hr2⟩ : ∃ r2, r2 = rdQ b2 := ⟨_, rfl⟩
  obtain ⟨m2, hm2⟩ : ∃ m2, m2 = rdN b2 := ⟨_, rfl⟩
  rw [← hr2, ← hm2]
  clear hr2 hm2 hsrc hsh hb2r hb2l hb2d
  have hcvb : (convert 31 9 (.slice (some ⟨g2, 0, none⟩) L L)).run Tryd.prog (w5.alloc (.cells #[.int .u8 r2.op, .int .u8 r2.k0, .int .u8 r2.k1, .int .u8 r2.k2, .int .u8 r2.k3, .int .u8 r2.k4, .int .u8 r2.k5, .int .u8 r2.k6, .int .u8 r2.k7, .int .u8 r2.kd, .int .u64 r2.x, .int .u64 r2.y, .int .u64 r2.n] 28)) = .ok (.string st) (w5.alloc (.cells #[.int .u8 r2.op, .int .u8 r2.k0, .int .u8 r2.k1, .int .u8 r2.k2, .int .u8 r2.k3, .int .u8 r2.k4, .int .u8 r2.k5, .int .u8 r2.k6, .int .u8 r2.k7, .int .u8 r2.kd, .int .u64 r2.x, .int .u64 r2.y, .int .u64 r2.n] 28)) := by
    rw [HST.out]
    exact HCV.out _ (fun i hi => (World.cell?_alloc_past _ _ _ (by have := hb5.size; have := hB24.size; omega)).trans ((hb5.cell (p := ⟨g2, 0 + i, none⟩) (show g2 < _ by have := hB24.size; omega)).trans (HW4.out i hi)))
  have hcva : (convert 31 9 (.slice (some ⟨g4, 0, none⟩) L L)).run Tryd.prog (w5.alloc (.cells #[.int .u8 r2.op, .int .u8 r2.k0, .int .u8 r2.k1, .int .u8 r2.k2, .int .u8 r2.k3, .int .u8 r2.k4, .int .u8 r2.k5, .int .u8 r2.k6, .int .u8 r2.k7, .int .u8 r2.kd, .int .u64 r2.x, .int .u64 r2.y, .int .u64 r2.n] 28)) = .ok (.string st) (w5.alloc (.cells #[.int .u8 r2.op, .int .u8 r2.k0, .int .u8 r2.k1, .int .u8 r2.k2, .int .u8 r2.k3, .int .u8 r2.k4, .int .u8 r2.k5, .int .u8 r2.k6, .int .u8 r2.k7, .int .u8 r2.kd, .int .u64 r2.x, .int .u64 r2.y, .int .u64 r2.n] 28)) := by
    rw [HST.out]
    refine run_convert_bytes_arg (P := Tryd.prog) _ 31 5 Tryd.underlying31 Tryd.underlying5 g4 0 L L q.enc HL.out.symm (fun i hi => ?_) 9 Tryd.underlying9
    rw [World.cell?_alloc_past _ _ _ (by have := hb5.size; omega), hb5.cell (p := ⟨g4, 0 + i, none⟩) hgl4, Nat.zero_add, HO4.out.cellAt i (by omega), HB.out.enc]
    simp [List.getD, List.getElem?_eq_getElem (show i < q.enc.length by rw [← HL.out]; exact hi)]
  have hB5 : Below w.heap.size w w5 := (hB3.trans (hB34.mono (by omega))).trans (hb5.mono (by omega))
  have hs5 : w.heap.size ≤ w5.heap.size := by have := hb5.size; omega
  clear hb5 hB24 hB34 hB23 HW4 HW2 HCV hgl4''
  go_wp2
  go_ret
  exact ⟨rfl, hB5.alloc hs5 _⟩
end Go.Proofs.YtjkepphpahfdgaaDoor
