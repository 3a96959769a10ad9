import Derived.Test.YtjkepphpahfdgaaDoorFramedA
import Derived.Test.YtjkepphpahfdgaaDoorRoundB
namespace Go.Proofs.YtjkepphpahfdgaaDoor
open Go.RowKit

structure Rp.ok (r : Rp) : Prop where
  c : 0 ≤ r.c ∧ r.c ≤ 255
  a : 0 ≤ r.a ∧ r.a ≤ 18446744073709551615
  b : 0 ≤ r.b ∧ r.b ≤ 18446744073709551615

theorem refreq_q (q : Rq) (hq : q.ok) (L : Nat) (hL : L = q.enc.length) (w : World) :
    Calls Tryd.prog 6 #[.agg #[.int .u8 q.op, .int .u8 q.k0, .int .u8 q.k1, .int .u8 q.k2, .int .u8 q.k3, .int .u8 q.k4, .int .u8 q.k5, .int .u8 q.k6, .int .u8 q.k7, .int .u8 q.kd, .int .u64 q.x, .int .u64 q.y, .int .u64 q.n]] w fun e w' => ∃ v', e = .returned v' ∧ w'.ownsRow w.heap.size 5 1 v' L (q.enc.map (Value.int .u8)) ∧ Below w.heap.size w w' := by
  subst hL
  exact refreq_any q.op q.k0 q.k1 q.k2 q.k3 q.k4 q.k5 q.k6 q.k7 q.kd q.x q.y q.n w hq.x.1 hq.x.2 hq.y.1 hq.y.2 hq.n.1 hq.n.2
theorem refreq_none (q : Rq) (hop : reqLen q.op = 0) (w : World) :
    Calls Tryd.prog 6 #[.agg #[.int .u8 q.op, .int .u8 q.k0, .int .u8 q.k1, .int .u8 q.k2, .int .u8 q.k3, .int .u8 q.k4, .int .u8 q.k5, .int .u8 q.k6, .int .u8 q.k7, .int .u8 q.kd, .int .u64 q.x, .int .u64 q.y, .int .u64 q.n]] w fun e w' => e = .returned (.slice none 0 0) ∧ Below w.heap.size w w' :=
  refreq0 q.op q.k0 q.k1 q.k2 q.k3 q.k4 q.k5 q.k6 q.k7 q.kd q.x q.y q.n w hop

set_option maxRecDepth 100000 in
set_option maxHeartbeats 400000 in
theorem framed_long (q : Rq) (r : Rp) (s : ByteArray) (w : World) (hs : 16384 < s.size) :
    Calls Tryd.prog 3 #[.agg #[.int .u8 q.op, .int .u8 q.k0, .int .u8 q.k1, .int .u8 q.k2, .int .u8 q.k3, .int .u8 q.k4, .int .u8 q.k5, .int .u8 q.k6, .int .u8 q.k7, .int .u8 q.kd, .int .u64 q.x, .int .u64 q.y, .int .u64 q.n], .agg #[.int .u8 r.c, .int .u64 r.a, .int .u64 r.b], .string s] w fun e w' => e = .returned (.bool true) ∧ Below w.heap.size w w' := by
  have hsI : (16384 : Int) < (s.size : Int) := by omega
  go_enter Tryd.func3, Tryd.ntmps3
  go_wp2
  go_ret
  exact ⟨rfl, ((Below.refl _ w).alloc (Nat.le_refl _) _).alloc (by simp) _⟩

set_option maxRecDepth 100000 in
set_option maxHeartbeats 1000000 in
theorem framed_some (q : Rq) (hq : q.ok) (r : Rp) (hr : r.ok) (s : ByteArray) (w : World) (hop : reqLen q.op ≠ 0) (hs : s.size ≤ 16384)
    (hgl : w.cell? ⟨0, 0, none⟩ = some (.iface 89 (.agg #[.pointer (some ⟨1, 46, none⟩)]))) :
    Calls Tryd.prog 3 #[.agg #[.int .u8 q.op, .int .u8 q.k0, .int .u8 q.k1, .int .u8 q.k2, .int .u8 q.k3, .int .u8 q.k4, .int .u8 q.k5, .int .u8 q.k6, .int .u8 q.k7, .int .u8 q.kd, .int .u64 q.x, .int .u64 q.y, .int .u64 q.n], .agg #[.int .u8 r.c, .int .u64 r.a, .int .u64 r.b], .string s] w fun e w' => e = .returned (.bool true) ∧ Below w.heap.size w w' := by
  have hsI : ¬ (16384 : Int) < (s.size : Int) := by omega
  have hlt0 : 0 < w.heap.size := by
    rcases Nat.eq_zero_or_pos w.heap.size with h0 | h
    · simp [World.cell?, h0] at hgl
    · exact h
  obtain ⟨L, hL⟩ : ∃ L, L = q.enc.length := ⟨_, rfl⟩
  have hLb : 2 ≤ L ∧ L ≤ 27 := by
    have hl := encReq_length q.op q.k0 q.k1 q.k2 q.k3 q.k4 q.k5 q.k6 q.k7 q.kd q.x q.y q.n
    rw [if_neg hop] at hl
    have hl' : ((q.enc.length : Nat) : Int) = reqLen q.op + 1 := hl
    rcases reqLen_cases q.op hop with h | h | (h | h) | (h | h) <;> simp [h, reqLen] at hl' <;> omega
  have HL := hide hL
  have HG := hide hgl
  have HOP := hide hop
  clear hL hgl hop
  have hB0 : Below w.heap.size w ((w.alloc (.cells #[.int .u8 q.op, .int .u8 q.k0, .int .u8 q.k1, .int .u8 q.k2, .int .u8 q.k3, .int .u8 q.k4, .int .u8 q.k5, .int .u8 q.k6, .int .u8 q.k7, .int .u8 q.kd, .int .u64 q.x, .int .u64 q.y, .int .u64 q.n] 28)).alloc (.cells #[.int .u8 r.c, .int .u64 r.a, .int .u64 r.b] 30)) := ((Below.refl _ w).alloc (Nat.le_refl _) _).alloc (by simp) _
  have hq0 : ∀ j, ((w.alloc (.cells #[.int .u8 q.op, .int .u8 q.k0, .int .u8 q.k1, .int .u8 q.k2, .int .u8 q.k3, .int .u8 q.k4, .int .u8 q.k5, .int .u8 q.k6, .int .u8 q.k7, .int .u8 q.kd, .int .u64 q.x, .int .u64 q.y, .int .u64 q.n] 28)).alloc (.cells #[.int .u8 r.c, .int .u64 r.a, .int .u64 r.b] 30)).cell? ⟨w.heap.size, j, none⟩ = (#[.int .u8 q.op, .int .u8 q.k0, .int .u8 q.k1, .int .u8 q.k2, .int .u8 q.k3, .int .u8 q.k4, .int .u8 q.k5, .int .u8 q.k6, .int .u8 q.k7, .int .u8 q.kd, .int .u64 q.x, .int .u64 q.y, .int .u64 q.n] : Array Value)[j]? := fun j => (World.cell?_alloc_past _ _ _ (by simp)).trans (cell_box w _ _ j)
  have hr0 : ∀ j, ((w.alloc (.cells #[.int .u8 q.op, .int .u8 q.k0, .int .u8 q.k1, .int .u8 q.k2, .int .u8 q.k3, .int .u8 q.k4, .int .u8 q.k5, .int .u8 q.k6, .int .u8 q.k7, .int .u8 q.kd, .int .u64 q.x, .int .u64 q.y, .int .u64 q.n] 28)).alloc (.cells #[.int .u8 r.c, .int .u64 r.a, .int .u64 r.b] 30)).cell? ⟨w.heap.size + 1, j, none⟩ = (#[.int .u8 r.c, .int .u64 r.a, .int .u64 r.b] : Array Value)[j]? := fun j => World.cell?_alloc_at _ _ _ _ (by simp)
  go_enter Tryd.func3, Tryd.ntmps3
  go_wp2_with fail
  refine (request_some q hq HOP.out L HL.out _).mono ?_
  rintro e w1 ⟨hb1, g1, hg1, hgl1, rfl, ho1⟩
  have z1 : w.heap.size + 1 < w1.heap.size := by have := hb1.size; simp at this; omega
  have hB1 : Below w.heap.size w w1 := hB0.trans (hb1.mono (by simp; omega))
  have hq1 := fun j => (hb1.cell (p := ⟨w.heap.size, j, none⟩) (by simp; omega)).trans (hq0 j)
  have hr1 := fun j => (hb1.cell (p := ⟨w.heap.size + 1, j, none⟩) (by simp)).trans (hr0 j)
  have HO1 := hide ho1
  clear hb1 hq0 hr0 hB0 ho1 hg1
  go_wp2_with fail
  refine (refreq_q q hq L HL.out _).mono ?_
  rintro e w2 ⟨v2, rfl, ho2, hb2⟩
  have z2 : w.heap.size + 1 < w2.heap.size := by have := hb2.size; omega
  have hB2 : Below w.heap.size w w2 := hB1.trans (hb2.mono (by omega))
  have hr2 := fun j => (hb2.cell (p := ⟨w.heap.size + 1, j, none⟩) z1).trans (hr1 j)
  have HO1' : Hid (w2.ownsRow _ 5 1 (.slice (some ⟨g1, 0, none⟩) L L) L (q.enc.map (Value.int .u8))) := own_later HO1.out hb2 rfl
  obtain ⟨g2, c2, hv2, _, _, _, _⟩ := own_shape ho2 (by omega) HL.out.symm
  subst hv2
  have HO2 := hide ho2
  clear hb2 hq1 hr1 hB1 ho2 HO1
  go_wp2_with fail
  refine (reply_any r.c r.a r.b _ hr.a.1 hr.a.2 hr.b.1 hr.b.2).mono ?_
  rintro e w3 ⟨g3, rfl, ho3, hb3⟩
  have z3 : w.heap.size + 1 < w3.heap.size := by have := hb3.size; omega
  have hB3 : Below w.heap.size w w3 := hB2.trans (hb3.mono (by omega))
  have hr3 := fun j => (hb3.cell (p := ⟨w.heap.size + 1, j, none⟩) z2).trans (hr2 j)
  have HO1'' : Hid (w3.ownsRow _ 5 1 (.slice (some ⟨g1, 0, none⟩) L L) L (q.enc.map (Value.int .u8))) := own_later HO1'.out hb3 rfl
  have HO2' : Hid (w3.ownsRow _ 5 1 (.slice (some ⟨g2, 0, none⟩) L c2) L (q.enc.map (Value.int .u8))) := own_later HO2.out hb3 rfl
  have HO3 := hide ho3
  clear hb3 hr2 hB2 ho3 HO1' HO2
  go_wp2_with fail
  refine (refrep r.c r.a r.b _ hr.a.1 hr.a.2 hr.b.1 hr.b.2).mono ?_
  rintro e w4 ⟨v4, rfl, ho4, hb4⟩
  have z4 : w.heap.size + 1 < w4.heap.size := by have := hb4.size; omega
  have hB4 : Below w.heap.size w w4 := hB3.trans (hb4.mono (by omega))
  have ho1 := own_later HO1''.out hb4 rfl
  have ho2 := own_later HO2'.out hb4 rfl
  have ho3 := own_later HO3.out hb4 rfl
  obtain ⟨st, hst⟩ : ∃ st, st = strOfNums q.enc := ⟨_, rfl⟩
  obtain ⟨su, hsu⟩ : ∃ su, su = strOfNums (encRep r.c r.a r.b) := ⟨_, rfl⟩
  have hcx : (convert 31 9 (.slice (some ⟨g1, 0, none⟩) L L)).run Tryd.prog w4 = .ok (.string st) w4 := by rw [hst]; exact conv_own ho1 HL.out.symm
  have hcy : (convert 31 9 (.slice (some ⟨g2, 0, none⟩) L c2)).run Tryd.prog w4 = .ok (.string st) w4 := by rw [hst]; exact conv_own ho2 HL.out.symm
  have hcu : (convert 31 9 (.slice (some ⟨g3, 0, none⟩) 18 18)).run Tryd.prog w4 = .ok (.string su) w4 := by rw [hsu]; exact conv_own ho3 rfl
  have hcv : (convert 31 9 v4).run Tryd.prog w4 = .ok (.string su) w4 := by rw [hsu]; exact conv_own ho4 rfl
  have SY := hide (src0_own ho2 HL.out.symm)
  have SV := hide (src0_own ho4 rfl)
  clear hst hsu ho1 ho2 ho3 ho4 hb4 HO1'' HO2' HO3 hr3 hB3
  have hLne : ((L : Int) == 0) = false := by simp; omega
  have hbs := fun (w : World) (s : ByteArray) => run_bytes_of_string (P := Tryd.prog) w 9 31 5 s Tryd.underlying9 Tryd.underlying31 Tryd.underlying5
  go_wp2_with fail
  refine (reads_any _ (numsOf s) _ (src0_bytes w4 s _ rfl _ (grownCap_ge _ _ _ _)) (by rw [numsOf_length]; omega) (getD_range (numsOf_range s)) ?hg1).mono ?_
  case hg1 => exact (World.cell?_alloc_lt _ _ ⟨0, 0, none⟩ (show 0 < w4.heap.size by omega)).trans ((hB4.cell (p := ⟨0, 0, none⟩) hlt0).trans HG.out)
  rintro e w5 ⟨rfl, hb5⟩
  have hD5 : Below w4.heap.size w4 w5 := (((Below.refl _ w4).alloc (Nat.le_refl _) _).drew).trans (hb5.mono (by simp))
  have hB5 : Below w.heap.size w w5 := hB4.trans (hD5.mono (by omega))
  have SY5 := hide (SY.out.later hD5 rfl)
  have SV5 := hide (SV.out.later hD5 rfl)
  have z5 := hD5.size
  clear hb5 hD5 SY SV hB4 hcx hcy hcu hcv
  go_wp2_with fail
  refine (reads_any _ q.enc _ SY5.out (by rw [← HL.out]; omega) (getD_range (enc_range q hq)) ((hB5.cell (p := ⟨0, 0, none⟩) hlt0).trans HG.out)).mono ?_
  rintro e w6 ⟨rfl, hb6⟩
  have hB6 : Below w.heap.size w w6 := hB5.trans (hb6.mono (by omega))
  have SV6 := hide (SV5.out.later hb6 rfl)
  have z6 := hb6.size
  clear hb6 SY5 SV5 hB5
  go_wp2_with fail
  refine (reads_any _ (encRep r.c r.a r.b) _ SV6.out (by rw [encRep_length]; omega) (getD_range (encRep_range r.c r.a r.b hr.c)) ((hB6.cell (p := ⟨0, 0, none⟩) hlt0).trans HG.out)).mono ?_
  rintro e w7 ⟨rfl, hb7⟩
  have hB7 : Below w.heap.size w w7 := hB6.trans (hb7.mono (by omega))
  clear hb7 SV6 hB6
  go_wp2
  go_ret
  exact ⟨rfl, hB7⟩

set_option maxRecDepth 100000 in
set_option maxHeartbeats 1000000 in
theorem framed_none (q : Rq) (hq : q.ok) (r : Rp) (hr : r.ok) (s : ByteArray) (w : World) (hop : reqLen q.op = 0) (hs : s.size ≤ 16384)
    (hgl : w.cell? ⟨0, 0, none⟩ = some (.iface 89 (.agg #[.pointer (some ⟨1, 46, none⟩)]))) :
    Calls Tryd.prog 3 #[.agg #[.int .u8 q.op, .int .u8 q.k0, .int .u8 q.k1, .int .u8 q.k2, .int .u8 q.k3, .int .u8 q.k4, .int .u8 q.k5, .int .u8 q.k6, .int .u8 q.k7, .int .u8 q.kd, .int .u64 q.x, .int .u64 q.y, .int .u64 q.n], .agg #[.int .u8 r.c, .int .u64 r.a, .int .u64 r.b], .string s] w fun e w' => e = .returned (.bool true) ∧ Below w.heap.size w w' := by
  have hsI : ¬ (16384 : Int) < (s.size : Int) := by omega
  have hlt0 : 0 < w.heap.size := by
    rcases Nat.eq_zero_or_pos w.heap.size with h0 | h
    · simp [World.cell?, h0] at hgl
    · exact h
  have hen : q.enc = [] := by
    have hl := encReq_length q.op q.k0 q.k1 q.k2 q.k3 q.k4 q.k5 q.k6 q.k7 q.kd q.x q.y q.n
    rw [if_pos hop] at hl
    have hl' : ((q.enc.length : Nat) : Int) = 0 := hl
    exact List.eq_nil_of_length_eq_zero (by omega)
  have HN := hide hen
  clear hen
  have HG := hide hgl
  have HOP := hide hop
  clear hgl hop
  have hB0 : Below w.heap.size w ((w.alloc (.cells #[.int .u8 q.op, .int .u8 q.k0, .int .u8 q.k1, .int .u8 q.k2, .int .u8 q.k3, .int .u8 q.k4, .int .u8 q.k5, .int .u8 q.k6, .int .u8 q.k7, .int .u8 q.kd, .int .u64 q.x, .int .u64 q.y, .int .u64 q.n] 28)).alloc (.cells #[.int .u8 r.c, .int .u64 r.a, .int .u64 r.b] 30)) := ((Below.refl _ w).alloc (Nat.le_refl _) _).alloc (by simp) _
  have hq0 : ∀ j, ((w.alloc (.cells #[.int .u8 q.op, .int .u8 q.k0, .int .u8 q.k1, .int .u8 q.k2, .int .u8 q.k3, .int .u8 q.k4, .int .u8 q.k5, .int .u8 q.k6, .int .u8 q.k7, .int .u8 q.kd, .int .u64 q.x, .int .u64 q.y, .int .u64 q.n] 28)).alloc (.cells #[.int .u8 r.c, .int .u64 r.a, .int .u64 r.b] 30)).cell? ⟨w.heap.size, j, none⟩ = (#[.int .u8 q.op, .int .u8 q.k0, .int .u8 q.k1, .int .u8 q.k2, .int .u8 q.k3, .int .u8 q.k4, .int .u8 q.k5, .int .u8 q.k6, .int .u8 q.k7, .int .u8 q.kd, .int .u64 q.x, .int .u64 q.y, .int .u64 q.n] : Array Value)[j]? := fun j => (World.cell?_alloc_past _ _ _ (by simp)).trans (cell_box w _ _ j)
  have hr0 : ∀ j, ((w.alloc (.cells #[.int .u8 q.op, .int .u8 q.k0, .int .u8 q.k1, .int .u8 q.k2, .int .u8 q.k3, .int .u8 q.k4, .int .u8 q.k5, .int .u8 q.k6, .int .u8 q.k7, .int .u8 q.kd, .int .u64 q.x, .int .u64 q.y, .int .u64 q.n] 28)).alloc (.cells #[.int .u8 r.c, .int .u64 r.a, .int .u64 r.b] 30)).cell? ⟨w.heap.size + 1, j, none⟩ = (#[.int .u8 r.c, .int .u64 r.a, .int .u64 r.b] : Array Value)[j]? := fun j => World.cell?_alloc_at _ _ _ _ (by simp)
  go_enter Tryd.func3, Tryd.ntmps3
  go_wp2_with fail
  refine (request_none q hq HOP.out _).mono ?_
  rintro e w1 ⟨hb1, rfl⟩
  have z1 : w.heap.size + 1 < w1.heap.size := by have := hb1.size; simp at this; omega
  have hB1 : Below w.heap.size w w1 := hB0.trans (hb1.mono (by simp; omega))
  have hq1 := fun j => (hb1.cell (p := ⟨w.heap.size, j, none⟩) (by simp; omega)).trans (hq0 j)
  have hr1 := fun j => (hb1.cell (p := ⟨w.heap.size + 1, j, none⟩) (by simp)).trans (hr0 j)
  clear hb1 hq0 hr0 hB0
  go_wp2_with fail
  refine (refreq_none q HOP.out _).mono ?_
  rintro e w2 ⟨rfl, hb2⟩
  have z2 : w.heap.size + 1 < w2.heap.size := by have := hb2.size; omega
  have hB2 : Below w.heap.size w w2 := hB1.trans (hb2.mono (by omega))
  have hr2 := fun j => (hb2.cell (p := ⟨w.heap.size + 1, j, none⟩) z1).trans (hr1 j)
  clear hb2 hq1 hr1 hB1
  go_wp2_with fail
  refine (reply_any r.c r.a r.b _ hr.a.1 hr.a.2 hr.b.1 hr.b.2).mono ?_
  rintro e w3 ⟨g3, rfl, ho3, hb3⟩
  have z3 : w.heap.size + 1 < w3.heap.size := by have := hb3.size; omega
  have hB3 : Below w.heap.size w w3 := hB2.trans (hb3.mono (by omega))
  have hr3 := fun j => (hb3.cell (p := ⟨w.heap.size + 1, j, none⟩) z2).trans (hr2 j)
  have HO3 := hide ho3
  clear hb3 hr2 hB2 ho3
  go_wp2_with fail
  refine (refrep r.c r.a r.b _ hr.a.1 hr.a.2 hr.b.1 hr.b.2).mono ?_
  rintro e w4 ⟨v4, rfl, ho4, hb4⟩
  have z4 : w.heap.size + 1 < w4.heap.size := by have := hb4.size; omega
  have hB4 : Below w.heap.size w w4 := hB3.trans (hb4.mono (by omega))
  have ho3 := own_later HO3.out hb4 rfl
  obtain ⟨su, hsu⟩ : ∃ su, su = strOfNums (encRep r.c r.a r.b) := ⟨_, rfl⟩
  have hcx : (convert 31 9 (.slice none 0 0)).run Tryd.prog w4 = .ok (.string ByteArray.empty) w4 := run_convert_bytes_nil w4 31 5 Tryd.underlying31 Tryd.underlying5 0 0 9 Tryd.underlying9
  have hcu : (convert 31 9 (.slice (some ⟨g3, 0, none⟩) 18 18)).run Tryd.prog w4 = .ok (.string su) w4 := by rw [hsu]; exact conv_own ho3 rfl
  have hcv : (convert 31 9 v4).run Tryd.prog w4 = .ok (.string su) w4 := by rw [hsu]; exact conv_own ho4 rfl
  have SV := hide (src0_own ho4 rfl)
  clear hsu ho3 ho4 hb4 HO3 hr3 hB3
  have hbs := fun (w : World) (s : ByteArray) => run_bytes_of_string (P := Tryd.prog) w 9 31 5 s Tryd.underlying9 Tryd.underlying31 Tryd.underlying5
  go_wp2_with fail
  refine (reads_any _ (numsOf s) _ (src0_bytes w4 s _ rfl _ (grownCap_ge _ _ _ _)) (by rw [numsOf_length]; omega) (getD_range (numsOf_range s)) ?hg1).mono ?_
  case hg1 => exact (World.cell?_alloc_lt _ _ ⟨0, 0, none⟩ (show 0 < w4.heap.size by omega)).trans ((hB4.cell (p := ⟨0, 0, none⟩) hlt0).trans HG.out)
  rintro e w5 ⟨rfl, hb5⟩
  have hD5 : Below w4.heap.size w4 w5 := (((Below.refl _ w4).alloc (Nat.le_refl _) _).drew).trans (hb5.mono (by simp))
  have hB5 : Below w.heap.size w w5 := hB4.trans (hD5.mono (by omega))
  have SV5 := hide (SV.out.later hD5 rfl)
  have z5 := hD5.size
  clear hb5 hD5 SV hB4 hcx hcu hcv
  go_wp2_with fail
  refine (reads_any _ q.enc _ (.inl ⟨HN.out, .inl rfl⟩) (by rw [HN.out]; simp) (getD_range (enc_range q hq)) ((hB5.cell (p := ⟨0, 0, none⟩) hlt0).trans HG.out)).mono ?_
  rintro e w6 ⟨rfl, hb6⟩
  have hB6 : Below w.heap.size w w6 := hB5.trans (hb6.mono (by omega))
  have SV6 := hide (SV5.out.later hb6 rfl)
  have z6 := hb6.size
  clear hb6 SV5 hB5
  go_wp2_with fail
  refine (reads_any _ (encRep r.c r.a r.b) _ SV6.out (by rw [encRep_length]; omega) (getD_range (encRep_range r.c r.a r.b hr.c)) ((hB6.cell (p := ⟨0, 0, none⟩) hlt0).trans HG.out)).mono ?_
  rintro e w7 ⟨rfl, hb7⟩
  have hB7 : Below w.heap.size w w7 := hB6.trans (hb7.mono (by omega))
  clear hb7 SV6 hB6
  go_wp2
  go_ret
  exact ⟨rfl, hB7⟩
end Go.Proofs.YtjkepphpahfdgaaDoor
