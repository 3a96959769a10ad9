import Derived.Test.YtlamgpeiolfffaaGreatDoorZz35
import Derived.Test.YtlamgpeiolfffaaGreatDoorZz19
import Derived.Test.YtlamgpeiolfffaaGreatDoorZz09
import Derived.Test.YtlamgpeiolfffaaGreatDoorZz16
namespace Go.Proofs.YtlamgpeiolfffaaGreatDoor
open Go.RowKit

def rlM (sps : List Sp) (i : Nat) : Nat := ((sps[i]?).map (fun p => p.qs.length)).getD 0
def rsM (sps : List Sp) (i : Nat) : Nat := ((sps[i]?).map (fun p => p.raw.size)).getD 0
theorem rlM_at (sps : List Sp) (i : Nat) (h : i < sps.length) : rlM sps i = sps[i].qs.length := by unfold rlM; rw [List.getElem?_eq_getElem h]; rfl
theorem rsM_at (sps : List Sp) (i : Nat) (h : i < sps.length) : rsM sps i = sps[i].raw.size := by unfold rsM; rw [List.getElem?_eq_getElem h]; rfl
theorem totM_le (rl rs : Nat → Nat) : ∀ (n i : Nat), i < n → 26 * rl i + rs i ≤ totM rl rs n
  | n + 1, i, h => by
    unfold totM
    rcases Nat.lt_or_ge i n with h1 | h1
    · have := totM_le rl rs n i h1
      omega
    · have e : i = n := by omega
      subst e
      omega
/-- A step with numbers that its fields can hold. -/
structure Sp.ok (p : Sp) : Prop where
  conn : -9223372036854775808 ≤ p.conn ∧ p.conn ≤ 9223372036854775807
  now : 0 ≤ p.now ∧ p.now ≤ 18446744073709551615
  cut : -9223372036854775808 ≤ p.cut ∧ p.cut ≤ 9223372036854775807
  qs : ∀ q ∈ p.qs, q.ok

theorem sim0 : Sim ⟨0, 0, []⟩ ⟨0, []⟩ := ⟨rfl, trivial, ⟨by decide, by decide, fun p hp => (by cases hp), fun p hp => (by cases hp), List.nodup_nil, by decide⟩, ⟨by decide, by decide, fun l hl => (by cases hl)⟩⟩

/-- The law and its host, as they begin. -/
theorem both0 {w w3 w5 : World} {hb db nb sb wb bb : Nat} {mb : Option Nat} {blk : Int} {v : Value} {tb : Nat → Nat} (H : HostAt w3 hb db nb sb mb blk ⟨0, 0, []⟩ (fun b => b = sb) w.heap.size (.slice none 0 0) 0 (fun _ => 0) (fun _ => ⟨[], false⟩)) (hw : w.heap.size ≤ w3.heap.size) (W : World) (hbb : bb = w3.heap.size) (hwb : wb = w3.heap.size + 1) (hW : W = (w3.alloc (.cells #[.slice none 0 0, .int .u64 0] 53)).alloc (.cells #[.pointer (some ⟨hb, 0, none⟩), .pointer (some ⟨bb, 0, none⟩), .slice none 0 0, .int .u64 blk, .bool false, .bool false, .int .u8 0, .int .u8 0, .int .u8 0, .int .u8 0, .int .u8 0, .int .u8 0, .int .u8 0, .int .u8 0, .int .u8 0, .int .u8 0, .int .u64 0, .int .u64 0, .int .u64 0, .int .u64 0, .int .u64 0, .int .u64 0, .int .u64 0] 60))
    (O : OpI W wb (fun v => #[.pointer (some ⟨hb, 0, none⟩), .pointer (some ⟨bb, 0, none⟩), v, .int .u64 blk, .bool false, .bool false, .int .u8 0, .int .u8 0, .int .u8 0, .int .u8 0, .int .u8 0, .int .u8 0, .int .u8 0, .int .u8 0, .int .u8 0, .int .u8 0, .int .u64 0, .int .u64 0, .int .u64 0, .int .u64 0, .int .u64 0, .int .u64 0, .int .u64 0]) 3 v tb w5) : ∃ kb kc, Both w5 w.heap.size hb db nb sb wb bb kb kc mb blk tb (fun _ => .slice none 0 0) (.slice none 0 0) ⟨0, 0, []⟩ (fun b => b = sb) (.slice none 0 0) 0 (fun _ => 0) (fun _ => ⟨[], false⟩) ⟨0, 0, []⟩ ⟨0, []⟩ (fun _ => ⟨[], false⟩) := by
  have hWs : W.heap.size = w3.heap.size + 2 := by rw [hW]; simp
  obtain ⟨kb, kc, hv, hk1, hk2⟩ := O.own.form (by decide)
  have hWk : ∀ b, b < w3.heap.size → w5.heap[b]? = w3.heap[b]? := fun b hb' => (O.keep.block b (by omega) (by omega)).trans (by rw [hW]; exact (heapOld _ _ (by rw [World.size_alloc]; omega)).trans (heapOld _ _ hb'))
  have hbk : w5.heap[bb]? = some (.cells #[.slice none 0 0, .int .u64 0] 53) := (O.keep.block bb (by omega) (by omega)).trans (by rw [hW, hbb]; exact (heapOld _ _ (by rw [World.size_alloc]; omega)).trans (heapNew _ _))
  have hsz := O.keep.size
  have hlt : ∀ b, HG hb db (fun b => b = sb) (.slice none 0 0) 0 (fun _ => 0) b → b < w3.heap.size := fun b h => H.lt b h
  refine ⟨kb, kc, ⟨H.kept (by omega) hWk, ⟨⟨_, by have := O.blk; rw [hv] at this; exact this⟩, ⟨hbk, World.ownsRow_nil _ _ _ _⟩, sim0, ?_, fun i hi => (O.st i hi).1, fun i hi => Or.inl ⟨rfl, Or.inl rfl⟩, O.inj, fun i hi h => absurd rfl h, ⟨by omega, by omega, fun i hi => by have := (O.st i hi).2; omega⟩, fun i hi => ⟨fun x hx => (by cases hx), by simp, fun _ => rfl⟩, by omega⟩, fun b h e => ?_, fun b h j hj => absurd hj (Nat.not_lt_zero _)⟩⟩
  · have h := O.own
    rw [hv] at h
    refine ⟨h.1, ?_⟩
    rcases h.2 with h | ⟨g, cap, cur, e1, e2, e3⟩
    · exact Or.inl h
    · exact Or.inr ⟨g, cap, cur, e1, by omega, e3⟩
  · have := hlt b e
    rcases h with h | h | h | h | ⟨i, hi, h⟩ | ⟨i, hi, h, _⟩
    · omega
    · omega
    · omega
    · simp [Value.ownBlock] at h
    · have := (O.st i hi).2; omega
    · exact h rfl

set_option maxRecDepth 100000 in
set_option maxHeartbeats 8000000 in
theorem plays6 (ao : Option Addr) (n cap : Nat) (sps : List Sp) (blk : Int) (K : Nat) (w : World) (hn : sps.length = n) (hnc : n ≤ cap) (hn1 : n ≤ 1048576) (hql : ∀ p ∈ sps, p.qs.length ≤ 1048576 ∧ p.raw.size ≤ 1048576) (hok : ∀ p ∈ sps, p.ok) (hK : w.cell? ⟨K, 0, none⟩ = some (.int .i64 1)) (hKl : K < w.heap.size)
    (hc : 0 < n → ∃ A o, ao = some ⟨A, o, none⟩ ∧ A < w.heap.size ∧ ∀ i (h : i < sps.length), ∃ v, (∀ x, x < 10 → w.cell? ⟨A, o + i * 10 + x, none⟩ = (stv sps[i] v)[x]?) ∧ RqAt w v sps[i].qs) :
    Calls Tryz.prog 6 #[.slice ao n cap, .int .u64 blk, .slice (some ⟨K, 0, none⟩) 1 1] w fun e w' => e = .returned (.bool true) ∧ Below w.heap.size w w' := by
  have H14 := hide (small14 ao n cap (rlM sps) (rsM sps) w hnc (by omega) (fun i hi => by rw [rlM_at sps i (by omega)]; have := (hql _ (List.getElem_mem (show i < sps.length by omega))).1; omega) (fun i hi => by rw [rsM_at sps i (by omega)]; have := (hql _ (List.getElem_mem (show i < sps.length by omega))).2; omega) (fun h => by
    obtain ⟨A, o, e, hA, hcc⟩ := hc h
    refine ⟨A, o, e, hA, fun i hi => ?_⟩
    have hil : i < sps.length := by omega
    obtain ⟨v, hv, la, lc, rfl, _⟩ := hcc i hil
    exact ⟨⟨la, lc, by rw [hv 3 (by omega), rlM_at sps i hil]; rfl⟩, sps[i].raw, by rw [hv 4 (by omega)]; rfl, (rsM_at sps i hil).symm⟩))
  have HC := hide hc
  have HN := hide hn
  have HOK := hide hok
  have HKC := hide hK
  clear hc hn hok hK hql
  go_enter Tryz.func6, Tryz.ntmps6
  go_wp2_with fail
  refine H14.out.mono ?_
  rintro e w1 ⟨⟨b, rfl, hsm⟩, hb1⟩
  have HSM := hide hsm
  have HB1 := hide hb1
  have hs1 := hb1.size
  clear hsm hb1
  cases b with
  | false =>
    go_wp2
    go_ret
    exact ⟨rfl, HB1.out⟩
  | true =>
    have hsm := HSM.out rfl
    have HST := hide hsm
    clear hsm HSM
    go_wp2_with fail
    refine (newhost15 blk _).mono ?_
    rintro e w2 ⟨nb, rfl, h1, h2, h3, h4, h5, h6⟩
    obtain ⟨hb, ehb⟩ : ∃ hb, hb = w1.heap.size + 2 := ⟨_, rfl⟩
    obtain ⟨db, edb⟩ : ∃ db, db = w1.heap.size + 1 := ⟨_, rfl⟩
    obtain ⟨mb, emb⟩ : ∃ mb, mb = w1.heap.size := ⟨_, rfl⟩
    rw [← edb, ← emb] at h2
    rw [← ehb, ← edb] at h1
    rw [← emb] at h3
    have HB2 := hide (HB1.out.trans (h6.mono hs1))
    have HSZ : Hid (w.heap.size ≤ mb ∧ mb < db ∧ db < hb ∧ hb < nb ∧ nb < w2.heap.size) := hide ⟨by omega, by omega, by omega, by omega, ltB h4⟩
    rw [← ehb]
    clear ehb edb emb h5 h6
    go_wp2_with fail
    refine (hostopen16 hb db nb (.map (some mb)) _ _ blk _ _ w2 h1 h2 ⟨_, rfl⟩ h4).mono ?_
    rintro e w3 ⟨sb, rfl, i1, i2, i3, i4, i5⟩
    have hz := HSZ.out
    have HB3 : Hid (Below w.heap.size w w3) := hide (HB2.out.trans (i5.below (by omega) (fun k hk => by omega)))
    have H2 : HostAt w3 hb db nb sb (some mb) blk ⟨0, 0, []⟩ (fun b => b = sb) w.heap.size (.slice none 0 0) 0 (fun _ => 0) (fun _ => ⟨[], false⟩) := by
      refine ⟨i2, i3, i4, fun i hi => absurd hi (Nat.not_lt_zero _), fun i j hi => absurd hi (Nat.not_lt_zero _), World.ownsRow_nil _ _ _ _, fun g hg hF => ?_, fun b hb' => ?_, fun _ _ => rfl⟩
      · rcases hg with h | h | h
        · omega
        · omega
        · simp [Value.ownBlock] at h
      · rcases hb' with h | h | h | h | ⟨i, hi, h⟩
        · omega
        · omega
        · omega
        · simp [Value.ownBlock] at h
        · omega
    have HH2 := hide H2
    clear h1 h2 h3 h4 i1 i2 i3 i4 i5 H2 hz
    go_wp2_with fail
    refine (is17 hb sb _ _ _ w3 HH2.out.hh).mono ?_
    rintro e w4 ⟨rfl, he4⟩
    rw [he4]
    clear he4
    go_wp2_with fail
    obtain ⟨bb, hbb⟩ : ∃ bb, bb = w3.heap.size := ⟨_, rfl⟩
    obtain ⟨wb, hwb⟩ : ∃ wb, wb = w3.heap.size + 1 := ⟨_, rfl⟩
    obtain ⟨W, hW⟩ : ∃ W, W = (w3.alloc (.cells #[.slice none 0 0, .int .u64 0] 53)).alloc (.cells #[.pointer (some ⟨hb, 0, none⟩), .pointer (some ⟨bb, 0, none⟩), .slice none 0 0, .int .u64 blk, .bool false, .bool false, .int .u8 0, .int .u8 0, .int .u8 0, .int .u8 0, .int .u8 0, .int .u8 0, .int .u8 0, .int .u8 0, .int .u8 0, .int .u8 0, .int .u64 0, .int .u64 0, .int .u64 0, .int .u64 0, .int .u64 0, .int .u64 0, .int .u64 0] 60) := ⟨_, rfl⟩
    rw [← hwb]
    rw [← hbb]
    rw [← hW]
    have hWb : W.heap[wb]? = some (.cells #[.pointer (some ⟨hb, 0, none⟩), .pointer (some ⟨bb, 0, none⟩), .slice none 0 0, .int .u64 blk, .bool false, .bool false, .int .u8 0, .int .u8 0, .int .u8 0, .int .u8 0, .int .u8 0, .int .u8 0, .int .u8 0, .int .u8 0, .int .u8 0, .int .u8 0, .int .u64 0, .int .u64 0, .int .u64 0, .int .u64 0, .int .u64 0, .int .u64 0, .int .u64 0] 60) := by rw [hW, hwb]; exact heapN (by simp)
    refine (open18 wb _ _ _ _ _ _ _ _ _ _ _ _ _ _ _ _ _ _ _ _ _ _ _ W hWb).mono ?_
    rintro e w5 ⟨rfl, v, tb, O⟩
    have hw3 := HB3.out.size
    obtain ⟨kb, kc, HB⟩ := both0 HH2.out hw3 W hbb hwb (by rw [hW]) O
    have hB5 : Below w.heap.size w w5 := HB3.out.trans ⟨O.keep.os.trans (by rw [hW]; rfl), O.keep.tape.trans (by rw [hW]; rfl), O.keep.output.trans (by rw [hW]; rfl), by have := O.keep.size; rw [hW] at this; simp at this; omega, fun b hb' => (O.keep.block b (by rw [hW]; simp; omega) (by omega)).trans (by rw [hW]; exact (heapOld _ _ (by rw [World.size_alloc]; omega)).trans (heapOld _ _ (by omega)))⟩
    have HBO := hide HB
    have HB5 := hide hB5
    clear HB hB5 O hWb hW hbb hwb HH2
    obtain ⟨base, hbase⟩ : ∃ base, base = w.heap.size := ⟨_, rfl⟩
    rw [← hbase] at HBO HB5
    have HBE := hide hbase
    go_wp2_with fail
    go_loopw [12] (fun s12 wr => ∃ i : Nat, i ≤ n ∧ s12 = .int .i64 i ∧ ∃ L F cv m cb c lv B rv, m ≤ 3 ∧ (m < 3 → ∀ i, c i = ⟨[], false⟩) ∧ Both wr base hb db nb sb wb bb kb kc (some mb) blk tb rv lv L F cv m cb c L B c ∧ Below base w wr) (fun s12 _ => n - (intOf s12).toNat)
    case atStart => exact ⟨0, Nat.zero_le _, rfl, _, _, _, _, _, _, _, _, _, by omega, fun _ _ => rfl, HBO.out, HB5.out⟩
    case round =>
      obtain ⟨i, hin, rfl, L, F, cv, m, cb, c, lv, B, rv, hm, hq, HBr, hbr⟩ := hrel
      obtain ⟨Y, rfl⟩ : ∃ Y, Y = wr := ⟨_, rfl⟩
      have HR := hide HBr
      have HBR := hide hbr
      have hYs := hbr.size
      have HQ := hide hq
      clear HBr hbr hq
      by_cases hlt : i < n
      · have hltI : (i : Int) < (n : Int) := by omega
        have hi0 : (0 : Int) ≤ (i : Int) := by omega
        have hil : i < sps.length := by rw [HN.out]; exact hlt
        obtain ⟨A, o, rfl, hA, hcc⟩ := HC.out (by omega)
        obtain ⟨v, hcell, hrq⟩ := hcc i hil
        obtain ⟨p, hp⟩ : ∃ p, p = sps[i] := ⟨_, rfl⟩
        rw [← hp] at hcell hrq
        have hpok : p.ok := hp ▸ HOK.out _ (List.getElem_mem hil)
        have htot := totM_le (rlM sps) (rsM sps) n i hlt
        rw [rlM_at sps i hil, rsM_at sps i hil, ← hp] at htot
        have hsm := HST.out
        have hql : p.qs.length ≤ 1000 := by omega
        have hraw : p.raw.size ≤ 20000 := by omega
        obtain ⟨ra, rc, rfl, hrc, hrcell⟩ := hrq
        have hk : ∀ x, x < 10 → Y.cell? ⟨A, o + i * 10 + x, none⟩ = (stv p (.slice ra p.qs.length rc))[x]? := fun x hx => (HBR.out.cell (p := ⟨A, o + i * 10 + x, none⟩) (by show A < base; omega)).trans (hcell x hx)
        have k0 := hk 0 (by omega)
        have k1 := hk 1 (by omega)
        have k2 := hk 2 (by omega)
        have k3 := hk 3 (by omega)
        have k4 := hk 4 (by omega)
        have k5 := hk 5 (by omega)
        have k6 := hk 6 (by omega)
        have k7 := hk 7 (by omega)
        have k8 := hk 8 (by omega)
        have k9 := hk 9 (by omega)
        rw [Nat.add_zero] at k0
        have hrqY : RqAt Y (.slice ra p.qs.length rc) p.qs := ⟨ra, rc, rfl, hrc, fun h => by
          obtain ⟨A2, o2, e, hA2, h2⟩ := hrcell h
          exact ⟨A2, o2, e, by omega, fun k hk j hj => (HBR.out.cell (p := ⟨A2, o2 + k * 13 + j, none⟩) (by show A2 < base; omega)).trans (h2 k hk j hj)⟩⟩
        obtain ⟨ql, hqe⟩ : ∃ ql, ql = p.qs.length := ⟨_, rfl⟩
        rw [← hqe] at hrqY k0 k1 k2 k3 k4 k5 k6 k7 k8 k9 hql
        have HRQ := hide hrqY
        have HPK := hide hpok
        have HQE := hide hqe
        have HPE := hide hp
        have HRAW := hide hraw
        have HQL := hide hql
        clear hk hcell hrcell hcc hrqY hpok htot hsm hp hrc hqe hraw hql
        go_wp2_with fail
        obtain ⟨Q, hQ⟩ : ∃ Q, Q = Y.heap.size := ⟨_, rfl⟩
        obtain ⟨V, hV⟩ : ∃ V, V = Y.alloc (.cells #[.int .i64 p.kind, .int .i64 p.conn, .int .u64 p.now, .slice ra ql rc, .string p.raw, .int .i64 p.cut, .int .i64 p.left, .int .i64 p.full, .int .i64 p.kept, .int .i64 p.part] 62) := ⟨_, rfl⟩
        rw [← hQ, ← hV]
        have hVb : Below Y.heap.size Y V := by rw [hV]; exact (Below.refl _ Y).alloc (Nat.le_refl _) _
        have hVQ : V.heap[Q]? = some (.cells #[.int .i64 p.kind, .int .i64 p.conn, .int .u64 p.now, .slice ra ql rc, .string p.raw, .int .i64 p.cut, .int .i64 p.left, .int .i64 p.full, .int .i64 p.kept, .int .i64 p.part] 62) := by rw [hV, hQ]; exact heapNew _ _
        have hVs : V.heap.size = Q + 1 := by rw [hV, hQ]; simp
        have hKV : V.cell? ⟨K, 0, none⟩ = some (.int .i64 1) := (hVb.cell (p := ⟨K, 0, none⟩) (by show K < Y.heap.size; omega)).trans ((HBR.out.cell (p := ⟨K, 0, none⟩) (by show K < base; omega)).trans HKC.out)
        have hKQ : K < V.heap.size := by omega
        have HVB := hide hVb
        have HVQ := hide hVQ
        have HKV := hide hKV
        have HQQ := hide hQ
        clear hV hVb hVQ hKV k0 k1 k2 k3 k4 k5 k6 k7 k8 k9 hQ
        go_loopw [14, 15] (fun s14 s15 X => ∃ j : Nat, j ≤ 1 ∧ s15 = .int .i64 j ∧ s14 = .bool (decide (j = 1 ∧ p.kind = 1)) ∧ Below V.heap.size V X) (fun _ s15 _ => 1 - (intOf s15).toNat)
        case atStart => exact ⟨0, by omega, rfl, by simp, Below.refl _ _⟩
        case round =>
          obtain ⟨j, hj1, rfl, rfl, hX⟩ := hrel
          obtain ⟨X, rfl⟩ : ∃ X, X = wr := ⟨_, rfl⟩
          have hXQ := (hX.block Q (by omega)).trans HVQ.out
          have hXK : X.cell? ⟨K, 0, none⟩ = some (.int .i64 1) := (hX.cell (p := ⟨K, 0, none⟩) hKQ).trans HKV.out
          have q0 := cellB hXQ 0
          have hXs := hX.size
          have HX := hide hX
          clear hX
          by_cases hj0 : j = 0
          · subst hj0
            have e0 : decide ((0 : Nat) = 1 ∧ p.kind = 1) = false := by simp
            rw [e0]
            have HXQ := hide hXQ
            clear hXQ e0
            go_upto_region 19 with fail
            go_region
            all_goals go_wp2
            all_goals go_roundw
            all_goals first
              | exact ⟨1, by omega, by go_num, by simp; rfl, HX.out.drew⟩
              | (simp [intOf])
          · obtain rfl : j = 1 := by omega
            by_cases hkd : p.kind = 1
            · have e1 : decide ((1 : Nat) = 1 ∧ p.kind = 1) = true := by simp [hkd]
              rw [e1]
              have q1 := cellB hXQ 1
              have q2 := cellB hXQ 2
              have q3 := cellB hXQ 3
              have q4 := cellB hXQ 4
              have q5 := cellB hXQ 5
              have q6 := cellB hXQ 6
              have q7 := cellB hXQ 7
              have q8 := cellB hXQ 8
              have q9 := cellB hXQ 9
              have HYX : Hid (Below Y.heap.size Y X) := hide (HVB.out.trans (HX.out.mono (by have := HQQ.out; omega)))
              have HRX := hide (HR.out.kept HYX.out)
              have hrX : RqAt X (.slice ra ql rc) p.qs := by
                obtain ⟨a2, c2, e2, hc2, h2⟩ := HRQ.out
                refine ⟨a2, c2, e2, hc2, fun h => ?_⟩
                obtain ⟨A2, o2, e3, hA2, h3⟩ := h2 h
                exact ⟨A2, o2, e3, by have := HYX.out.size; omega, fun k hk j hj => (HYX.out.cell (p := ⟨A2, o2 + k * 13 + j, none⟩) hA2).trans (h3 k hk j hj)⟩
              have H19 := hide (feed19 base hb db nb sb wb bb kb kc (some mb) blk tb rv lv L F cv m cb c B p (.slice ra ql rc) X HRX.out hm HQ.out hrX (by have := HQL.out; have := HQE.out; omega) HPK.out.qs HRAW.out HPK.out.conn.1 HPK.out.conn.2 HPK.out.now.1 HPK.out.now.2 HPK.out.cut.1 HPK.out.cut.2)
              have HKD := hide hkd
              have hkd' : (p.kind == 1) = true := by simp [hkd]
              clear hrX hXQ e1 hkd
              go_wp2_with fail
              refine H19.out.mono ?_
              rintro e w6 ⟨rfl, hsp⟩
              have HSP := hide hsp
              clear hsp
              go_wp2
              go_roundw
              case rel =>
                obtain ⟨L', F', cv', cb', c', lv', B', rv', g1, g2⟩ := HSP.out
                exact ⟨i + 1, by omega, by go_num, L', F', cv', 3, cb', c', lv', B', rv', Nat.le_refl _, fun h => absurd h (by omega), g1, (HBR.out.trans (HYX.out.mono (by omega))).trans g2⟩
              case measure => simp [intOf]; omega
            · have e1 : decide ((1 : Nat) = 1 ∧ p.kind = 1) = false := by simp [hkd]
              rw [e1]
              have HYX : Hid (Below Y.heap.size Y X) := hide (HVB.out.trans (HX.out.mono (by have := HQQ.out; omega)))
              have HRX := hide (HR.out.kept HYX.out)
              clear hXQ e1 hkd
              go_wp2
              go_roundw
              case rel => exact ⟨i + 1, by omega, by go_num, L, F, cv, m, cb, c, lv, B, rv, hm, HQ.out, HRX.out, HBR.out.trans (HYX.out.mono (by omega))⟩
              case measure => simp [intOf]; omega
      · have hltI : ¬ (i : Int) < (n : Int) := by omega
        go_wp2
        go_ret
        exact ⟨rfl, HBE.out ▸ HBR.out⟩

end Go.Proofs.YtlamgpeiolfffaaGreatDoor

namespace Go.Proofs.YtlamgpeiolfffaaGreatDoor
open Go.RowKit

theorem RqAt.of_own {w : World} {base : Nat} {v : Value} {qs : List Rq} (h : w.ownsRow base 58 13 v qs.length (rqws qs)) : RqAt w v qs := by
  rcases h.2 with ⟨rfl, h0⟩ | ⟨g, cap, cur, hv, hb, hh, hc, _⟩
  · exact ⟨none, 0, by rw [h0], by omega, fun hp => by omega⟩
  · refine ⟨some ⟨g, 0, none⟩, cap, hv, hc, fun hp => ⟨g, 0, rfl, ltB hh, fun i hi j hj => ?_⟩⟩
    subst hv
    rw [Nat.zero_add, h.cellAt (i * 13 + j) (by omega)]
    exact rqws_get j hj qs i hi
theorem own_len {w : World} {base e sz : Nat} {v : Value} {n : Nat} {xs : List Value} (h : w.ownsRow base e sz v n xs) : ∃ a c, v = .slice a n c ∧ n ≤ c ∧ (0 < n → ∃ g, a = some ⟨g, 0, none⟩ ∧ g < w.heap.size) := by
  rcases h.2 with ⟨rfl, h0⟩ | ⟨g, cap, cur, hv, hb, hh, hc, _⟩
  · exact ⟨none, 0, by rw [h0], by omega, fun hp => by omega⟩
  · exact ⟨_, cap, hv, hc, fun _ => ⟨g, rfl, ltB hh⟩⟩
/-- A step without its snapshots. -/
def noS (p : Sp) : Sp := { p with qs := fq p.qs }
theorem noS_ok (p : Sp) (h : p.ok) : (noS p).ok := ⟨h.conn, h.now, h.cut, fun q hq => h.qs q (List.mem_filter.1 hq).1⟩
theorem stvs_own {w : World} {base a c : Nat} {sps : List Sp} {vs : List Value} {m : Nat} (hm : m ≤ sps.length) (hl : vs.length = m) (h : w.ownsRow base 62 10 (.slice (some ⟨a, 0, none⟩) m c) m (stvs (sps.take m) vs)) (i : Nat) (hi : i < m) (x : Nat) (hx : x < 10) : w.cell? ⟨a, 0 + i * 10 + x, none⟩ = (stv sps[i] vs[i])[x]? := by
  rw [Nat.zero_add, h.cellAt (i * 10 + x) (by omega), stvs_get x hx _ _ i (by rw [List.length_take]; omega) (by omega)]
  simp only [List.getElem_take]

set_option maxRecDepth 100000 in
set_option maxHeartbeats 2000000 in
theorem counted3 (ao : Option Addr) (n cap : Nat) (sps : List Sp) (blk : Int) (w : World) (hn : sps.length = n) (hnc : n ≤ cap) (hn1 : n ≤ 1048576) (hql : ∀ p ∈ sps, p.qs.length ≤ 1048576 ∧ p.raw.size ≤ 1048576) (hok : ∀ p ∈ sps, p.ok)
    (hc : 0 < n → ∃ A o, ao = some ⟨A, o, none⟩ ∧ A < w.heap.size ∧ ∀ i (h : i < sps.length), ∃ v, (∀ x, x < 10 → w.cell? ⟨A, o + i * 10 + x, none⟩ = (stv sps[i] v)[x]?) ∧ RqAt w v sps[i].qs) :
    Calls Tryz.prog 3 #[.slice ao n cap, .int .u64 blk] w fun e w' => e = .returned (.bool true) ∧ Below w.heap.size w w' := by
  have H7 := hide (without7 ao n cap sps w hn hnc hn1 (fun p hp => (hql p hp).1) hc)
  have HQL := hide hql
  have HOK := hide hok
  have HN := hide hn
  clear hql hok hc hn
  go_enter Tryz.func3, Tryz.ntmps3
  go_wp2_with fail
  refine H7.out.mono ?_
  rintro e w1 ⟨s3, m, vs, rfl, hmn, I⟩
  obtain ⟨sa, sc, rfl, hmc, hsa⟩ := own_len I.own
  have hI := hide I
  have hsz := I.below.size
  clear I
  go_wp2_with fail
  have hmle : m ≤ sps.length := by rw [HN.out]; omega
  obtain ⟨V, hV⟩ : ∃ V, V = w1.alloc (.cells #[.int .i64 1] 3) := ⟨_, rfl⟩
  have hVb : Below w1.heap.size w1 V := by rw [hV]; exact (Below.refl _ w1).alloc (Nat.le_refl _) _
  have hVK : V.cell? ⟨w1.heap.size, 0, none⟩ = some (.int .i64 1) := by rw [hV]; exact cellB (heapNew _ _) 0
  have hVs : V.heap.size = w1.heap.size + 1 := by rw [hV]; simp
  rw [← hV]
  have hl : ((sps.take m).map noS).length = m := by rw [List.length_map, List.length_take]; omega
  have hcV : 0 < m → ∃ A o, sa = some ⟨A, o, none⟩ ∧ A < V.heap.size ∧ ∀ i (h : i < ((sps.take m).map noS).length), ∃ v, (∀ x, x < 10 → V.cell? ⟨A, o + i * 10 + x, none⟩ = (stv ((sps.take m).map noS)[i] v)[x]?) ∧ RqAt V v ((sps.take m).map noS)[i].qs := fun hp => by
    obtain ⟨g, rfl, hg⟩ := hsa hp
    refine ⟨g, 0, rfl, by omega, fun i h => ?_⟩
    have him : i < m := by omega
    have hiv : i < vs.length := by rw [hI.out.len]; exact him
    have e1 : ((sps.take m).map noS)[i] = noS sps[i] := by simp
    refine ⟨vs[i], fun x hx => ?_, ?_⟩
    · rw [hVb.cell (p := ⟨g, 0 + i * 10 + x, none⟩) hg, stvs_own hmle hI.out.len hI.out.own i him x hx, e1]
      rfl
    · rw [e1]
      have h1 := hI.out.rq i hiv (by omega)
      exact RqAt.of_own (own_keptE h1 (fun z hz => hVb.block z (own_ltE h1 hz).2))
  refine (plays6 sa m sc ((sps.take m).map noS) blk w1.heap.size V hl hmc (by omega) (fun p hp => ?_) (fun p hp => ?_) hVK (by omega) hcV).mono ?_
  · obtain ⟨p0, hp0, rfl⟩ := List.mem_map.1 hp
    have := HQL.out p0 (List.mem_of_mem_take hp0)
    exact ⟨Nat.le_trans (fq_le p0.qs) this.1, this.2⟩
  · obtain ⟨p0, hp0, rfl⟩ := List.mem_map.1 hp
    exact noS_ok p0 (HOK.out p0 (List.mem_of_mem_take hp0))
  rintro e w2 ⟨rfl, hb2⟩
  go_wp2
  go_ret
  exact ⟨rfl, (hI.out.below.trans (hVb.mono hsz)).trans (hb2.mono (by omega))⟩
end Go.Proofs.YtlamgpeiolfffaaGreatDoor

namespace Go.Proofs.YtlamgpeiolfffaaGreatDoor
open Go.RowKit

/-- A request whose own bytes are read as it is. -/
def Reads (q : Rq) : Prop := ∀ t, rdErr (q.enc ++ t) = 0 ∧ rdN (q.enc ++ t) = q.enc.length ∧ rdQ (q.enc ++ t) = q
theorem reads_def (k kd x y : Int) (hx : 0 ≤ x ∧ x ≤ 18446744073709551615) (hy : 0 ≤ y ∧ y ≤ 18446744073709551615) : Reads ⟨1, k, 0, 0, 0, 0, 0, 0, 0, kd, x, y, 0⟩ := by
  intro t
  have e : Rq.enc ⟨1, k, 0, 0, 0, 0, 0, 0, 0, kd, x, y, 0⟩ = [26, 1, k, 0, 0, 0, 0, 0, 0, 0, kd] ++ be8 x ++ be8 y := rfl
  have eE : rdErr (Rq.enc ⟨1, k, 0, 0, 0, 0, 0, 0, 0, kd, x, y, 0⟩ ++ t) = 0 := by
    rw [e]; simp [rdErr, be8, reqLen]; omega
  have hx := rd_be8 x hx.1 hx.2
  have hy := rd_be8 y hy.1 hy.2
  have eQ := rdQ_1 (Rq.enc ⟨1, k, 0, 0, 0, 0, 0, 0, 0, kd, x, y, 0⟩ ++ t) eE (by rw [e]; rfl)
  have ex : num8 (Rq.enc ⟨1, k, 0, 0, 0, 0, 0, 0, 0, kd, x, y, 0⟩ ++ t) 11 = x := by rw [e]; exact hx
  have ey : num8 (Rq.enc ⟨1, k, 0, 0, 0, 0, 0, 0, 0, kd, x, y, 0⟩ ++ t) 19 = y := by rw [e]; exact hy
  rw [ex, ey] at eQ
  refine ⟨eE, ?_, ?_⟩
  · unfold rdN; rw [if_pos eE, e]; simp [be8]
  · rw [eQ, e]; rfl
theorem reads_adm (k n : Int) (hn : 0 ≤ n ∧ n ≤ 18446744073709551615) : Reads ⟨2, k, 0, 0, 0, 0, 0, 0, 0, 0, 0, 0, n⟩ := by
  intro t
  have e : Rq.enc ⟨2, k, 0, 0, 0, 0, 0, 0, 0, 0, 0, 0, n⟩ = [17, 2, k, 0, 0, 0, 0, 0, 0, 0] ++ be8 n := rfl
  have eE : rdErr (Rq.enc ⟨2, k, 0, 0, 0, 0, 0, 0, 0, 0, 0, 0, n⟩ ++ t) = 0 := by
    rw [e]; simp [rdErr, be8, reqLen]; omega
  have hx := rd_be8 n hn.1 hn.2
  have eQ := rdQ_2 (Rq.enc ⟨2, k, 0, 0, 0, 0, 0, 0, 0, 0, 0, 0, n⟩ ++ t) eE (by rw [e]; rfl)
  have ex : num8 (Rq.enc ⟨2, k, 0, 0, 0, 0, 0, 0, 0, 0, 0, 0, n⟩ ++ t) 10 = n := by rw [e]; exact hx
  rw [ex] at eQ
  refine ⟨eE, ?_, ?_⟩
  · unfold rdN; rw [if_pos eE, e]; simp [be8]
  · rw [eQ, e]; rfl
theorem reads_qry (k : Int) : Reads ⟨3, k, 0, 0, 0, 0, 0, 0, 0, 0, 0, 0, 0⟩ := by
  intro t
  have e : Rq.enc ⟨3, k, 0, 0, 0, 0, 0, 0, 0, 0, 0, 0, 0⟩ = [9, 3, k, 0, 0, 0, 0, 0, 0, 0] := rfl
  have eE : rdErr (Rq.enc ⟨3, k, 0, 0, 0, 0, 0, 0, 0, 0, 0, 0, 0⟩ ++ t) = 0 := by
    rw [e]; simp [rdErr, reqLen]; omega
  have eQ := rdQ_3 (Rq.enc ⟨3, k, 0, 0, 0, 0, 0, 0, 0, 0, 0, 0, 0⟩ ++ t) eE (by rw [e]; exact Or.inl rfl)
  refine ⟨eE, ?_, ?_⟩
  · unfold rdN; rw [if_pos eE, e]; simp
  · rw [eQ, e]; rfl

theorem runL_enc (L : Ld) (q : Rq) (h : Reads q) (t : List Int) : runL L (q.enc ++ t) = ((runL (doM L q).1 t).1, (doM L q).2 :: (runL (doM L q).1 t).2.1, (runL (doM L q).1 t).2.2) := by
  obtain ⟨e1, e2, e3⟩ := h t
  rw [runL_step L _ e1, e2, e3, Int.toNat_natCast, List.drop_left]
theorem runL_nil (L : Ld) : runL L [] = (L, [], [], 1) := runL_stop L [] (by simp [rdErr])

def kK : Ky := ⟨107, 0, 0, 0, 0, 0, 0, 0⟩
def qDef (kd x y : Int) : Rq := ⟨1, 107, 0, 0, 0, 0, 0, 0, 0, kd, x, y, 0⟩
def qAdm (n : Int) : Rq := ⟨2, 107, 0, 0, 0, 0, 0, 0, 0, 0, 0, 0, n⟩
def qQk : Rq := ⟨3, 107, 0, 0, 0, 0, 0, 0, 0, 0, 0, 0, 0⟩
def qQj : Rq := ⟨3, 106, 0, 0, 0, 0, 0, 0, 0, 0, 0, 0, 0⟩
theorem do_def (kd x y : Int) (h : soundM kd x y) : doM ⟨0, 0, []⟩ (qDef kd x y) = (⟨0, 0, [(kK, ⟨kd, x, y, 0, 0⟩)]⟩, ⟨1, 0, 0⟩) := by
  unfold doM qDef
  rw [if_pos rfl, if_neg (by simpa using h), if_neg (by simp [fnd]), if_neg (by simp)]
  rfl
theorem do_qk (kd x y : Int) : doM ⟨0, 0, [(kK, ⟨kd, x, y, 0, 0⟩)]⟩ qQk = (⟨0, 0, [(kK, ⟨kd, x, y, 0, 0⟩)]⟩, ⟨1, 0, 0⟩) := by
  have hf : fnd qQk.key [(kK, (⟨kd, x, y, 0, 0⟩ : Qt))] = some ⟨kd, x, y, 0, 0⟩ := by simp [fnd, qQk, kK, Rq.key]
  have ht : turnM ⟨kd, x, y, 0, 0⟩ 0 = ⟨kd, x, y, 0, 0⟩ := by
    unfold turnM
    split
    · rfl
    · rw [if_pos (by simp)]
  unfold doM
  rw [if_neg (by simp [qQk]), if_neg (by simp [qQk]), if_pos (by simp [qQk])]
  simp only [hf, ht]
theorem do_qj (kd x y : Int) : doM ⟨0, 0, [(kK, ⟨kd, x, y, 0, 0⟩)]⟩ qQj = (⟨0, 0, [(kK, ⟨kd, x, y, 0, 0⟩)]⟩, ⟨4, 0, 0⟩) := by
  have hf : fnd qQj.key [(kK, (⟨kd, x, y, 0, 0⟩ : Qt))] = none := by simp [fnd, qQj, kK, Rq.key]
  unfold doM
  rw [if_neg (by simp [qQj]), if_neg (by simp [qQj]), if_pos (by simp [qQj])]
  simp only [hf]
theorem do_adm (T A n : Int) (z : Qt) : doM ⟨T, A, [(kK, z)]⟩ (qAdm n) = (⟨T, if (admM z T n).2.c = 2 then (A + n) % 18446744073709551616 else A, [(kK, (admM z T n).1)]⟩, (admM z T n).2) := by
  have hf : fnd (qAdm n).key [(kK, z)] = some z := by simp [fnd, qAdm, kK, Rq.key]
  have hu : ∀ z', upd (qAdm n).key z' [(kK, z)] = [(kK, z')] := fun z' => by simp [upd, qAdm, kK, Rq.key]
  unfold doM
  rw [if_neg (by simp [qAdm]), if_pos (by simp [qAdm])]
  simp only [hf, hu]
  rfl

/-- What a new ledger with a key says (P8, P11). -/
theorem opened_reckon (kd x y : Int) (h : soundM kd x y) (hx : 0 ≤ x ∧ x ≤ 18446744073709551615) (hy : 0 ≤ y ∧ y ≤ 18446744073709551615) :
    feedM ⟨0, 0, []⟩ ⟨[], false⟩ 0 (encQs [qDef kd x y, qQk, qQj]) = (⟨0, 0, [(kK, ⟨kd, x, y, 0, 0⟩)]⟩, ⟨[], false⟩, [⟨1, 0, 0⟩, ⟨1, 0, 0⟩, ⟨4, 0, 0⟩]) := by
  have e : encQs [qDef kd x y, qQk, qQj] = (qDef kd x y).enc ++ (qQk.enc ++ (qQj.enc ++ [])) := by simp [encQs]
  have hp : passM ⟨0, 0, []⟩ 0 = ⟨0, 0, []⟩ := rfl
  rw [feedM_good _ _ _ _ rfl, List.nil_append, e, hp, runL_enc _ (qDef kd x y) (reads_def 107 kd x y hx hy), do_def kd x y h, runL_enc _ qQk (reads_qry 107), do_qk, runL_enc _ qQj (reads_qry 106), do_qj, runL_nil]
  rfl
/-- What a ledger with that key says to an Admit. -/
theorem ask_reckon (T A at_ n : Int) (z : Qt) (hn : 0 ≤ n ∧ n ≤ 18446744073709551615) :
    feedM ⟨T, A, [(kK, z)]⟩ ⟨[], false⟩ at_ (encQs [qAdm n]) = (⟨if T < at_ then at_ else T, if (admM z (if T < at_ then at_ else T) n).2.c = 2 then (A + n) % 18446744073709551616 else A, [(kK, (admM z (if T < at_ then at_ else T) n).1)]⟩, ⟨[], false⟩, [(admM z (if T < at_ then at_ else T) n).2]) := by
  have e : encQs [qAdm n] = (qAdm n).enc ++ [] := by simp [encQs]
  have hp : passM ⟨T, A, [(kK, z)]⟩ at_ = ⟨if T < at_ then at_ else T, A, [(kK, z)]⟩ := rfl
  rw [feedM_good _ _ _ _ rfl, List.nil_append, e, hp, runL_enc _ (qAdm n) (reads_adm 107 n hn), do_adm, runL_nil]
  rfl
end Go.Proofs.YtlamgpeiolfffaaGreatDoor
