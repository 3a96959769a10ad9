import Derived.Test.YtlamgpeiolfffaaGreatDoorZy45
import Derived.Test.YtlamgpeiolfffaaGreatDoorZy41
import Derived.Test.YtlamgpeiolfffaaGreatDoorZy34
set_option linter.unusedSectionVars false
namespace Go.Proofs.YtlamgpeiolfffaaGreatDoor
open Go.RowKit
variable [dK] [iK]

def rlM (sps : List Sp) (i : Nat) : Nat := ((sps[i]?).map (fun p => p.qs.length)).getD 0
def rsM (sps : List Sp) (i : Nat) : Nat := ((sps[i]?).map (fun p => p.raw.size)).getD 0
theorem rlM_at (sps : List Sp) (i : Nat) (h : i < sps.length) : rlM sps i = sps[i].qs.length := by unfold rlM; rw [List.getElem?_eq_getElem h]; rfl
theorem rsM_at (sps : List Sp) (i : Nat) (h : i < sps.length) : rsM sps i = sps[i].raw.size := by unfold rsM; rw [List.getElem?_eq_getElem h]; rfl
theorem totM_le (rl rs : Nat → Nat) : ∀ (n i : Nat), i < n → 26 * rl i + rs i ≤ totM rl rs n
  | n + 1, i, h => by
    unfold totM
    rcases Nat.lt_or_ge i n with h1 | h1
    · have := totM_le rl rs n i h1
      omega
    · have e : i = n := by omega
      subst e
      omega
/-- A step with numbers that its fields can hold. -/
structure Sp.ok (p : Sp) : Prop where
  conn : -9223372036854775808 ≤ p.conn ∧ p.conn ≤ 9223372036854775807
  now : 0 ≤ p.now ∧ p.now ≤ 18446744073709551615
  cut : -9223372036854775808 ≤ p.cut ∧ p.cut ≤ 9223372036854775807
  qs : ∀ q ∈ p.qs, q.ok

theorem sim0 : Sim ⟨0, 0, []⟩ ⟨0, []⟩ := ⟨rfl, trivial, ⟨by decide, by decide, fun p hp => (by cases hp), fun p hp => (by cases hp), List.nodup_nil, by decide⟩, ⟨by decide, by decide, fun l hl => (by cases hl)⟩⟩

/-- The law and its host, as they begin. -/
theorem both0 {w w3 w5 : World} {hb db nb sb wb bb : Nat} {mb : Option Nat} {blk : Int} {v : Value} {tb : Nat → Nat} (H : HostAt w3 hb db nb sb mb blk ⟨0, 0, []⟩ (fun b => b = sb) w.heap.size (.slice none 0 0) 0 (fun _ => 0) (fun _ => ⟨[], false⟩)) (hw : w.heap.size ≤ w3.heap.size) (W : World) (hbb : bb = w3.heap.size) (hwb : wb = w3.heap.size + 1) (hW : W = (w3.alloc (.cells #[.slice none 0 0, .int .u64 0] 53)).alloc (.cells #[.pointer (some ⟨hb, 0, none⟩), .pointer (some ⟨bb, 0, none⟩), .slice none 0 0, .int .u64 blk, .bool false, .bool false, .int .u8 0, .int .u8 0, .int .u8 0, .int .u8 0, .int .u8 0, .int .u8 0, .int .u8 0, .int .u8 0, .int .u8 0, .int .u8 0, .int .u64 0, .int .u64 0, .int .u64 0, .int .u64 0, .int .u64 0, .int .u64 0, .int .u64 0] 60))
    (O : OpI W wb (fun v => #[.pointer (some ⟨hb, 0, none⟩), .pointer (some ⟨bb, 0, none⟩), v, .int .u64 blk, .bool false, .bool false, .int .u8 0, .int .u8 0, .int .u8 0, .int .u8 0, .int .u8 0, .int .u8 0, .int .u8 0, .int .u8 0, .int .u8 0, .int .u8 0, .int .u64 0, .int .u64 0, .int .u64 0, .int .u64 0, .int .u64 0, .int .u64 0, .int .u64 0]) 3 v tb w5) : ∃ kb kc, Both w5 w.heap.size hb db nb sb wb bb kb kc mb blk tb (fun _ => .slice none 0 0) (.slice none 0 0) ⟨0, 0, []⟩ (fun b => b = sb) (.slice none 0 0) 0 (fun _ => 0) (fun _ => ⟨[], false⟩) ⟨0, 0, []⟩ ⟨0, []⟩ (fun _ => ⟨[], false⟩) := by
  have hWs : W.heap.size = w3.heap.size + 2 := by rw [hW]; simp
  obtain ⟨kb, kc, hv, hk1, hk2⟩ := O.own.form (by decide)
  have hWk : ∀ b, b < w3.heap.size → w5.heap[b]? = w3.heap[b]? := fun b hb' => (O.keep.block b (by omega) (by omega)).trans (by rw [hW]; exact (heapOld _ _ (by rw [World.size_alloc]; omega)).trans (heapOld _ _ hb'))
  have hbk : w5.heap[bb]? = some (.cells #[.slice none 0 0, .int .u64 0] 53) := (O.keep.block bb (by omega) (by omega)).trans (by rw [hW, hbb]; exact (heapOld _ _ (by rw [World.size_alloc]; omega)).trans (heapNew _ _))
  have hsz := O.keep.size
  have hlt : ∀ b, HG hb db (fun b => b = sb) (.slice none 0 0) 0 (fun _ => 0) b → b < w3.heap.size := fun b h => H.lt b h
  refine ⟨kb, kc, ⟨H.kept (by omega) hWk, ⟨⟨_, by have := O.blk; rw [hv] at this; exact this⟩, ⟨hbk, World.ownsRow_nil _ _ _ _⟩, sim0, ?_, fun i hi => (O.st i hi).1, fun i hi => Or.inl ⟨rfl, Or.inl rfl⟩, O.inj, fun i hi h => absurd rfl h, ⟨by omega, by omega, fun i hi => by have := (O.st i hi).2; omega⟩, fun i hi => ⟨fun x hx => (by cases hx), by simp, fun _ => rfl⟩, by omega⟩, fun b h e => ?_, fun b h j hj => absurd hj (Nat.not_lt_zero _)⟩⟩
  · have h := O.own
    rw [hv] at h
    refine ⟨h.1, ?_⟩
    rcases h.2 with h | ⟨g, cap, cur, e1, e2, e3⟩
    · exact Or.inl h
    · exact Or.inr ⟨g, cap, cur, e1, by omega, e3⟩
  · have := hlt b e
    rcases h with h | h | h | h | ⟨i, hi, h⟩ | ⟨i, hi, h, _⟩
    · omega
    · omega
    · omega
    · simp [Value.ownBlock] at h
    · have := (O.st i hi).2; omega
    · exact h rfl

set_option maxRecDepth 100000 in
set_option maxHeartbeats 8000000 in
theorem plays6 (ao : Option Addr) (n cap : Nat) (sps : List Sp) (blk : Int) (K : Nat) (w : World) (hn : sps.length = n) (hnc : n ≤ cap) (hn1 : n ≤ 1048576) (hql : ∀ p ∈ sps, p.qs.length ≤ 1048576 ∧ p.raw.size ≤ 1048576) (hok : ∀ p ∈ sps, p.ok) (hK : w.cell? ⟨K, 0, none⟩ = some (.int .i64 1)) (hKl : K < w.heap.size)
    (hc : 0 < n → ∃ A o, ao = some ⟨A, o, none⟩ ∧ A < w.heap.size ∧ ∀ i (h : i < sps.length), ∃ v, (∀ x, x < 10 → w.cell? ⟨A, o + i * 10 + x, none⟩ = (stv sps[i] v)[x]?) ∧ RqAt w v sps[i].qs) :
    Calls Tryz.prog 6 #[.slice ao n cap, .int .u64 blk, .slice (some ⟨K, 0, none⟩) 1 1] w fun e w' => e = .returned (.bool true) ∧ Below w.heap.size w w' := by
  have H14 := hide (small14 ao n cap (rlM sps) (rsM sps) w hnc (by omega) (fun i hi => by rw [rlM_at sps i (by omega)]; have := (hql _ (List.getElem_mem (show i < sps.length by omega))).1; omega) (fun i hi => by rw [rsM_at sps i (by omega)]; have := (hql _ (List.getElem_mem (show i < sps.length by omega))).2; omega) (fun h => by
    obtain ⟨A, o, e, hA, hcc⟩ := hc h
    refine ⟨A, o, e, hA, fun i hi => ?_⟩
    have hil : i < sps.length := by omega
    obtain ⟨v, hv, la, lc, rfl, _⟩ := hcc i hil
    exact ⟨⟨la, lc, by rw [hv 3 (by omega), rlM_at sps i hil]; rfl⟩, sps[i].raw, by rw [hv 4 (by omega)]; rfl, (rsM_at sps i hil).symm⟩))
  have HC := hide hc
  have HN := hide hn
  have HOK := hide hok
  have HKC := hide hK
  clear hc hn hok hK hql
  go_enter Tryz.func6, Tryz.ntmps6
  go_wp2_with fail
  refine H14.out.mono ?_
  rintro e w1 ⟨⟨b, rfl, hsm⟩, hb1⟩
  have HSM := hide hsm
  have HB1 := hide hb1
  have hs1 := hb1.size
  clear hsm hb1
  cases b with
  | false =>
    go_wp2
    go_ret
    exact ⟨rfl, HB1.out⟩
  | true =>
    have hsm := HSM.out rfl
    have HST := hide hsm
    clear hsm HSM
    go_wp2_with fail
    refine (newhost15 blk _).mono ?_
    rintro e w2 ⟨nb, rfl, h1, h2, h3, h4, h5, h6⟩
    obtain ⟨hb, ehb⟩ : ∃ hb, hb = w1.heap.size + 2 := ⟨_, rfl⟩
    obtain ⟨db, edb⟩ : ∃ db, db = w1.heap.size + 1 := ⟨_, rfl⟩
    obtain ⟨mb, emb⟩ : ∃ mb, mb = w1.heap.size := ⟨_, rfl⟩
    rw [← edb, ← emb] at h2
    rw [← ehb, ← edb] at h1
    rw [← emb] at h3
    have HB2 := hide (HB1.out.trans (h6.mono hs1))
    have HSZ : Hid (w.heap.size ≤ mb ∧ mb < db ∧ db < hb ∧ hb < nb ∧ nb < w2.heap.size) := hide ⟨by omega, by omega, by omega, by omega, ltB h4⟩
    rw [← ehb]
    clear ehb edb emb h5 h6
    go_wp2_with fail
    refine (hostopen16 hb db nb (.map (some mb)) _ _ blk _ _ w2 h1 h2 ⟨_, rfl⟩ h4).mono ?_
    rintro e w3 ⟨sb, rfl, i1, i2, i3, i4, i5⟩
    have hz := HSZ.out
    have HB3 : Hid (Below w.heap.size w w3) := hide (HB2.out.trans (i5.below (by omega) (fun k hk => by omega)))
    have H2 : HostAt w3 hb db nb sb (some mb) blk ⟨0, 0, []⟩ (fun b => b = sb) w.heap.size (.slice none 0 0) 0 (fun _ => 0) (fun _ => ⟨[], false⟩) := by
      refine ⟨i2, i3, i4, fun i hi => absurd hi (Nat.not_lt_zero _), fun i j hi => absurd hi (Nat.not_lt_zero _), World.ownsRow_nil _ _ _ _, fun g hg hF => ?_, fun b hb' => ?_, fun _ _ => rfl⟩
      · rcases hg with h | h | h
        · omega
        · omega
        · simp [Value.ownBlock] at h
      · rcases hb' with h | h | h | h | ⟨i, hi, h⟩
        · omega
        · omega
        · omega
        · simp [Value.ownBlock] at h
        · omega
    have HH2 := hide H2
    clear h1 h2 h3 h4 i1 i2 i3 i4 i5 H2 hz
    go_wp2_with fail
    refine (is17 hb sb _ _ _ w3 HH2.out.hh).mono ?_
    rintro e w4 ⟨rfl, he4⟩
    rw [he4]
    clear he4
    go_wp2_with fail
    obtain ⟨bb, hbb⟩ : ∃ bb, bb = w3.heap.size := ⟨_, rfl⟩
    obtain ⟨wb, hwb⟩ : ∃ wb, wb = w3.heap.size + 1 := ⟨_, rfl⟩
    obtain ⟨W, hW⟩ : ∃ W, W = (w3.alloc (.cells #[.slice none 0 0, .int .u64 0] 53)).alloc (.cells #[.pointer (some ⟨hb, 0, none⟩), .pointer (some ⟨bb, 0, none⟩), .slice none 0 0, .int .u64 blk, .bool false, .bool false, .int .u8 0, .int .u8 0, .int .u8 0, .int .u8 0, .int .u8 0, .int .u8 0, .int .u8 0, .int .u8 0, .int .u8 0, .int .u8 0, .int .u64 0, .int .u64 0, .int .u64 0, .int .u64 0, .int .u64 0, .int .u64 0, .int .u64 0] 60) := ⟨_, rfl⟩
    rw [← hwb]
    rw [← hbb]
    rw [← hW]
    have hWb : W.heap[wb]? = some (.cells #[.pointer (some ⟨hb, 0, none⟩), .pointer (some ⟨bb, 0, none⟩), .slice none 0 0, .int .u64 blk, .bool false, .bool false, .int .u8 0, .int .u8 0, .int .u8 0, .int .u8 0, .int .u8 0, .int .u8 0, .int .u8 0, .int .u8 0, .int .u8 0, .int .u8 0, .int .u64 0, .int .u64 0, .int .u64 0, .int .u64 0, .int .u64 0, .int .u64 0, .int .u64 0] 60) := by rw [hW, hwb]; exact heapN (by simp)
    refine (open18 wb _ _ _ _ _ _ _ _ _ _ _ _ _ _ _ _ _ _ _ _ _ _ _ W hWb).mono ?_
    rintro e w5 ⟨rfl, v, tb, O⟩
    have hw3 := HB3.out.size
    obtain ⟨kb, kc, HB⟩ := both0 HH2.out hw3 W hbb hwb (by rw [hW]) O
    have hB5 : Below w.heap.size w w5 := HB3.out.trans ⟨O.keep.os.trans (by rw [hW]; rfl), O.keep.tape.trans (by rw [hW]; rfl), O.keep.output.trans (by rw [hW]; rfl), by have := O.keep.size; rw [hW] at this; simp at this; omega, fun b hb' => (O.keep.block b (by rw [hW]; simp; omega) (by omega)).trans (by rw [hW]; exact (heapOld _ _ (by rw [World.size_alloc]; omega)).trans (heapOld _ _ (by omega)))⟩
    have HBO := hide HB
    have HB5 := hide hB5
    clear HB hB5 O hWb hW hbb hwb HH2
    obtain ⟨base, hbase⟩ : ∃ base, base = w.heap.size := ⟨_, rfl⟩
    rw [← hbase] at HBO HB5
    have HBE := hide hbase
    go_wp2_with fail
    go_loopw [12] (fun s12 wr => ∃ i : Nat, i ≤ n ∧ s12 = .int .i64 i ∧ ∃ L F cv m cb c lv B rv, m ≤ 3 ∧ (m < 3 → ∀ i, c i = ⟨[], false⟩) ∧ Both wr base hb db nb sb wb bb kb kc (some mb) blk tb rv lv L F cv m cb c L B c ∧ Below base w wr) (fun s12 _ => n - (intOf s12).toNat)
    case atStart => exact ⟨0, Nat.zero_le _, rfl, _, _, _, _, _, _, _, _, _, by omega, fun _ _ => rfl, HBO.out, HB5.out⟩
    case round =>
      obtain ⟨i, hin, rfl, L, F, cv, m, cb, c, lv, B, rv, hm, hq, HBr, hbr⟩ := hrel
      obtain ⟨Y, rfl⟩ : ∃ Y, Y = wr := ⟨_, rfl⟩
      have HR := hide HBr
      have HBR := hide hbr
      have hYs := hbr.size
      have HQ := hide hq
      clear HBr hbr hq
      by_cases hlt : i < n
      · have hltI : (i : Int) < (n : Int) := by omega
        have hi0 : (0 : Int) ≤ (i : Int) := by omega
        have hil : i < sps.length := by rw [HN.out]; exact hlt
        obtain ⟨A, o, rfl, hA, hcc⟩ := HC.out (by omega)
        obtain ⟨v, hcell, hrq⟩ := hcc i hil
        obtain ⟨p, hp⟩ : ∃ p, p = sps[i] := ⟨_, rfl⟩
        rw [← hp] at hcell hrq
        have hpok : p.ok := hp ▸ HOK.out _ (List.getElem_mem hil)
        have htot := totM_le (rlM sps) (rsM sps) n i hlt
        rw [rlM_at sps i hil, rsM_at sps i hil, ← hp] at htot
        have hsm := HST.out
        have hql : p.qs.length ≤ 1000 := by omega
        have hraw : p.raw.size ≤ 20000 := by omega
        obtain ⟨ra, rc, rfl, hrc, hrcell⟩ := hrq
        have hk : ∀ x, x < 10 → Y.cell? ⟨A, o + i * 10 + x, none⟩ = (stv p (.slice ra p.qs.length rc))[x]? := fun x hx => (HBR.out.cell (p := ⟨A, o + i * 10 + x, none⟩) (by show A < base; omega)).trans (hcell x hx)
        have k0 := hk 0 (by omega)
        have k1 := hk 1 (by omega)
        have k2 := hk 2 (by omega)
        have k3 := hk 3 (by omega)
        have k4 := hk 4 (by omega)
        have k5 := hk 5 (by omega)
        have k6 := hk 6 (by omega)
        have k7 := hk 7 (by omega)
        have k8 := hk 8 (by omega)
        have k9 := hk 9 (by omega)
        rw [Nat.add_zero] at k0
        have hrqY : RqAt Y (.slice ra p.qs.length rc) p.qs := ⟨ra, rc, rfl, hrc, fun h => by
          obtain ⟨A2, o2, e, hA2, h2⟩ := hrcell h
          exact ⟨A2, o2, e, by omega, fun k hk j hj => (HBR.out.cell (p := ⟨A2, o2 + k * 13 + j, none⟩) (by show A2 < base; omega)).trans (h2 k hk j hj)⟩⟩
        obtain ⟨ql, hqe⟩ : ∃ ql, ql = p.qs.length := ⟨_, rfl⟩
        rw [← hqe] at hrqY k0 k1 k2 k3 k4 k5 k6 k7 k8 k9 hql
        have HRQ := hide hrqY
        have HPK := hide hpok
        have HQE := hide hqe
        have HPE := hide hp
        have HRAW := hide hraw
        have HQL := hide hql
        clear hk hcell hrcell hcc hrqY hpok htot hsm hp hrc hqe hraw hql
        go_wp2_with fail
        obtain ⟨Q, hQ⟩ : ∃ Q, Q = Y.heap.size := ⟨_, rfl⟩
        obtain ⟨V, hV⟩ : ∃ V, V = Y.alloc (.cells #[.int .i64 p.kind, .int .i64 p.conn, .int .u64 p.now, .slice ra ql rc, .string p.raw, .int .i64 p.cut, .int .i64 p.left, .int .i64 p.full, .int .i64 p.kept, .int .i64 p.part] 62) := ⟨_, rfl⟩
        rw [← hQ, ← hV]
        have hVb : Below Y.heap.size Y V := by rw [hV]; exact (Below.refl _ Y).alloc (Nat.le_refl _) _
        have hVQ : V.heap[Q]? = some (.cells #[.int .i64 p.kind, .int .i64 p.conn, .int .u64 p.now, .slice ra ql rc, .string p.raw, .int .i64 p.cut, .int .i64 p.left, .int .i64 p.full, .int .i64 p.kept, .int .i64 p.part] 62) := by rw [hV, hQ]; exact heapNew _ _
        have hVs : V.heap.size = Q + 1 := by rw [hV, hQ]; simp
        have hKV : V.cell? ⟨K, 0, none⟩ = some (.int .i64 1) := (hVb.cell (p := ⟨K, 0, none⟩) (by show K < Y.heap.size; omega)).trans ((HBR.out.cell (p := ⟨K, 0, none⟩) (by show K < base; omega)).trans HKC.out)
        have hKQ : K < V.heap.size := by omega
        have HVB := hide hVb
        have HVQ := hide hVQ
        have HKV := hide hKV
        have HQQ := hide hQ
        clear hV hVb hVQ hKV k0 k1 k2 k3 k4 k5 k6 k7 k8 k9 hQ
        go_loopw [14, 15] (fun s14 s15 X => ∃ j : Nat, j ≤ 1 ∧ s15 = .int .i64 j ∧ s14 = .bool (decide (j = 1 ∧ p.kind = 1)) ∧ Below V.heap.size V X) (fun _ s15 _ => 1 - (intOf s15).toNat)
        case atStart => exact ⟨0, by omega, rfl, by simp, Below.refl _ _⟩
        case round =>
          obtain ⟨j, hj1, rfl, rfl, hX⟩ := hrel
          obtain ⟨X, rfl⟩ : ∃ X, X = wr := ⟨_, rfl⟩
          have hXQ := (hX.block Q (by omega)).trans HVQ.out
          have hXK : X.cell? ⟨K, 0, none⟩ = some (.int .i64 1) := (hX.cell (p := ⟨K, 0, none⟩) hKQ).trans HKV.out
          have q0 := cellB hXQ 0
          have hXs := hX.size
          have HX := hide hX
          clear hX
          by_cases hj0 : j = 0
          · subst hj0
            have e0 : decide ((0 : Nat) = 1 ∧ p.kind = 1) = false := by simp
            rw [e0]
            have HXQ := hide hXQ
            clear hXQ e0
            go_upto_region 19 with fail
            go_region
            all_goals go_wp2
            all_goals go_roundw
            all_goals first
              | exact ⟨1, by omega, by go_num, by simp; rfl, HX.out.drew⟩
              | (simp [intOf])
          · obtain rfl : j = 1 := by omega
            by_cases hkd : p.kind = 1
            · have e1 : decide ((1 : Nat) = 1 ∧ p.kind = 1) = true := by simp [hkd]
              rw [e1]
              have q1 := cellB hXQ 1
              have q2 := cellB hXQ 2
              have q3 := cellB hXQ 3
              have q4 := cellB hXQ 4
              have q5 := cellB hXQ 5
              have q6 := cellB hXQ 6
              have q7 := cellB hXQ 7
              have q8 := cellB hXQ 8
              have q9 := cellB hXQ 9
              have HYX : Hid (Below Y.heap.size Y X) := hide (HVB.out.trans (HX.out.mono (by have := HQQ.out; omega)))
              have HRX := hide (HR.out.kept HYX.out)
              have hrX : RqAt X (.slice ra ql rc) p.qs := by
                obtain ⟨a2, c2, e2, hc2, h2⟩ := HRQ.out
                refine ⟨a2, c2, e2, hc2, fun h => ?_⟩
                obtain ⟨A2, o2, e3, hA2, h3⟩ := h2 h
                exact ⟨A2, o2, e3, by have := HYX.out.size; omega, fun k hk j hj => (HYX.out.cell (p := ⟨A2, o2 + k * 13 + j, none⟩) hA2).trans (h3 k hk j hj)⟩
              have H19 := hide (feed19 base hb db nb sb wb bb kb kc (some mb) blk tb rv lv L F cv m cb c B p (.slice ra ql rc) X HRX.out hm HQ.out hrX (by have := HQL.out; have := HQE.out; omega) HPK.out.qs HRAW.out HPK.out.conn.1 HPK.out.conn.2 HPK.out.now.1 HPK.out.now.2 HPK.out.cut.1 HPK.out.cut.2)
              have HKD := hide hkd
              have hkd' : (p.kind == 1) = true := by simp [hkd]
              clear hrX hXQ e1 hkd
              go_wp2_with fail
              refine H19.out.mono ?_
              rintro e w6 ⟨rfl, hsp⟩
              have HSP := hide hsp
              clear hsp
              go_wp2
              go_roundw
              case rel =>
                obtain ⟨L', F', cv', cb', c', lv', B', rv', g1, g2⟩ := HSP.out
                exact ⟨i + 1, by omega, by go_num, L', F', cv', 3, cb', c', lv', B', rv', Nat.le_refl _, fun h => absurd h (by omega), g1, (HBR.out.trans (HYX.out.mono (by omega))).trans g2⟩
              case measure => simp [intOf]; omega
            · have e1 : decide ((1 : Nat) = 1 ∧ p.kind = 1) = false := by simp [hkd]
              rw [e1]
              have HYX : Hid (Below Y.heap.size Y X) := hide (HVB.out.trans (HX.out.mono (by have := HQQ.out; omega)))
              have HRX := hide (HR.out.kept HYX.out)
              clear hXQ e1 hkd
              go_wp2
              go_roundw
              case rel => exact ⟨i + 1, by omega, by go_num, L, F, cv, m, cb, c, lv, B, rv, hm, HQ.out, HRX.out, HBR.out.trans (HYX.out.mono (by omega))⟩
              case measure => simp [intOf]; omega
      · have hltI : ¬ (i : Int) < (n : Int) := by omega
        go_wp2
        go_ret
        exact ⟨rfl, HBE.out ▸ HBR.out⟩

end Go.Proofs.YtlamgpeiolfffaaGreatDoor

namespace Go.Proofs.YtlamgpeiolfffaaGreatDoor
open Go.RowKit
variable [dK] [iK]

theorem RqAt.of_own {w : World} {base : Nat} {v : Value} {qs : List Rq} (h : w.ownsRow base 58 13 v qs.length (rqws qs)) : RqAt w v qs := by
  rcases h.2 with ⟨rfl, h0⟩ | ⟨g, cap, cur, hv, hb, hh, hc, _⟩
  · exact ⟨none, 0, by rw [h0], by omega, fun hp => by omega⟩
  · refine ⟨some ⟨g, 0, none⟩, cap, hv, hc, fun hp => ⟨g, 0, rfl, ltB hh, fun i hi j hj => ?_⟩⟩
    subst hv
    rw [Nat.zero_add, h.cellAt (i * 13 + j) (by omega)]
    exact rqws_get j hj qs i hi
theorem own_len {w : World} {base e sz : Nat} {v : Value} {n : Nat} {xs : List Value} (h : w.ownsRow base e sz v n xs) : ∃ a c, v = .slice a n c ∧ n ≤ c ∧ (0 < n → ∃ g, a = some ⟨g, 0, none⟩ ∧ g < w.heap.size) := by
  rcases h.2 with ⟨rfl, h0⟩ | ⟨g, cap, cur, hv, hb, hh, hc, _⟩
  · exact ⟨none, 0, by rw [h0], by omega, fun hp => by omega⟩
  · exact ⟨_, cap, hv, hc, fun _ => ⟨g, rfl, ltB hh⟩⟩
/-- A step without its snapshots. -/
def noS (p : Sp) : Sp := { p with qs := fq p.qs }
theorem noS_ok (p : Sp) (h : p.ok) : (noS p).ok := ⟨h.conn, h.now, h.cut, fun q hq => h.qs q (List.mem_filter.1 hq).1⟩
theorem stvs_own {w : World} {base a c : Nat} {sps : List Sp} {vs : List Value} {m : Nat} (hm : m ≤ sps.length) (hl : vs.length = m) (h : w.ownsRow base 62 10 (.slice (some ⟨a, 0, none⟩) m c) m (stvs (sps.take m) vs)) (i : Nat) (hi : i < m) (x : Nat) (hx : x < 10) : w.cell? ⟨a, 0 + i * 10 + x, none⟩ = (stv sps[i] vs[i])[x]? := by
  rw [Nat.zero_add, h.cellAt (i * 10 + x) (by omega), stvs_get x hx _ _ i (by rw [List.length_take]; omega) (by omega)]
  simp only [List.getElem_take]

set_option maxRecDepth 100000 in
set_option maxHeartbeats 2000000 in
theorem counted3 (ao : Option Addr) (n cap : Nat) (sps : List Sp) (blk : Int) (w : World) (hn : sps.length = n) (hnc : n ≤ cap) (hn1 : n ≤ 1048576) (hql : ∀ p ∈ sps, p.qs.length ≤ 1048576 ∧ p.raw.size ≤ 1048576) (hok : ∀ p ∈ sps, p.ok)
    (hc : 0 < n → ∃ A o, ao = some ⟨A, o, none⟩ ∧ A < w.heap.size ∧ ∀ i (h : i < sps.length), ∃ v, (∀ x, x < 10 → w.cell? ⟨A, o + i * 10 + x, none⟩ = (stv sps[i] v)[x]?) ∧ RqAt w v sps[i].qs) :
    Calls Tryz.prog 3 #[.slice ao n cap, .int .u64 blk] w fun e w' => e = .returned (.bool true) ∧ Below w.heap.size w w' := by
  have H7 := hide (without7 ao n cap sps w hn hnc hn1 (fun p hp => (hql p hp).1) hc)
  have HQL := hide hql
  have HOK := hide hok
  have HN := hide hn
  clear hql hok hc hn
  go_enter Tryz.func3, Tryz.ntmps3
  go_wp2_with fail
  refine H7.out.mono ?_
  rintro e w1 ⟨s3, m, vs, rfl, hmn, I⟩
  obtain ⟨sa, sc, rfl, hmc, hsa⟩ := own_len I.own
  have hI := hide I
  have hsz := I.below.size
  clear I
  go_wp2_with fail
  have hmle : m ≤ sps.length := by rw [HN.out]; omega
  obtain ⟨V, hV⟩ : ∃ V, V = w1.alloc (.cells #[.int .i64 1] 3) := ⟨_, rfl⟩
  have hVb : Below w1.heap.size w1 V := by rw [hV]; exact (Below.refl _ w1).alloc (Nat.le_refl _) _
  have hVK : V.cell? ⟨w1.heap.size, 0, none⟩ = some (.int .i64 1) := by rw [hV]; exact cellB (heapNew _ _) 0
  have hVs : V.heap.size = w1.heap.size + 1 := by rw [hV]; simp
  rw [← hV]
  have hl : ((sps.take m).map noS).length = m := by rw [List.length_map, List.length_take]; omega
  have hcV : 0 < m → ∃ A o, sa = some ⟨A, o, none⟩ ∧ A < V.heap.size ∧ ∀ i (h : i < ((sps.take m).map noS).length), ∃ v, (∀ x, x < 10 → V.cell? ⟨A, o + i * 10 + x, none⟩ = (stv ((sps.take m).map noS)[i] v)[x]?) ∧ RqAt V v ((sps.take m).map noS)[i].qs := fun hp => by
    obtain ⟨g, rfl, hg⟩ := hsa hp
    refine ⟨g, 0, rfl, by omega, fun i h => ?_⟩
    have him : i < m := by omega
    have hiv : i < vs.length := by rw [hI.out.len]; exact him
    have e1 : ((sps.take m).map noS)[i] = noS sps[i] := by simp
    refine ⟨vs[i], fun x hx => ?_, ?_⟩
    · rw [hVb.cell (p := ⟨g, 0 + i * 10 + x, none⟩) hg, stvs_own hmle hI.out.len hI.out.own i him x hx, e1]
      rfl
    · rw [e1]
      have h1 := hI.out.rq i hiv (by omega)
      exact RqAt.of_own (own_keptE h1 (fun z hz => hVb.block z (own_ltE h1 hz).2))
  refine (plays6 sa m sc ((sps.take m).map noS) blk w1.heap.size V hl hmc (by omega) (fun p hp => ?_) (fun p hp => ?_) hVK (by omega) hcV).mono ?_
  · obtain ⟨p0, hp0, rfl⟩ := List.mem_map.1 hp
    have := HQL.out p0 (List.mem_of_mem_take hp0)
    exact ⟨Nat.le_trans (fq_le p0.qs) this.1, this.2⟩
  · obtain ⟨p0, hp0, rfl⟩ := List.mem_map.1 hp
    exact noS_ok p0 (HOK.out p0 (List.mem_of_mem_take hp0))
  rintro e w2 ⟨rfl, hb2⟩
  go_wp2
  go_ret
  exact ⟨rfl, (hI.out.below.trans (hVb.mono hsz)).trans (hb2.mono (by omega))⟩
end Go.Proofs.YtlamgpeiolfffaaGreatDoor

namespace Go.Proofs.YtlamgpeiolfffaaGreatDoor
open Go.ChangeShapes Go.WideShapes Go.ChangeAt Go.RowKit Go.Joins
variable [dK] [iK]

theorem bulk_one {H : Type} (d : DataW H) : 1 ≤ Rows.uptoBulk d := by
  cases d with
  | lit l => cases l <;> simp [Rows.uptoBulk]
  | nil => simp [Rows.uptoBulk]
  | ptr d => simp [Rows.uptoBulk]
  | slice a b => simp [Rows.uptoBulk]
  | agg a => simp [Rows.uptoBulk]
  | iface a b => simp [Rows.uptoBulk]
  | map a => simp [Rows.uptoBulk]
  | held a => simp [Rows.uptoBulk]
theorem bulk_mem {H : Type} {d : DataW H} : ∀ {l : List (DataW H)}, d ∈ l → Rows.uptoBulk d ≤ Rows.uptoBulkAll l
  | x :: r, h => by
    simp only [Rows.uptoBulkAll]
    rcases List.mem_cons.1 h with rfl | h
    · omega
    · have := bulk_mem h; omega
theorem bulk_len {H : Type} : ∀ (l : List (DataW H)), l.length ≤ Rows.uptoBulkAll l
  | [] => by simp
  | x :: r => by have := bulk_len r; have := bulk_one x; simp only [Rows.uptoBulkAll, List.length_cons]; omega
theorem trod_struct10 {H : Type} {enc : TypeId × Value → H} {P : Program} {w : World} {base : Nat} {spare : Nat → Bool} {held : Bool} {t : TypeId} {f0 f1 f2 f3 f4 f5 f6 f7 f8 f9 : Field} {fuel : Nat} {cs : List Value} {x : DataW H × List MemPlace} (ht : P.underlying t = some (.struct #[f0, f1, f2, f3, f4, f5, f6, f7, f8, f9])) (h : DataW.trod enc P w base spare held fuel t cs = some x) :
    ∃ y0 y1 y2 y3 y4 y5 y6 y7 y8 y9 n, x.1 = .agg [y0.1, y1.1, y2.1, y3.1, y4.1, y5.1, y6.1, y7.1, y8.1, y9.1] ∧ cs.length = P.cellsOf t ∧
      DataW.trod enc P w base spare held n f0.type ((cs.drop f0.offset).take (P.cellsOf f0.type)) = some y0 ∧ DataW.trod enc P w base spare held n f1.type ((cs.drop f1.offset).take (P.cellsOf f1.type)) = some y1 ∧
      DataW.trod enc P w base spare held n f2.type ((cs.drop f2.offset).take (P.cellsOf f2.type)) = some y2 ∧ DataW.trod enc P w base spare held n f3.type ((cs.drop f3.offset).take (P.cellsOf f3.type)) = some y3 ∧
      DataW.trod enc P w base spare held n f4.type ((cs.drop f4.offset).take (P.cellsOf f4.type)) = some y4 ∧ DataW.trod enc P w base spare held n f5.type ((cs.drop f5.offset).take (P.cellsOf f5.type)) = some y5 ∧
      DataW.trod enc P w base spare held n f6.type ((cs.drop f6.offset).take (P.cellsOf f6.type)) = some y6 ∧ DataW.trod enc P w base spare held n f7.type ((cs.drop f7.offset).take (P.cellsOf f7.type)) = some y7 ∧
      DataW.trod enc P w base spare held n f8.type ((cs.drop f8.offset).take (P.cellsOf f8.type)) = some y8 ∧ DataW.trod enc P w base spare held n f9.type ((cs.drop f9.offset).take (P.cellsOf f9.type)) = some y9 := by
  obtain ⟨xs, n, _, rfl, hl, hlen, hf⟩ := DataW.trod_struct ht h
  match xs, hlen with
  | [y0, y1, y2, y3, y4, y5, y6, y7, y8, y9], _ => exact ⟨y0, y1, y2, y3, y4, y5, y6, y7, y8, y9, n, by simp, hl, by simpa using hf 0 f0 rfl, by simpa using hf 1 f1 rfl, by simpa using hf 2 f2 rfl, by simpa using hf 3 f3 rfl, by simpa using hf 4 f4 rfl, by simpa using hf 5 f5 rfl, by simpa using hf 6 f6 rfl, by simpa using hf 7 f7 rfl, by simpa using hf 8 f8 rfl, by simpa using hf 9 f9 rfl⟩
theorem Tryz.cells62 : Tryz.prog.cellsOf 62 = 10 := by kernel_rfl
theorem Tryz.cells3' : Tryz.prog.cellsOf 3 = 1 := by kernel_rfl
theorem Tryz.cells9' : Tryz.prog.cellsOf 9 = 1 := by kernel_rfl
theorem Tryz.cells28' : Tryz.prog.cellsOf 28 = 1 := by kernel_rfl
theorem i64_of {H : Type} {enc : TypeId × Value → H} {W : World} {base n : Nat} {spare : Nat → Bool} {held : Bool} {c : Value} {x : DataW H × List MemPlace} (h : DataW.trod enc Tryz.prog W base spare held n 3 [c] = some x) : ∃ a, c = .int .i64 a ∧ -9223372036854775808 ≤ a ∧ a ≤ 9223372036854775807 := by
  obtain ⟨a, e, _, wa⟩ := DataW.trod_int Tryz.underlying3 h
  have hb := bounds_i64 wa
  simp at e
  exact ⟨a, e, hb.1, by omega⟩
theorem list10 {cs : List Value} (h : cs.length = 10) : ∃ c0 c1 c2 c3 c4 c5 c6 c7 c8 c9, cs = [c0, c1, c2, c3, c4, c5, c6, c7, c8, c9] := by
  match cs, h with
  | [c0, c1, c2, c3, c4, c5, c6, c7, c8, c9], _ => exact ⟨c0, c1, c2, c3, c4, c5, c6, c7, c8, c9, rfl⟩

set_option maxRecDepth 100000 in
/-- The requests of a step. -/
theorem reqs_of {H : Type} {enc : TypeId × Value → H} {W : World} {base fuel : Nat} {spare : Nat → Bool} {held : Bool} {c : Value} {x : DataW H × List MemPlace} (hf : DataW.trod enc Tryz.prog W base spare held fuel 28 [c] = some x) :
    ∃ qs : List Rq, RqAt W c qs ∧ (∀ q ∈ qs, q.ok) ∧ qs.length ≤ Rows.uptoBulk x.1 := by
  rcases Deep.open_slice Tryz.underlying28 hf with ⟨e, _⟩ | ⟨a', len, cap, m, n, D, Pl, e, hb, hlc, hcm, hm, hx, hel⟩
  · simp at e
    subst e
    exact ⟨[], ⟨none, 0, rfl, by simp, fun h => (by simp at h)⟩, fun q hq => (by cases hq), by simp⟩
  · simp at e
    subst e
    have hlm : len ≤ m := by rw [hm]; split <;> omega
    rw [Tryz.cells28] at hel
    have hbk : len ≤ Rows.uptoBulk x.1 := by
      rw [hx]
      simp only [Rows.uptoBulk]
      have := bulk_len ((List.range len).map D)
      simp at this
      omega
    have each : ∀ i, i < len → ∃ q : Rq, q.ok ∧ W.cells? base (a'.add (i * 13)) 13 = some (rqcl q) := by
      intro i hi
      obtain ⟨cs, h1, h2⟩ := hel i (by omega)
      obtain ⟨q, h3, rfl⟩ := req_of (World.cells?_some h1).2.1 h2
      exact ⟨q, h3.1, h1⟩
    rcases Nat.eq_zero_or_pos len with h0 | hp
    · subst h0
      exact ⟨[], ⟨some a', cap, rfl, by simp, fun h => (by simp at h)⟩, fun q hq => (by cases hq), by simp⟩
    · have hchoose : ∃ Q : Nat → Rq, ∀ i, i < len → (Q i).ok ∧ W.cells? base (a'.add (i * 13)) 13 = some (rqcl (Q i)) := by
        refine ⟨fun i => if h : i < len then (each i h).choose else Rq.zero, fun i hi => ?_⟩
        dsimp only
        rw [dif_pos hi]
        exact (each i hi).choose_spec
      obtain ⟨Q, hQ⟩ := hchoose
      have hc : ∀ i, i < len → ∀ j, j < 13 → W.cell? ((a'.add (i * 13)).add j) = (rqcl (Q i))[j]? := fun i hi j hj => (World.cells?_some (hQ i hi).2).2.2 j hj
      have hsp : a'.spot = none := by
        have := hc 0 hp 0 (by omega)
        exact World.cell?_spot (v := .int .u8 (Q 0).op) (by simpa [Addr.add] using this)
      obtain ⟨A, o, sp⟩ := a'
      simp at hsp
      subst hsp
      refine ⟨(List.range len).map Q, ⟨some ⟨A, o, none⟩, cap, by simp, by simpa using hlc, fun _ => ⟨A, o, rfl, World.cells?_block (hQ 0 hp).2 (by omega), fun i hi j hj => ?_⟩⟩, fun q hq => ?_, by simpa using hbk⟩
      · have hi' : i < len := by simpa using hi
        have := hc i hi' j hj
        rw [Deep.add_add, Addr.add_lit] at this
        rw [Nat.add_assoc, this]
        simp
      · obtain ⟨i, hi, rfl⟩ := List.mem_map.1 hq
        exact (hQ i (List.mem_range.1 hi)).1

set_option maxRecDepth 100000 in
/-- The cells of a step. -/
theorem step_of {H : Type} {enc : TypeId × Value → H} {W : World} {base fuel : Nat} {spare : Nat → Bool} {held : Bool} {cs : List Value} {x : DataW H × List MemPlace}
    (hl : cs.length = 10) (hf : DataW.trod enc Tryz.prog W base spare held fuel 62 cs = some x) : ∃ (p : Sp) (v : Value), p.ok ∧ p.qs.length ≤ Rows.uptoBulk x.1 ∧ p.raw.size ≤ Rows.uptoBulk x.1 ∧ cs = stv p v ∧ RqAt W v p.qs := by
  obtain ⟨c0, c1, c2, c3, c4, c5, c6, c7, c8, c9, rfl⟩ := list10 hl
  obtain ⟨y0, y1, y2, y3, y4, y5, y6, y7, y8, y9, n, hx, _, t0, t1, t2, t3, t4, t5, t6, t7, t8, t9⟩ := trod_struct10 Tryz.underlying62 hf
  simp only [Tryz.cells3', Tryz.cells9', Tryz.cells28', Tryz.cells24] at t0 t1 t2 t3 t4 t5 t6 t7 t8 t9
  obtain ⟨kd, rfl, _, _⟩ := i64_of (c := c0) t0
  obtain ⟨cn, rfl, cn1, cn2⟩ := i64_of (c := c1) t1
  obtain ⟨nw, rfl, nw1, nw2⟩ := u64_of (c := c2) t2
  obtain ⟨qs, hq1, hq2, hq3⟩ := reqs_of (c := c3) t3
  obtain ⟨s, hs, hy4, _⟩ := DataW.trod_string Tryz.underlying9 t4
  obtain rfl : c4 = .string s := by simpa using hs
  obtain ⟨ct, rfl, ct1, ct2⟩ := i64_of (c := c5) t5
  obtain ⟨lf, rfl, _, _⟩ := i64_of (c := c6) t6
  obtain ⟨fl, rfl, _, _⟩ := i64_of (c := c7) t7
  obtain ⟨kp, rfl, _, _⟩ := i64_of (c := c8) t8
  obtain ⟨pt, rfl, _, _⟩ := i64_of (c := c9) t9
  have b3 : Rows.uptoBulk y3.1 ≤ Rows.uptoBulk x.1 := by
    rw [hx]
    simp only [Rows.uptoBulk]
    have := bulk_mem (d := y3.1) (l := [y0.1, y1.1, y2.1, y3.1, y4.1, y5.1, y6.1, y7.1, y8.1, y9.1]) (by simp)
    omega
  have b4 : Rows.uptoBulk y4.1 ≤ Rows.uptoBulk x.1 := by
    rw [hx]
    simp only [Rows.uptoBulk]
    have := bulk_mem (d := y4.1) (l := [y0.1, y1.1, y2.1, y3.1, y4.1, y5.1, y6.1, y7.1, y8.1, y9.1]) (by simp)
    omega
  have b5 : s.size + 1 = Rows.uptoBulk y4.1 := by rw [hy4, Rows.uptoBulk, Array.length_toList]; rfl
  exact ⟨⟨kd, cn, nw, qs, s, ct, lf, fl, kp, pt⟩, c3, ⟨⟨cn1, cn2⟩, ⟨nw1, nw2⟩, ⟨ct1, ct2⟩, hq2⟩, Nat.le_trans hq3 b3, by show s.size ≤ _; omega, rfl, hq1⟩

set_option maxRecDepth 100000 in
/-- A script that comes in. -/
theorem open_steps {H : Type} {enc : TypeId × Value → H} {W : World} {r : Reach} {b0 base : Nat} {spare : Nat → Bool} {held : Bool} {v : Value} {d : DataW H} {pl : List MemPlace}
    (hv : Value.okWide Tryz.prog W r b0 22 v) (h : DataW.Trod enc Tryz.prog W base spare held 22 v d pl) : ∃ ao n cap, v = .slice ao n cap ∧ n ≤ cap ∧ n ≤ Rows.uptoBulk d ∧ ∃ sps : List Sp, sps.length = n ∧ (∀ p ∈ sps, p.ok ∧ p.qs.length ≤ Rows.uptoBulk d ∧ p.raw.size ≤ Rows.uptoBulk d) ∧
      (0 < n → ∃ A o, ao = some ⟨A, o, none⟩ ∧ A < W.heap.size ∧ ∀ i (h : i < sps.length), ∃ v, (∀ x, x < 10 → W.cell? ⟨A, o + i * 10 + x, none⟩ = (stv sps[i] v)[x]?) ∧ RqAt W v sps[i].qs) := by
  obtain ⟨a, len, cap, rfl⟩ := okWide_slice Tryz.underlying22 hv
  obtain ⟨fuel, hf⟩ := h
  have hf' : DataW.trod enc Tryz.prog W base spare held fuel 22 [.slice a len cap] = some (d, pl) := by simpa [Value.cells] using hf
  rcases Deep.open_slice Tryz.underlying22 hf' with ⟨e, _⟩ | ⟨a', len', cap', m, n, D, Pl, e, hb, hlc, hcm, hm, hx, hel⟩
  · simp at e
    obtain ⟨rfl, rfl, rfl⟩ := e
    exact ⟨none, 0, 0, rfl, by omega, by omega, [], rfl, fun p hp => (by cases hp), fun h => (by omega)⟩
  · simp at e
    obtain ⟨rfl, rfl, rfl⟩ := e
    have hlm : len ≤ m := by rw [hm]; split <;> omega
    rw [Tryz.cells62] at hel
    have hd : d = .slice ((List.range len).map D) ((List.range (m - len)).map fun j => D (len + j)) := congrArg Prod.fst hx
    have hbk : len ≤ Rows.uptoBulk d := by
      rw [hd]
      simp only [Rows.uptoBulk]
      have := bulk_len ((List.range len).map D)
      simp at this
      omega
    have hbi : ∀ i, i < len → Rows.uptoBulk (D i) ≤ Rows.uptoBulk d := fun i hi => by
      rw [hd]
      simp only [Rows.uptoBulk]
      have := bulk_mem (d := D i) (l := (List.range len).map D) (List.mem_map.2 ⟨i, List.mem_range.2 hi, rfl⟩)
      omega
    have each : ∀ i, i < len → ∃ pv : Sp × Value, (pv.1.ok ∧ pv.1.qs.length ≤ Rows.uptoBulk d ∧ pv.1.raw.size ≤ Rows.uptoBulk d) ∧ RqAt W pv.2 pv.1.qs ∧ W.cells? base (a'.add (i * 10)) 10 = some (stv pv.1 pv.2) := by
      intro i hi
      obtain ⟨cs, h1, h2⟩ := hel i (by omega)
      obtain ⟨p, v, h3, h4, h5, rfl, h6⟩ := step_of (World.cells?_some h1).2.1 h2
      have := hbi i hi
      exact ⟨(p, v), ⟨h3, Nat.le_trans h4 this, Nat.le_trans h5 this⟩, h6, h1⟩
    refine ⟨some a', len, cap, rfl, hlc, hbk, ?_⟩
    have hchoose : ∃ Q : Nat → Sp × Value, ∀ i, i < len → ((Q i).1.ok ∧ (Q i).1.qs.length ≤ Rows.uptoBulk d ∧ (Q i).1.raw.size ≤ Rows.uptoBulk d) ∧ RqAt W (Q i).2 (Q i).1.qs ∧ W.cells? base (a'.add (i * 10)) 10 = some (stv (Q i).1 (Q i).2) := by
      refine ⟨fun i => if h : i < len then (each i h).choose else (⟨0, 0, 0, [], ByteArray.empty, 0, 0, 0, 0, 0⟩, .slice none 0 0), fun i hi => ?_⟩
      dsimp only
      rw [dif_pos hi]
      exact (each i hi).choose_spec
    obtain ⟨Q, hQ⟩ := hchoose
    refine ⟨(List.range len).map (fun i => (Q i).1), by simp, fun p hp => ?_, fun hp => ?_⟩
    · obtain ⟨i, hi, rfl⟩ := List.mem_map.1 hp
      exact (hQ i (List.mem_range.1 hi)).1
    · have hc : ∀ i, i < len → ∀ j, j < 10 → W.cell? ((a'.add (i * 10)).add j) = (stv (Q i).1 (Q i).2)[j]? := fun i hi j hj => (World.cells?_some (hQ i hi).2.2).2.2 j hj
      have hsp : a'.spot = none := by
        have := hc 0 hp 0 (by omega)
        exact World.cell?_spot (v := .int .i64 (Q 0).1.kind) (by simpa [Addr.add] using this)
      obtain ⟨A, o, sp⟩ := a'
      simp at hsp
      subst hsp
      refine ⟨A, o, rfl, World.cells?_block (hQ 0 hp).2.2 (by omega), fun i hi => ?_⟩
      have hi' : i < len := by simpa using hi
      refine ⟨(Q i).2, fun x hx => ?_, ?_⟩
      · have := hc i hi' x hx
        rw [Deep.add_add, Addr.add_lit] at this
        rw [Nat.add_assoc, this]
        simp
      · have := (hQ i hi').2.1
        simpa using this
end Go.Proofs.YtlamgpeiolfffaaGreatDoor
