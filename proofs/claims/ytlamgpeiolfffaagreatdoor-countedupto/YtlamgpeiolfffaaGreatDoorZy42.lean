import Derived.Test.YtlamgpeiolfffaaGreatDoorZy38
import Derived.Test.YtlamgpeiolfffaaGreatDoorZy29
set_option linter.unusedSectionVars false
namespace Go.Proofs.YtlamgpeiolfffaaGreatDoor
open Go.RowKit
variable [dK] [iK]

/-- A step of a script, as numbers. -/
structure Sp where
  kind : Int
  conn : Int
  now : Int
  qs : List Rq
  raw : ByteArray
  cut : Int
  left : Int
  full : Int
  kept : Int
  part : Int
abbrev stv (p : Sp) (v : Value) : List Value := [.int .i64 p.kind, .int .i64 p.conn, .int .u64 p.now, v, .string p.raw, .int .i64 p.cut, .int .i64 p.left, .int .i64 p.full, .int .i64 p.kept, .int .i64 p.part]
def stvs : List Sp → List Value → List Value
  | p :: ps, v :: vs => stv p v ++ stvs ps vs
  | _, _ => []
theorem stvs_snoc : ∀ (ps : List Sp) (vs : List Value) (p : Sp) (v : Value), ps.length = vs.length → stvs (ps ++ [p]) (vs ++ [v]) = stvs ps vs ++ stv p v
  | [], [], _, _, _ => rfl
  | a :: ps, b :: vs, p, v, h => by
    show stv a b ++ stvs (ps ++ [p]) (vs ++ [v]) = stv a b ++ stvs ps vs ++ stv p v
    rw [stvs_snoc ps vs p v (by simpa using h), List.append_assoc]
  | [], _ :: _, _, _, h => by simp at h
  | _ :: _, [], _, _, h => by simp at h
theorem stvs_get (x : Nat) (hx : x < 10) : ∀ (ps : List Sp) (vs : List Value) (i : Nat) (hi : i < ps.length) (hv : i < vs.length), (stvs ps vs)[i * 10 + x]? = (stv ps[i] vs[i])[x]?
  | p :: ps, v :: vs, 0, _, _ => by
    show (stv p v ++ stvs ps vs)[0 * 10 + x]? = _
    rw [Nat.zero_mul, Nat.zero_add, List.getElem?_append_left (by simpa using hx)]
    rfl
  | p :: ps, v :: vs, i + 1, hi, hv => by
    have h10 : (stv p v).length = 10 := rfl
    show (stv p v ++ stvs ps vs)[(i + 1) * 10 + x]? = _
    rw [List.getElem?_append_right (by rw [h10]; omega), h10, show (i + 1) * 10 + x - 10 = i * 10 + x by omega, stvs_get x hx ps vs i (by simpa using hi) (by simpa using hv)]
    rfl
/-- The requests but snapshots. -/
def fq (qs : List Rq) : List Rq := qs.filter (fun q => decide (q.op ≠ 5))
theorem fq_succ (qs : List Rq) (k : Nat) (hk : k < qs.length) : fq (qs.take (k + 1)) = if qs[k].op = 5 then fq (qs.take k) else fq (qs.take k) ++ [qs[k]] := by
  have e : qs.take (k + 1) = qs.take k ++ [qs[k]] := by rw [List.take_add_one, List.getElem?_eq_getElem hk]; rfl
  unfold fq
  rw [e, List.filter_append]
  by_cases h : qs[k].op = 5
  · simp [h]
  · simp [h]
theorem fq_le (qs : List Rq) : (fq qs).length ≤ qs.length := List.length_filter_le _ _
/-- Requests in memory. -/
def RqAt (w : World) (v : Value) (qs : List Rq) : Prop := ∃ ao cap, v = .slice ao qs.length cap ∧ qs.length ≤ cap ∧ (0 < qs.length → ∃ A o, ao = some ⟨A, o, none⟩ ∧ A < w.heap.size ∧ ∀ i (h : i < qs.length) j, j < 13 → w.cell? ⟨A, o + i * 13 + j, none⟩ = (rqw qs[i])[j]?)
abbrev ZS : Value := .agg #[.int .i64 0, .int .i64 0, .int .u64 0, .slice none 0 0, .string ⟨#[]⟩, .int .i64 0, .int .i64 0, .int .i64 0, .int .i64 0, .int .i64 0]
theorem Tryz.info62 : (Tryz.prog.info? 62).map (fun i => (i.zero, i.size, i.bytes)) = some (some ZS, 10, 104) := by kernel_rfl

/-- What holds of the steps that are done. -/
structure WoI (w : World) (sps : List Sp) (i : Nat) (s3 : Value) (vs : List Value) (wr : World) : Prop where
  len : vs.length = i
  own : wr.ownsRow w.heap.size 62 10 s3 i (stvs (sps.take i) vs)
  rq : ∀ j (h : j < vs.length) (hj : j < sps.length), wr.ownsRow w.heap.size 58 13 vs[j] (fq sps[j].qs).length (rqws (fq sps[j].qs))
  below : Below w.heap.size w wr

/-- What holds of the requests of a step that are done. -/
structure WiI (V : World) (P : Nat) (C : Value → Array Value) (qs : List Rq) (k : Nat) (rv : Value) (wr : World) : Prop where
  blk : wr.heap[P]? = some (.cells (C rv) 62)
  own : wr.ownsRow V.heap.size 58 13 rv (fq (qs.take k)).length (rqws (fq (qs.take k)))
  keep : Keep (fun b => b = P) V wr

theorem wou_blk {wr w4 V : World} {o : Obj} {P : Nat} {x : Obj} {va : Option Addr} {m vc n : Nat} {xs : List Value} (hb : wr.heap[P]? = some x) (hV : V.heap.size = P + 1) (hown : ((wr.alloc o).drew).ownsRow V.heap.size 58 13 (.slice va m vc) n xs) (hg : ((wr.alloc o).drew).grownBy w4 (Value.slice va m vc).ownBlock) : w4.heap[P]? = some x := by
  have hl := ltB hb
  refine (hg.block P ?_ ?_).trans ((heapOld wr o hl).trans hb)
  · show P < (wr.alloc o).heap.size
    rw [World.size_alloc]; omega
  · intro e
    have := (own_ltE hown e.symm).1
    omega

theorem wi_step {V wr w4 : World} {o : Obj} {P : Nat} {C : Value → Array Value} {qs : List Rq} {k m vc : Nat} {va ya : Option Addr} {yc : Nat} {q : Rq} (J : WiI V P C qs k (.slice va m vc) wr) (hV : V.heap.size = P + 1) (hown : ((wr.alloc o).drew).ownsRow V.heap.size 58 13 (.slice va m vc) m (rqws (fq (qs.take k)))) (h4 : w4.ownsRow V.heap.size 58 13 (.slice ya (m + 1) yc) (m + 1) (rqws (fq (qs.take k)) ++ rqw q)) (hg : ((wr.alloc o).drew).grownBy w4 (Value.slice va m vc).ownBlock) (hh : w4.heap[P]? = some (.cells (C (.slice va m vc)) 62)) (hf : fq (qs.take (k + 1)) = fq (qs.take k) ++ [q]) (hm : m = (fq (qs.take k)).length) (hC : ∀ a b, (C a).setIfInBounds 3 b = C b) :
    WiI V P C qs (k + 1) (.slice ya (m + 1) yc) (w4.setCell ⟨P, 3, none⟩ (.slice ya (m + 1) yc)) := by
  have hgs := hg.size
  have hsz : (wr.alloc o).drew.heap.size = wr.heap.size + 1 := World.size_alloc _ _
  have hks := J.keep.size
  refine ⟨?_, ?_, ?_⟩
  · have := heapSet hh 3 (.slice ya (m + 1) yc)
    rw [hC] at this
    exact this
  · rw [hf, List.length_append, rqws_snoc, ← hm]
    exact own_keptE h4 (fun g hg' => heapSetO (by have := (own_ltE h4 hg').1; omega) _ _)
  · refine ⟨hg.os.trans J.keep.os, hg.tape.trans J.keep.tape, hg.output.trans J.keep.output, ?_, fun b hb hne => ?_⟩
    · rw [World.size_setCell]; omega
    · refine (heapSetO hne _ _).trans ((hg.block b (by omega) (fun e => ?_)).trans ((heapOld wr o (by omega)).trans (J.keep.block b hb hne)))
      have := (own_ltE hown e.symm).1
      omega
theorem own_type {w : World} {base e sz : Nat} {v : Value} {n : Nat} {xs : List Value} (h : w.ownsRow base e sz v n xs) {g : Nat} (hg : v.ownBlock = some g) : ∃ c fr, w.heap[g]? = some (.cells c e fr) := by
  rcases h.2 with ⟨rfl, rfl⟩ | ⟨g', cap, cur, hv, _, hh, _⟩
  · simp [Value.ownBlock] at hg
  · rw [hv] at hg
    simp [Value.ownBlock] at hg
    subst hg
    exact ⟨_, _, hh⟩
theorem wo_step {w Y V wr w5 : World} {o1 o : Obj} {P i oc : Nat} {oa : Option Addr} {sps : List Sp} {vs : List Value} {p : Sp} {rv v5 : Value} {C : Value → Array Value} {k : Nat} (I : WoI w sps i (.slice oa i oc) vs Y) (hV : V = Y.alloc o1) (hP : P = Y.heap.size) (J : WiI V P C p.qs k rv wr) (hk : p.qs.take k = p.qs) (hil : i < sps.length) (hp : p = sps[i])
    (h5 : w5.ownsRow w.heap.size 62 10 v5 (i + 1) (stvs (sps.take i) vs ++ stv p rv)) (hg : (wr.alloc o).grownBy w5 (Value.slice oa i oc).ownBlock) : WoI w sps (i + 1) v5 (vs ++ [rv]) w5 := by
  have hVs : V.heap.size = P + 1 := by rw [hV, hP]; simp
  have hks := J.keep.size
  have hgs := hg.size
  rw [World.size_alloc] at hgs
  have hYb := I.below.size
  have hVo : ∀ b, b < P → wr.heap[b]? = Y.heap[b]? := fun b h => (J.keep.block b (by omega) (by omega)).trans (by rw [hV]; exact heapOld _ _ (by omega))
  have hw5 : ∀ b, b < wr.heap.size → (Value.slice oa i oc).ownBlock ≠ some b → w5.heap[b]? = wr.heap[b]? := fun b h hne => (hg.block b (by rw [World.size_alloc]; omega) (fun e => hne e.symm)).trans (heapOld _ _ h)
  have hout : ∀ g, (Value.slice oa i oc).ownBlock = some g → ∃ c fr, wr.heap[g]? = some (.cells c 62 fr) := fun g hg' => by
    obtain ⟨c, fr, h⟩ := own_type I.own hg'
    have := (own_ltE I.own hg').2
    exact ⟨c, fr, (hVo g (by omega)).trans h⟩
  refine ⟨?_, ?_, fun j h hj => ?_, ?_⟩
  · rw [List.length_append, I.len]; rfl
  · have ht : sps.take (i + 1) = sps.take i ++ [p] := by rw [List.take_add_one, List.getElem?_eq_getElem hil, hp]; rfl
    rw [ht, stvs_snoc _ _ _ _ (by rw [List.length_take, I.len]; omega)]
    exact h5
  · by_cases hji : j < vs.length
    · rw [List.getElem_append_left hji]
      have h1 := I.rq j hji hj
      have h2 : wr.ownsRow w.heap.size 58 13 vs[j] (fq sps[j].qs).length (rqws (fq sps[j].qs)) := own_keptE h1 (fun g hg' => hVo g (by have := (own_ltE h1 hg').2; omega))
      refine own_keptE h2 (fun g hg' => hw5 g (own_ltE h2 hg').2 (fun e => ?_))
      obtain ⟨c, fr, hh⟩ := hout g e
      exact own_neE h2 hg' hh (by decide) rfl
    · have hl := I.len
      rw [List.length_append] at h
      simp only [List.length_singleton] at h
      have hje : j = i := by omega
      subst hje
      rw [List.getElem_append_right (by omega)]
      simp only [hl, Nat.sub_self, List.getElem_singleton]
      rw [← hp]
      have h1 := J.own
      rw [hk] at h1
      have h2 : wr.ownsRow w.heap.size 58 13 rv (fq p.qs).length (rqws (fq p.qs)) := by
        refine ⟨h1.1, ?_⟩
        rcases h1.2 with h | ⟨g, cap, cur, e1, e2, e3⟩
        · exact Or.inl h
        · exact Or.inr ⟨g, cap, cur, e1, by omega, e3⟩
      refine own_keptE h2 (fun g hg' => hw5 g (own_ltE h2 hg').2 (fun e => ?_))
      obtain ⟨c, fr, hh⟩ := hout g e
      exact own_neE h2 hg' hh (by decide) rfl
  · refine ⟨?_, ?_, ?_, by omega, fun b hb => ?_⟩
    · rw [hg.os]; show wr.os = _; rw [J.keep.os, hV]; exact I.below.os
    · rw [hg.tape]; show wr.tape = _; rw [J.keep.tape, hV]; exact I.below.tape
    · rw [hg.output]; show wr.output = _; rw [J.keep.output, hV]; exact I.below.output
    · refine (hw5 b (by omega) (fun e => ?_)).trans ((hVo b (by omega)).trans (I.below.block b hb))
      have := (own_ltE I.own e).1
      omega

set_option maxRecDepth 100000 in
set_option maxHeartbeats 8000000 in
theorem without7 (ao : Option Addr) (n cap : Nat) (sps : List Sp) (w : World) (hn : sps.length = n) (hnc : n ≤ cap) (hn1 : n ≤ 1048576) (hql : ∀ p ∈ sps, p.qs.length ≤ 1048576)
    (hc : 0 < n → ∃ A o, ao = some ⟨A, o, none⟩ ∧ A < w.heap.size ∧ ∀ i (h : i < sps.length), ∃ v, (∀ x, x < 10 → w.cell? ⟨A, o + i * 10 + x, none⟩ = (stv sps[i] v)[x]?) ∧ RqAt w v sps[i].qs) :
    Calls Tryz.prog 7 #[.slice ao n cap] w fun e w' => ∃ s3 m vs, e = .returned s3 ∧ (m = n ∧ n ≤ 16384 ∨ m = 0 ∧ 16384 < n) ∧ WoI w sps m s3 vs w' := by
  obtain ⟨i0, hi, hz0, hz1, hz2⟩ := info_parts Tryz.info62
  obtain ⟨i1, hj, hy0, hy1, hy2⟩ := info_parts Tryz.info58
  have HC := hide hc
  have HN := hide hn
  have HQL := hide hql
  clear hc hn hql
  go_enter Tryz.func7, Tryz.ntmps7
  go_wp2
  go_loopw [3, 4] (fun s3 s4 wr => ∃ (i : Nat) (vs : List Value), i ≤ n ∧ (i = 0 ∨ n ≤ 16384) ∧ s4 = .int .i64 i ∧ WoI w sps i s3 vs wr) (fun _ s4 _ => n - (intOf s4).toNat)
  case atStart => exact ⟨0, [], by omega, Or.inl rfl, rfl, rfl, World.ownsRow_nil _ _ _ _, fun j h => by simp at h, Below.refl _ _⟩
  case round =>
    obtain ⟨i, vs, hin, hor, rfl, I⟩ := hrel
    obtain ⟨Y, rfl⟩ : ∃ Y, Y = wr := ⟨_, rfl⟩
    have HI := hide I
    have hwr := I.below.size
    obtain ⟨oa, oc, ho⟩ := own_sliceE I.own
    subst ho
    by_cases hlt : i < n
    · have hltI : (i : Int) < (n : Int) := by omega
      by_cases hsm : n ≤ 16384
      · have hsmI : (n : Int) ≤ 16384 := by omega
        have hil : i < sps.length := by rw [HN.out]; exact hlt
        obtain ⟨A, o, rfl, hA, hcc⟩ := HC.out (by omega)
        obtain ⟨v, hcell, hrq⟩ := hcc i hil
        obtain ⟨p, hp⟩ : ∃ p, p = sps[i] := ⟨_, rfl⟩
        rw [← hp] at hcell hrq
        have hqlen : p.qs.length ≤ 1048576 := hp ▸ HQL.out _ (List.getElem_mem hil)
        obtain ⟨ra, rc, rfl, hrc, hrcell⟩ := hrq
        have hk : ∀ x, x < 10 → Y.cell? ⟨A, o + i * 10 + x, none⟩ = (stv p (.slice ra p.qs.length rc))[x]? := fun x hx => (I.below.cell (p := ⟨A, o + i * 10 + x, none⟩) hA).trans (hcell x hx)
        have k0 := hk 0 (by omega)
        have k1 := hk 1 (by omega)
        have k2 := hk 2 (by omega)
        have k3 := hk 3 (by omega)
        have k4 := hk 4 (by omega)
        have k5 := hk 5 (by omega)
        have k6 := hk 6 (by omega)
        have k7 := hk 7 (by omega)
        have k8 := hk 8 (by omega)
        have k9 := hk 9 (by omega)
        rw [Nat.add_zero] at k0
        have HCE := hide hcell
        have HRC := hide hrcell
        have HP := hide hp
        clear hk hcell hrcell hp hcc I
        go_wp2_with fail
        obtain ⟨V, hV⟩ : ∃ V, V = Y.alloc (.cells #[.int .i64 p.kind, .int .i64 p.conn, .int .u64 p.now, .slice none 0 0, .string p.raw, .int .i64 p.cut, .int .i64 p.left, .int .i64 p.full, .int .i64 p.kept, .int .i64 p.part] 62) := ⟨_, rfl⟩
        rw [← hV]
        obtain ⟨P, hP⟩ : ∃ P, P = Y.heap.size := ⟨_, rfl⟩
        rw [← hP]
        have hVs : V.heap.size = P + 1 := by rw [hV, hP]; simp
        have hVP : V.heap[P]? = some (.cells #[.int .i64 p.kind, .int .i64 p.conn, .int .u64 p.now, .slice none 0 0, .string p.raw, .int .i64 p.cut, .int .i64 p.left, .int .i64 p.full, .int .i64 p.kept, .int .i64 p.part] 62) := by rw [hV, hP]; exact heapNew _ _
        have hVo : ∀ b, b < P → V.heap[b]? = Y.heap[b]? := fun b h => by rw [hV]; exact heapOld _ _ (by omega)
        have hwP : w.heap.size ≤ P := by omega
        have hAP : A < P := by omega
        have HVK := hide hVo
        have HVP := hide hVP
        have k3V : V.cell? ⟨A, o + i * 10 + 3, none⟩ = some (.slice ra p.qs.length rc) := (World.cell?_of_block (w := Y) (hVo A hAP)).trans k3
        obtain ⟨ql, hqe⟩ : ∃ ql, ql = p.qs.length := ⟨_, rfl⟩
        rw [← hqe] at k3V hqlen hrc
        have HQE := hide hqe
        have HK3 := hide k3V
        have HVO := hide hV
        have HPO := hide hP
        have HRC2 : Hid (0 < ql → ∃ A2 o2, ra = some ⟨A2, o2, none⟩ ∧ A2 < w.heap.size ∧ ∀ k (h : k < p.qs.length) j, j < 13 → w.cell? ⟨A2, o2 + k * 13 + j, none⟩ = (rqw p.qs[k])[j]?) := hide (by rw [hqe]; exact HRC.out)
        clear k0 k1 k2 k3 k4 k5 k6 k7 k8 k9 hV hP hVo hVP hqe k3V HRC
        go_loopw [6] (fun s6 X => ∃ (k : Nat) (rv : Value), k ≤ ql ∧ s6 = .int .i64 k ∧ WiI V P (fun v => #[.int .i64 p.kind, .int .i64 p.conn, .int .u64 p.now, v, .string p.raw, .int .i64 p.cut, .int .i64 p.left, .int .i64 p.full, .int .i64 p.kept, .int .i64 p.part]) p.qs k rv X) (fun s6 _ => ql - (intOf s6).toNat)
        case atStart => exact ⟨0, .slice none 0 0, by omega, rfl, HVP.out, World.ownsRow_nil _ _ _ _, Keep.refl _ _⟩
        case round =>
          obtain ⟨k, rv, hkq, rfl, J⟩ := hrel
          have hks := J.keep.size
          obtain ⟨va, vc, hrv⟩ := own_sliceE J.own
          obtain ⟨m, hm⟩ : ∃ m, m = (fq (p.qs.take k)).length := ⟨_, rfl⟩
          rw [← hm] at hrv
          subst hrv
          have hml : m ≤ ql := by rw [hm]; have := fq_le (p.qs.take k); rw [List.length_take] at this; omega
          have hXA : wr.heap[A]? = V.heap[A]? := J.keep.block A (by omega) (by omega)
          have hb := J.blk
          have d3 : wr.cell? ⟨A, o + i * 10 + 3, none⟩ = some (.slice ra ql rc) := (World.cell?_of_block (w := V) hXA).trans HK3.out
          have HJ := hide J
          have HM := hide hm
          clear J hm
          by_cases hlk : k < ql
          · have hlkI : (k : Int) < (ql : Int) := by omega
            obtain ⟨A2, o2, rfl, hA2, hq2⟩ := HRC2.out (by omega)
            have hkl : k < p.qs.length := by rw [← HQE.out]; exact hlk
            obtain ⟨q, hq⟩ : ∃ q, q = p.qs[k] := ⟨_, rfl⟩
            have hqc : ∀ x, x < 13 → wr.cell? ⟨A2, o2 + k * 13 + x, none⟩ = (rqw q)[x]? := fun x hx => by
              rw [World.cell?_of_block (w := V) (HJ.out.keep.block A2 (by omega) (by omega)), World.cell?_of_block (w := Y) (HVK.out A2 (by omega)), HI.out.below.cell (p := ⟨A2, o2 + k * 13 + x, none⟩) hA2, hq]
              exact hq2 k hkl x hx
            have q0 := hqc 0 (by omega)
            have q1 := hqc 1 (by omega)
            have q2 := hqc 2 (by omega)
            have q3 := hqc 3 (by omega)
            have q4 := hqc 4 (by omega)
            have q5 := hqc 5 (by omega)
            have q6 := hqc 6 (by omega)
            have q7 := hqc 7 (by omega)
            have q8 := hqc 8 (by omega)
            have q9 := hqc 9 (by omega)
            have q10 := hqc 10 (by omega)
            have q11 := hqc 11 (by omega)
            have q12 := hqc 12 (by omega)
            rw [Nat.add_zero] at q0
            have hsuc := fq_succ p.qs k hkl
            rw [← hq] at hsuc
            have HS := hide hsuc
            have HQ := hide hq
            clear hq hsuc hqc hq2
            by_cases h5 : q.op = 5
            · have h5' : (q.op == 5) = true := by simp [h5]
              go_wp2
              go_roundw
              case rel =>
                refine ⟨k + 1, _, by omega, by go_num, hb, ?_, HJ.out.keep⟩
                rw [HS.out, if_pos h5]
                exact HJ.out.own
              case measure => simp [intOf]; omega
            · have h5' : (q.op == 5) = false := by simp [h5]
              go_upto_region 11 with fail
              have f1 := cellB hb 3
              have f2 := frozenB hb 3
              have HOWN : Hid ((wr.alloc (.cells #[.int .u8 q.op, .int .u8 q.k0, .int .u8 q.k1, .int .u8 q.k2, .int .u8 q.k3, .int .u8 q.k4, .int .u8 q.k5, .int .u8 q.k6, .int .u8 q.k7, .int .u8 q.kd, .int .u64 q.x, .int .u64 q.y, .int .u64 q.n] 58)).drew.ownsRow V.heap.size 58 13 (.slice va m vc) m (rqws (fq (p.qs.take k)))) := hide (by
                have h0 := HJ.out.own
                rw [← HM.out] at h0
                exact own_keptE h0 (fun z hz => heapOld _ _ (own_ltE h0 hz).2))
              have HCL : Hid (∀ j u, (rqw q)[j]? = some u → (wr.alloc (.cells #[.int .u8 q.op, .int .u8 q.k0, .int .u8 q.k1, .int .u8 q.k2, .int .u8 q.k3, .int .u8 q.k4, .int .u8 q.k5, .int .u8 q.k6, .int .u8 q.k7, .int .u8 q.kd, .int .u64 q.x, .int .u64 q.y, .int .u64 q.n] 58)).drew.cell? ((⟨wr.heap.size, 0, none⟩ : Addr).add j) = some u) := hide (fun j u hj => by
                rw [Addr.add_lit, Nat.zero_add]
                refine (cellB (heapNew wr (.cells #[.int .u8 q.op, .int .u8 q.k0, .int .u8 q.k1, .int .u8 q.k2, .int .u8 q.k3, .int .u8 q.k4, .int .u8 q.k5, .int .u8 q.k6, .int .u8 q.k7, .int .u8 q.kd, .int .u64 q.x, .int .u64 q.y, .int .u64 q.n] 58)) j).trans ?_
                rw [← hj]
                simp)
              have HBS : Hid (V.heap.size ≤ (wr.alloc (.cells #[.int .u8 q.op, .int .u8 q.k0, .int .u8 q.k1, .int .u8 q.k2, .int .u8 q.k3, .int .u8 q.k4, .int .u8 q.k5, .int .u8 q.k6, .int .u8 q.k7, .int .u8 q.kd, .int .u64 q.x, .int .u64 q.y, .int .u64 q.n] 58)).drew.heap.size) := hide (by show V.heap.size ≤ (wr.alloc _).heap.size; rw [World.size_alloc]; omega)
              have hPl : P < wr.heap.size := ltB hb
              have HB := hide hb
              clear hb
              go_region_law (refine step_append_any (by rfl) _ _ 28 58 i1 ZR 13 48 Tryz.underlying28 hj hy0 hy1 hy2 (by rfl) (by decide) (by rfl) V.heap.size (.slice va m vc) m (rqws (fq (p.qs.take k))) (by rfl) HOWN.out ⟨wr.heap.size, 0, none⟩ 1 1 (rqw q) (by rfl) (by rfl) HCL.out (by simp [Value.oneCell']) (by omega) (by omega) HBS.out ?_; intro v5 w4 hown4 hgr4 hloc4; obtain ⟨ya, yc, hyw⟩ := own_sliceE hown4; subst hyw; have hh4 := wou_blk HB.out hVs HOWN.out hgr4; have d1 := cellB hh4 3; have d2 := frozenB hh4 3)
              all_goals go_wp2
              all_goals go_roundw
              all_goals first
                | exact ⟨k + 1, _, by omega, by go_num, wi_step HJ.out hVs HOWN.out hown4 hgr4 hh4 (HS.out.trans (if_neg h5)) HM.out (fun _ _ => rfl)⟩
                | (simp [intOf]; omega)
          · have hke : k = ql := by omega
            have hkI : ¬ (k : Int) < (ql : Int) := by omega
            have t0 := cellB hb 0
            have t1 := cellB hb 1
            have t2 := cellB hb 2
            have t3 := cellB hb 3
            have t4 := cellB hb 4
            have t5 := cellB hb 5
            have t6 := cellB hb 6
            have t7 := cellB hb 7
            have t8 := cellB hb 8
            have t9 := cellB hb 9
            have HOUT : Hid ((wr.alloc (.cells #[.int .i64 p.kind, .int .i64 p.conn, .int .u64 p.now, .slice va m vc, .string p.raw, .int .i64 p.cut, .int .i64 p.left, .int .i64 p.full, .int .i64 p.kept, .int .i64 p.part] 62)).ownsRow w.heap.size 62 10 (.slice oa i oc) i (stvs (sps.take i) vs)) := hide (own_keptE HI.out.own (fun g hg => by
              have hgl := (own_ltE HI.out.own hg).2
              have hgP : g < P := by have := HPO.out; omega
              exact (heapOld _ _ (by omega)).trans ((HJ.out.keep.block g (by omega) (by omega)).trans (HVK.out g hgP))))
            have HCL : Hid (∀ j u, (stv p (.slice va m vc))[j]? = some u → (wr.alloc (.cells #[.int .i64 p.kind, .int .i64 p.conn, .int .u64 p.now, .slice va m vc, .string p.raw, .int .i64 p.cut, .int .i64 p.left, .int .i64 p.full, .int .i64 p.kept, .int .i64 p.part] 62)).cell? ((⟨wr.heap.size, 0, none⟩ : Addr).add j) = some u) := hide (fun j u hj => by
              rw [Addr.add_lit, Nat.zero_add]
              refine (cellB (heapNew wr (.cells #[.int .i64 p.kind, .int .i64 p.conn, .int .u64 p.now, .slice va m vc, .string p.raw, .int .i64 p.cut, .int .i64 p.left, .int .i64 p.full, .int .i64 p.kept, .int .i64 p.part] 62)) j).trans ?_
              rw [← hj]
              simp)
            have HBS : Hid (w.heap.size ≤ (wr.alloc (.cells #[.int .i64 p.kind, .int .i64 p.conn, .int .u64 p.now, .slice va m vc, .string p.raw, .int .i64 p.cut, .int .i64 p.left, .int .i64 p.full, .int .i64 p.kept, .int .i64 p.part] 62)).heap.size) := hide (by rw [World.size_alloc]; omega)
            have HKE := hide hke
            clear hke
            go_wp2_with (at_builtin; refine wpList_append_own _ rfl _ _ 22 rfl w.heap.size 62 i0 ZS 10 104 Tryz.underlying22 hi hz0 hz1 hz2 rfl (by decide) (.slice oa i oc) i (stvs (sps.take i) vs) rfl HOUT.out ⟨wr.heap.size, 0, none⟩ 1 1 (stv p (.slice va m vc)) rfl rfl HCL.out (by simp [Value.oneCell']) (by unfold maxLen; omega) (by omega) HBS.out ?_; intro v5 w5 hown5 hgr5 hnil5)
            go_roundw
            case rel =>
              have hpl : p.qs.take k = p.qs := List.take_of_length_le (by rw [HKE.out, HQE.out]; exact Nat.le_refl _)
              refine ⟨i + 1, vs ++ [.slice va m vc], by omega, Or.inr hsm, by go_num, wo_step HI.out HVO.out HPO.out HJ.out hpl hil HP.out hown5 hgr5⟩
            case measure => simp [intOf]; omega
      · have hsmI : ¬ (n : Int) ≤ 16384 := by omega
        obtain rfl : i = 0 := by omega
        clear I
        go_wp2
        go_ret
        exact ⟨_, rfl, 0, ⟨rfl, by omega⟩, vs, HI.out⟩
    · have hltI : ¬ (i : Int) < (n : Int) := by omega
      obtain rfl : i = n := by omega
      clear I
      go_wp2
      go_ret
      exact ⟨_, rfl, i, by omega, vs, HI.out⟩
end Go.Proofs.YtlamgpeiolfffaaGreatDoor
