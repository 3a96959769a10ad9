import Derived.Test.YtnlgndpcddngoaaGreatDoorZc30
set_option linter.unusedSectionVars false
namespace Go.Proofs.YtnlgndpcddngoaaGreatDoor
open Go.RowKit Go.Maps
variable [dK] [iK]
theorem call134 (vs : Array Value) (w : World) : Sem.run Tryz.prog (callFunc 134 vs) w = .ok (.enter 134 vs) w := by simp [go_sem]
theorem call135 (vs : Array Value) (w : World) : Sem.run Tryz.prog (callFunc 135 vs) w = .ok (.enter 135 vs) w := by simp [go_sem]
theorem call141 (vs : Array Value) (w : World) : Sem.run Tryz.prog (callFunc 141 vs) w = .ok (.enter 141 vs) w := by simp [go_sem]

/-- A reply is laid into its block behind a keeping. -/
theorem finK {w Y : World} {R r0 : Nat} {st : Int} {sb db kk : Nat} {c c' : Led} {FF F' : Nat → Prop} {es' : Es} (rc ra rb : Int) (hq : Y.heap[R]? = some (.cells #[.int .u8 0, .int .u64 0, .int .u64 0] 40)) (hr : Y.heap[r0]? = some (.cells #[.int .u8 0, .int .u64 0, .int .u64 0] 40)) (hKe : Kept c c' es') (hL : LedAt Y st sb db kk c' F') (hk : Keep FF w Y) (hF : ∀ b, F' b → FF b ∨ r0 < b) (hR : ¬ F' R) (hR0 : r0 ≠ R) (hRw : w.heap.size ≤ R) :
    ∃ (X : World) (R' : Nat) (c1 : Led) (F1 : Nat → Prop), X = ((Y.setCell ⟨R, 0, none⟩ (.int .u8 rc)).setCell ⟨R, 1, none⟩ (.int .u64 ra)).setCell ⟨R, 2, none⟩ (.int .u64 rb) ∧ Value.pointer (some ⟨R, 0, none⟩) = .pointer (some ⟨R', 0, none⟩) ∧ X.heap[R']? = some (.cells #[.int .u8 rc, .int .u64 ra, .int .u64 rb] 40) ∧ X.heap[r0]? = some (.cells #[.int .u8 0, .int .u64 0, .int .u64 0] 40) ∧ Kept c c1 es' ∧ LedAt X st sb db kk c1 F1 ∧ Keep FF w X ∧ (∀ b, F1 b → FF b ∨ r0 < b) := by
  refine ⟨_, R, c', F', rfl, rfl, ?_, ?_, hKe, hL.kept (by simp) (fun b hb => ?_), ((hk.set (Or.inr hRw) _ _).set (Or.inr hRw) _ _).set (Or.inr hRw) _ _, hF⟩
  · have h1 := heapSet hq 0 (.int .u8 rc)
    have h2 := heapSet h1 1 (.int .u64 ra)
    have h3 := heapSet h2 2 (.int .u64 rb)
    simpa using h3
  · rw [heapSetO hR0, heapSetO hR0, heapSetO hR0]; exact hr
  · have hb' : b ≠ R := fun e => hR (e ▸ hb)
    rw [heapSetO hb', heapSetO hb', heapSetO hb']
theorem finOut {w X : World} {r0 : Nat} {st : Int} {sb db kk : Nat} {c' : Led} {FF F' : Nat → Prop} (rc ra rb : Int) (hL : LedAt X st sb db kk c' F') (hk : Keep FF w X) (hFl : ∀ b, FF b → b < w.heap.size) (h0 : w.heap.size ≤ r0) (hF : ∀ b, F' b → FF b ∨ r0 < b) :
    OutL w st sb db kk c' FF (((X.setCell ⟨r0, 0, none⟩ (.int .u8 rc)).setCell ⟨r0, 1, none⟩ (.int .u64 ra)).setCell ⟨r0, 2, none⟩ (.int .u64 rb)) := by
  refine ⟨F', hL.kept (by simp) (fun b hb => ?_), ((hk.set (Or.inr h0) _ _).set (Or.inr h0) _ _).set (Or.inr h0) _ _, fun b hb => (hF b hb).imp_right (fun h => by omega)⟩
  have hb' : b ≠ r0 := fun e => (hF b hb).elim (fun h => by have := hFl b h; omega) (fun h => by omega)
  rw [heapSetO hb', heapSetO hb', heapSetO hb']

set_option maxRecDepth 100000 in
set_option maxHeartbeats 4000000 in
theorem bremove_some (sb mp : Nat) (s0 s1 sp adm : Value) (time blk : Int) (es : Es) (k : Ky) (w : World) (hs : w.heap[sb]? = some (.cells #[s0, s1, .int .u64 time, .int .u64 blk, .map (some mp), sp, adm] 130)) (hm : MapE w mp es) (hk : k.ok) (p1 p2 : Qt) (hf : fndG k es = some (p1, p2)) (st : Int) (db kk : Nat) (c : Led) (FF : Nat → Prop) (hnd : (es.map Prod.fst).Nodup) (hlen : es.length ≤ 12)
    (HL : Hid (∀ w1, Below w.heap.size w w1 → LedAt w1 st sb db (kk + 2) c FF)) (hFl : ∀ b, FF b → b < w.heap.size)
    (h134 : Hid (∀ w1 mp', LedAt w1 st sb db (kk + 2) c FF → MapE w1 mp' (delG k es) → ¬ FF mp' → Calls Tryz.prog 134 #[.pointer (some ⟨sb, 2, none⟩), .map (some mp'), .agg #[.int .u8 1, .int .u64 0, .int .u64 0]] w1 fun e w' => e = .returned (.agg #[.int .u8 1, .int .u64 0, .int .u64 0]) ∧ ∃ c' F', Kept c c' (delG k es) ∧ LedAt w' st sb db kk c' F' ∧ Keep FF w1 w' ∧ ∀ b, F' b → FF b ∨ w1.heap.size ≤ b ∨ b = mp')) :
    Calls Tryz.prog 113 #[.pointer (some ⟨sb, 2, none⟩), .agg #[.int .u8 k.k0, .int .u8 k.k1, .int .u8 k.k2, .int .u8 k.k3, .int .u8 k.k4, .int .u8 k.k5, .int .u8 k.k6, .int .u8 k.k7]] w fun e w' => e = .returned (.agg #[.int .u8 1, .int .u64 0, .int .u64 0]) ∧ ∃ c', Kept c c' (delG k es) ∧ OutL w st sb db kk c' FF w' := by
  go_enter Tryz.func113, Tryz.ntmps113
  go_upto_region 1 with fail
  obtain ⟨W, hW⟩ : ∃ W, W = (w.alloc (.cells #[.int .u8 k.k0, .int .u8 k.k1, .int .u8 k.k2, .int .u8 k.k3, .int .u8 k.k4, .int .u8 k.k5, .int .u8 k.k6, .int .u8 k.k7] 63)).alloc (.cells #[.int .u8 0, .int .u64 0, .int .u64 0] 40) := ⟨_, rfl⟩
  rw [← hW]
  have hB : Below w.heap.size w W := hW ▸ ((Below.refl _ w).alloc (Nat.le_refl _) _).alloc (by simp) _
  have hk0 : W.heap[w.heap.size]? = some (.cells #[.int .u8 k.k0, .int .u8 k.k1, .int .u8 k.k2, .int .u8 k.k3, .int .u8 k.k4, .int .u8 k.k5, .int .u8 k.k6, .int .u8 k.k7] 63) := hW ▸ upB (heapNew _ _) _
  have hr0 : W.heap[w.heap.size + 1]? = some (.cells #[.int .u8 0, .int .u64 0, .int .u64 0] 40) := hW ▸ heapN (by simp)
  have hs0 : W.heap[sb]? = some (.cells #[s0, s1, .int .u64 time, .int .u64 blk, .map (some mp), sp, adm] 130) := hW ▸ upB (upB hs _) _
  have hm0 : MapE W mp es := MapG.kept hm (hB.block mp (MapG.lt hm))
  have hsb := ltB hs
  clear hW hs hm
  have a1 := cellB hk0
  have a2 := upC hk0 (.cells #[.int .u8 0, .int .u64 0, .int .u64 0, .int .u64 0, .int .u64 0, .int .u8 0, .int .u64 0, .int .u64 0, .int .u64 0, .int .u64 0] 177)
  have a3 := cellB hs0
  have a4 := upC hs0 (.cells #[.int .u8 0, .int .u64 0, .int .u64 0, .int .u64 0, .int .u64 0, .int .u8 0, .int .u64 0, .int .u64 0, .int .u64 0, .int .u64 0] 177)
  have a5 := lookE1 (w := W.drew) (MapG.kept hm0 rfl) hk hf
  have a6 := lookE1 (w := (W.alloc (.cells #[.int .u8 0, .int .u64 0, .int .u64 0, .int .u64 0, .int .u64 0, .int .u8 0, .int .u64 0, .int .u64 0, .int .u64 0, .int .u64 0] 177)).drew) (MapG.kept hm0 (heapOld _ _ (MapG.lt hm0))) hk hf
  go_cut [5, 6] (fun s5 s6 wx => s5 = .pointer (some ⟨W.heap.size, 0, none⟩) ∧ s6 = .bool true ∧ wx = (W.alloc (.cells #[.int .u8 p1.kd, .int .u64 p1.x, .int .u64 p1.y, .int .u64 p1.lv, .int .u64 p1.wn, .int .u8 p2.kd, .int .u64 p2.x, .int .u64 p2.y, .int .u64 p2.lv, .int .u64 p2.wn] 177)).drew)
  case first =>
    go_region
    all_goals (go_wp2_with fail; go_meet)
    all_goals exact ⟨rfl, rfl, rfl⟩
  case rest =>
    obtain ⟨rfl, rfl, rfl⟩ := hcut
    have hz0 : (W.alloc (.cells #[.int .u8 p1.kd, .int .u64 p1.x, .int .u64 p1.y, .int .u64 p1.lv, .int .u64 p1.wn, .int .u8 p2.kd, .int .u64 p2.x, .int .u64 p2.y, .int .u64 p2.lv, .int .u64 p2.wn] 177)).heap[W.heap.size]? = some (.cells #[.int .u8 p1.kd, .int .u64 p1.x, .int .u64 p1.y, .int .u64 p1.lv, .int .u64 p1.wn, .int .u8 p2.kd, .int .u64 p2.x, .int .u64 p2.y, .int .u64 p2.lv, .int .u64 p2.wn] 177) := heapNew _ _
    have hk1 := upB hk0 (.cells #[.int .u8 p1.kd, .int .u64 p1.x, .int .u64 p1.y, .int .u64 p1.lv, .int .u64 p1.wn, .int .u8 p2.kd, .int .u64 p2.x, .int .u64 p2.y, .int .u64 p2.lv, .int .u64 p2.wn] 177)
    have hr1 := upB hr0 (.cells #[.int .u8 p1.kd, .int .u64 p1.x, .int .u64 p1.y, .int .u64 p1.lv, .int .u64 p1.wn, .int .u8 p2.kd, .int .u64 p2.x, .int .u64 p2.y, .int .u64 p2.lv, .int .u64 p2.wn] 177)
    have hs1 := upB hs0 (.cells #[.int .u8 p1.kd, .int .u64 p1.x, .int .u64 p1.y, .int .u64 p1.lv, .int .u64 p1.wn, .int .u8 p2.kd, .int .u64 p2.x, .int .u64 p2.y, .int .u64 p2.lv, .int .u64 p2.wn] 177)
    have hm1 : MapE (W.alloc (.cells #[.int .u8 p1.kd, .int .u64 p1.x, .int .u64 p1.y, .int .u64 p1.lv, .int .u64 p1.wn, .int .u8 p2.kd, .int .u64 p2.x, .int .u64 p2.y, .int .u64 p2.lv, .int .u64 p2.wn] 177)) mp es := MapG.kept hm0 (heapOld _ _ (MapG.lt hm0))
    have hB1 := hB.alloc hB.size (.cells #[.int .u8 p1.kd, .int .u64 p1.x, .int .u64 p1.y, .int .u64 p1.lv, .int .u64 p1.wn, .int .u8 p2.kd, .int .u64 p2.x, .int .u64 p2.y, .int .u64 p2.lv, .int .u64 p2.wn] 177)
    have hB0 := hB.size
    clear a1 a2 a3 a4 a5 a6 hk0 hr0 hs0 hm0
    have a1 := cellB hs1
    have a2 := cellB hk1
    have l1 : w.heap.size + 1 < W.heap.size + 1 := by simpa using ltB hr1
    have HB1 := hide hB1
    have HM1 := hide hm1
    have HR1 := hide hr1
    clear hB1 hm1 hr1
    go_upto_region 4 with fail
    go_cut [7] (fun s7 wx => ∃ (X : World) (R : Nat) (c' : Led) (F' : Nat → Prop), X = wx ∧ s7 = .pointer (some ⟨R, 0, none⟩) ∧ X.heap[R]? = some (.cells #[.int .u8 1, .int .u64 0, .int .u64 0] 40) ∧ X.heap[w.heap.size + 1]? = some (.cells #[.int .u8 0, .int .u64 0, .int .u64 0] 40) ∧ Kept c c' (delG k es) ∧ LedAt X st sb db kk c' F' ∧ Keep FF w X ∧ (∀ b, F' b → FF b ∨ w.heap.size + 1 < b))
    case first =>
      have H141 := hide (fun w1 (h : MapE w1 mp es) => without141 mp es k w1 h (by omega) hk hnd)
      have a3 := upC hs1 (.cells #[.int .u8 0, .int .u64 0, .int .u64 0] 40)
      have a4 := upC hk1 (.cells #[.int .u8 0, .int .u64 0, .int .u64 0] 40)
      go_region_law (first
        | (refine step_fn (by rfl) 141 call141 _ _ (by rfl) #[.map (some mp), .agg #[.int .u8 k.k0, .int .u8 k.k1, .int .u8 k.k2, .int .u8 k.k3, .int .u8 k.k4, .int .u8 k.k5, .int .u8 k.k6, .int .u8 k.k7]] (by simp only [List.map_toArray, List.map_cons, List.map_nil]; rfl) (H141.out _ (by first | exact MapG.kept HM1.out rfl | exact MapG.kept HM1.out (heapOld _ _ (MapG.lt HM1.out)))) ?_; rintro e w2 ⟨nb, rfl, hnb, hM2, hB2⟩; refine ⟨_, rfl, ?_⟩; have HM2 := hide hM2; have HB2 := hide hB2; have HNB := hide hnb; clear hM2 hB2 hnb)
        | (refine step_fn (by rfl) 134 call134 _ _ (by rfl) #[.pointer (some ⟨sb, 2, none⟩), .map (some nb), .agg #[.int .u8 1, .int .u64 0, .int .u64 0]] (by simp only [List.map_toArray, List.map_cons, List.map_nil]; rfl) (h134.out _ nb (by
            first
              | exact HL.out _ (HB1.out.drew.drew.trans (HB2.out.mono (by simp; omega)))
              | exact HL.out _ ((HB1.out.drew.drew.alloc (by simp; omega) _).trans (HB2.out.mono (by simp; omega)))
              | exact HL.out _ ((HB1.out.drew.drew.trans (HB2.out.mono (by simp; omega))).alloc (by have := HB2.out.size; simp at this; omega) _))
            (by first | exact HM2.out | exact MapG.kept HM2.out (heapOld _ _ (MapG.lt HM2.out))) (fun e => by have := hFl _ e; have := HNB.out; simp at this; omega)) ?_; rintro e w3 ⟨rfl, c', F', hK3, hL3, hk3, hF3⟩; refine ⟨_, rfl, ?_⟩
           have s2 := HB2.out.size
           have n2 := HNB.out
           have m2 := MapG.lt HM2.out
           simp at s2 n2
           have kw : Keep FF w w3 := Keep.then (S := FF) (Keep.of_below (by
             first
              | exact HB1.out.drew.drew.trans (HB2.out.mono (by simp; omega))
              | exact (HB1.out.drew.drew.alloc (by simp; omega) _).trans (HB2.out.mono (by simp; omega))
              | exact (HB1.out.drew.drew.trans (HB2.out.mono (by simp; omega))).alloc (by omega) _)) hk3 (fun _ _ h => h)
           have r3 : w3.heap[w.heap.size + 1]? = some (.cells #[.int .u8 0, .int .u64 0, .int .u64 0] 40) := by
             first
              | exact (hk3.block _ (by omega) (fun e => by have := hFl _ e; omega)).trans ((HB2.out.block _ (by simp; omega)).trans HR1.out)
              | exact (hk3.block _ (by omega) (fun e => by have := hFl _ e; omega)).trans ((HB2.out.block _ (by simp; omega)).trans ((heapOld _ _ (by simp; omega)).trans HR1.out))
              | exact (hk3.block _ (by simp; omega) (fun e => by have := hFl _ e; omega)).trans ((heapOld _ _ (by omega)).trans ((HB2.out.block _ (by simp; omega)).trans HR1.out))
           have hF3' : ∀ b, F' b → FF b ∨ w.heap.size + 1 < b := fun b hb => (hF3 b hb).imp_right (fun h => by (try simp at h); omega)
           first
             | (have hq := (hk3.block w2.heap.size (by simp) (fun e => by have := hFl _ e; omega)).trans (heapNew _ _); have nR : ¬ F' w2.heap.size := fun e => (hF3 _ e).elim (fun h => by have := hFl _ h; omega) (fun h => by (try simp at h); omega))
             | (have hq := (hk3.block (W.heap.size + 1) (by omega) (fun e => by have := hFl _ e; omega)).trans ((HB2.out.block (W.heap.size + 1) (by simp)).trans (heapN (by simp))); have nR : ¬ F' (W.heap.size + 1) := fun e => (hF3 _ e).elim (fun h => by have := hFl _ h; omega) (fun h => by (try simp at h); omega))
             | skip
           (try have f1 := cellB hq)
           (try have f2 := frozenB hq)
           (try have HQ := hide hq)
           (try clear hq)
           have HK3 := hide hK3
           have HL3 := hide hL3
           have Hk3 := hide kw
           have HF3 := hide hF3'
           have HR3 := hide r3
           have s3 := hk3.size
           (try simp at s3)
           clear hK3 hL3 hk3 hF3 r3 kw hF3'))
      all_goals (go_wp2_with fail; go_meet)
      all_goals first
        | exact ⟨_, _, c', F', rfl, rfl, heapNew _ _, (heapOld _ _ (ltB HR3.out)).trans HR3.out, HK3.out, HL3.out.kept (by simp) (fun b hb => heapOld _ _ (HL3.out.lt b hb)), Hk3.out.alloc _, HF3.out⟩
        | exact finK 1 0 0 HQ.out HR3.out HK3.out HL3.out Hk3.out HF3.out nR (by omega) (by omega)
    case rest =>
      obtain ⟨X, R, c', F', rfl, rfl, q1, q2, q3, q4, q5, q6⟩ := hcut
      have b1 := cellB q1
      have b2 := cellB q2
      have b3 := frozenB q2
      have HQ := hide (And.intro q3 (And.intro q4 (And.intro q5 q6)))
      have nR : ¬ w.heap.size + 1 = R := fun e => by rw [← e, q2] at q1; simp at q1
      clear q1 q2 q3 q4 q5 q6 a1 a2
      go_wp2_with fail
      obtain ⟨q3, q4, q5, q6⟩ := HQ.out
      refine bodyPost_ret (v := .agg #[.int .u8 1, .int .u64 0, .int .u64 0]) (by simp [results, Tryz.results113, go_sem, b2]) rfl ⟨rfl, c', q3, ?_⟩
      exact finOut 1 0 0 q4 q5 hFl (by omega) q6
end Go.Proofs.YtnlgndpcddngoaaGreatDoor
