import Derived.Test.YtnlgndpcddngoaaGreatDoorZc32
import Derived.Test.YtnlgndpcddngoaaGreatDoorZc33
set_option linter.unusedSectionVars false
namespace Go.Proofs.YtnlgndpcddngoaaGreatDoor
open Go.RowKit Go.Maps
variable [dK] [iK]

set_option maxRecDepth 100000 in
set_option maxHeartbeats 4000000 in
theorem bdef_new (sb mp : Nat) (s0 s1 sp adm : Value) (time blk : Int) (es : Es) (k : Ky) (w : World) (hs : w.heap[sb]? = some (.cells #[s0, s1, .int .u64 time, .int .u64 blk, .map (some mp), sp, adm] 130)) (hm : MapE w mp es) (hk : k.ok) (kd x y : Int) (hso : ((kd = 1 ∧ 1 ≤ x) ∨ (kd = 2 ∧ 1 ≤ y))) (hf : fndG k es = none) (hl : es.length < 12) (st : Int) (db kk : Nat) (c : Led) (FF : Nat → Prop)
    (HL : Hid (∀ w1, Below w.heap.size w w1 → LedAt w1 st sb db (kk + 2) c FF)) (hFl : ∀ b, FF b → b < w.heap.size)
    (h134 : Hid (∀ w1 mp', LedAt w1 st sb db (kk + 2) c FF → MapE w1 mp' (putG k (⟨kd, x, y, 0, 0⟩, ⟨kd, x, y, 0, 0⟩) es) → ¬ FF mp' → Calls Tryz.prog 134 #[.pointer (some ⟨sb, 2, none⟩), .map (some mp'), .agg #[.int .u8 1, .int .u64 0, .int .u64 0]] w1 fun e w' => e = .returned (.agg #[.int .u8 1, .int .u64 0, .int .u64 0]) ∧ ∃ c' F', Kept c c' (putG k (⟨kd, x, y, 0, 0⟩, ⟨kd, x, y, 0, 0⟩) es) ∧ LedAt w' st sb db kk c' F' ∧ Keep FF w1 w' ∧ ∀ b, F' b → FF b ∨ w1.heap.size ≤ b ∨ b = mp')) :
    Calls Tryz.prog 109 #[.pointer (some ⟨sb, 2, none⟩), .agg #[.int .u8 k.k0, .int .u8 k.k1, .int .u8 k.k2, .int .u8 k.k3, .int .u8 k.k4, .int .u8 k.k5, .int .u8 k.k6, .int .u8 k.k7], .agg #[.int .u8 kd, .int .u64 x, .int .u64 y]] w fun e w' => e = .returned (.agg #[.int .u8 1, .int .u64 0, .int .u64 0]) ∧ ∃ c', Kept c c' (putG k (⟨kd, x, y, 0, 0⟩, ⟨kd, x, y, 0, 0⟩) es) ∧ OutL w st sb db kk c' FF w' := by
  have hmlt := MapG.lt hm
  have hsb := ltB hs
  go_enter Tryz.func109, Tryz.ntmps109
  go_wp2_with fail
  refine (qnew_ok kd x y _ hso).mono ?_
  rintro e w1 ⟨rfl, hb1⟩
  have hb1' : Below w.heap.size w w1 := ((((Below.refl _ w).alloc (Nat.le_refl _) _).alloc (by simp) _).alloc (by simp <;> omega) _).trans (hb1.mono (by simp <;> omega))
  have hk9 : w1.heap[w.heap.size]? = some (.cells #[.int .u8 k.k0, .int .u8 k.k1, .int .u8 k.k2, .int .u8 k.k3, .int .u8 k.k4, .int .u8 k.k5, .int .u8 k.k6, .int .u8 k.k7] 63) := (hb1.block _ (by simp <;> omega)).trans (upB (upB (heapNew _ _) _) _)
  have hr9 : w1.heap[w.heap.size + 2]? = some (.cells #[.int .u8 0, .int .u64 0, .int .u64 0] 40) := (hb1.block _ (by simp <;> omega)).trans (heapN (by simp))
  have hs9 : w1.heap[sb]? = some (.cells #[s0, s1, .int .u64 time, .int .u64 blk, .map (some mp), sp, adm] 130) := (hb1.block _ (by simp <;> omega)).trans (upB (upB (upB hs _) _) _)
  have hm9 : MapE w1 mp es := MapG.kept hm (hb1'.block mp hmlt)
  clear hb1 hs hm
  go_upto_region 2 with fail
  obtain ⟨W, hW⟩ : ∃ W, W = w1.alloc (.cells #[.int .u8 kd, .int .u64 x, .int .u64 y, .int .u64 0, .int .u64 0] 173) := ⟨_, rfl⟩
  rw [← hW]
  have hB : Below w.heap.size w W := hW ▸ hb1'.alloc hb1'.size _
  have hk0 : W.heap[w.heap.size]? = some (.cells #[.int .u8 k.k0, .int .u8 k.k1, .int .u8 k.k2, .int .u8 k.k3, .int .u8 k.k4, .int .u8 k.k5, .int .u8 k.k6, .int .u8 k.k7] 63) := hW ▸ upB hk9 _
  have hr0 : W.heap[w.heap.size + 2]? = some (.cells #[.int .u8 0, .int .u64 0, .int .u64 0] 40) := hW ▸ upB hr9 _
  have hs0 : W.heap[sb]? = some (.cells #[s0, s1, .int .u64 time, .int .u64 blk, .map (some mp), sp, adm] 130) := hW ▸ upB hs9 _
  have hq0 : W.heap[w1.heap.size]? = some (.cells #[.int .u8 kd, .int .u64 x, .int .u64 y, .int .u64 0, .int .u64 0] 173) := hW ▸ heapNew _ _
  have hm0 : MapE W mp es := hW ▸ MapG.kept hm9 (heapOld _ _ (MapG.lt hm9))
  have lr9 := ltB hr9
  clear hW hb1' hk9 hr9 hs9 hm9
  have a1 := cellB hk0
  have a2 := upC hk0 (.cells #[.int .u8 0, .int .u64 0, .int .u64 0, .int .u64 0, .int .u64 0, .int .u8 0, .int .u64 0, .int .u64 0, .int .u64 0, .int .u64 0] 177)
  have a3 := cellB hs0
  have a4 := upC hs0 (.cells #[.int .u8 0, .int .u64 0, .int .u64 0, .int .u64 0, .int .u64 0, .int .u8 0, .int .u64 0, .int .u64 0, .int .u64 0, .int .u64 0] 177)
  have a5 := lookE0 (w := W.drew) (MapG.kept hm0 rfl) hk hf
  have a6 := lookE0 (w := (W.alloc (.cells #[.int .u8 0, .int .u64 0, .int .u64 0, .int .u64 0, .int .u64 0, .int .u8 0, .int .u64 0, .int .u64 0, .int .u64 0, .int .u64 0] 177)).drew) (MapG.kept hm0 (heapOld _ _ (MapG.lt hm0))) hk hf
  go_cut [9, 10] (fun s5 s6 wx => s5 = .pointer (some ⟨W.heap.size, 0, none⟩) ∧ s6 = .bool false ∧ wx = (W.alloc (.cells #[.int .u8 0, .int .u64 0, .int .u64 0, .int .u64 0, .int .u64 0, .int .u8 0, .int .u64 0, .int .u64 0, .int .u64 0, .int .u64 0] 177)).drew)
  case first =>
    go_region
    all_goals (go_wp2_with fail; go_meet)
    all_goals exact ⟨rfl, rfl, rfl⟩
  case rest =>
    obtain ⟨rfl, rfl, rfl⟩ := hcut
    have hk1 := upB hk0 (.cells #[.int .u8 0, .int .u64 0, .int .u64 0, .int .u64 0, .int .u64 0, .int .u8 0, .int .u64 0, .int .u64 0, .int .u64 0, .int .u64 0] 177)
    have hr1 := upB hr0 (.cells #[.int .u8 0, .int .u64 0, .int .u64 0, .int .u64 0, .int .u64 0, .int .u8 0, .int .u64 0, .int .u64 0, .int .u64 0, .int .u64 0] 177)
    have hs1 := upB hs0 (.cells #[.int .u8 0, .int .u64 0, .int .u64 0, .int .u64 0, .int .u64 0, .int .u8 0, .int .u64 0, .int .u64 0, .int .u64 0, .int .u64 0] 177)
    have hq1 := upB hq0 (.cells #[.int .u8 0, .int .u64 0, .int .u64 0, .int .u64 0, .int .u64 0, .int .u8 0, .int .u64 0, .int .u64 0, .int .u64 0, .int .u64 0] 177)
    have hm1 : MapE (W.alloc (.cells #[.int .u8 0, .int .u64 0, .int .u64 0, .int .u64 0, .int .u64 0, .int .u8 0, .int .u64 0, .int .u64 0, .int .u64 0, .int .u64 0] 177)) mp es := MapG.kept hm0 (heapOld _ _ (MapG.lt hm0))
    have hB1 := hB.alloc hB.size (.cells #[.int .u8 0, .int .u64 0, .int .u64 0, .int .u64 0, .int .u64 0, .int .u8 0, .int .u64 0, .int .u64 0, .int .u64 0, .int .u64 0] 177)
    have hB0 := hB.size
    clear a1 a2 a3 a4 a5 a6 hk0 hr0 hs0 hm0 hq0
    have b3 := cellB hs1
    have hlen : Hid ((Builtin.len_ #[121] 3 #[.map (some mp)]).run Tryz.prog (W.alloc (.cells #[.int .u8 0, .int .u64 0, .int .u64 0, .int .u64 0, .int .u64 0, .int .u8 0, .int .u64 0, .int .u64 0, .int .u64 0, .int .u64 0] 177)).drew = .ok (.int .i64 es.length) (W.alloc (.cells #[.int .u8 0, .int .u64 0, .int .u64 0, .int .u64 0, .int .u64 0, .int .u8 0, .int .u64 0, .int .u64 0, .int .u64 0, .int .u64 0] 177)).drew) := hide (MapG.len (w := (W.alloc (.cells #[.int .u8 0, .int .u64 0, .int .u64 0, .int .u64 0, .int .u64 0, .int .u8 0, .int .u64 0, .int .u64 0, .int .u64 0, .int .u64 0] 177)).drew) (MapG.kept hm1 rfl) undE 3)
    have h12 : decide ((12 : Int) ≤ es.length) = false := by simp; omega
    go_upto_region 7 with fail
    obtain ⟨V, hV⟩ : ∃ V, V = (W.alloc (.cells #[.int .u8 0, .int .u64 0, .int .u64 0, .int .u64 0, .int .u64 0, .int .u8 0, .int .u64 0, .int .u64 0, .int .u64 0, .int .u64 0] 177)).drew := ⟨_, rfl⟩
    rw [← hV] at hlen ⊢
    have hr2 : V.heap[w.heap.size + 2]? = some (.cells #[.int .u8 0, .int .u64 0, .int .u64 0] 40) := hV ▸ hr1
    have hk2 : V.heap[w.heap.size]? = some (.cells #[.int .u8 k.k0, .int .u8 k.k1, .int .u8 k.k2, .int .u8 k.k3, .int .u8 k.k4, .int .u8 k.k5, .int .u8 k.k6, .int .u8 k.k7] 63) := hV ▸ hk1
    have hs2 : V.heap[sb]? = some (.cells #[s0, s1, .int .u64 time, .int .u64 blk, .map (some mp), sp, adm] 130) := hV ▸ hs1
    have hq2 : V.heap[w1.heap.size]? = some (.cells #[.int .u8 kd, .int .u64 x, .int .u64 y, .int .u64 0, .int .u64 0] 173) := hV ▸ hq1
    have hm2 : MapE V mp es := hV ▸ MapG.kept hm1 rfl
    have hB2 : Below w.heap.size w V := hV ▸ hB1.drew
    clear hV hr1 hk1 hs1 hm1 hB1 b3 hq1
    have b3 := cellB hs2
    have b4 := cellB hk2
    have b5 := cellB hq2
    have l2 := ltB hr2
    have HM1 := hide hm2
    have HB1 := hide hB2
    have HR1 := hide hr2
    have hVs := hB2.size
    clear hm2 hB2 hr2
    go_upto_region 9 with (at_len; refine wpList_len_run _ (by rfl) _ _ (by rfl) _ (by rfl) _ hlen.out ?_)
    have H135 := hide (fun w1 (h : MapE w1 mp es) => with135 mp es k (⟨kd, x, y, 0, 0⟩, ⟨kd, x, y, 0, 0⟩) w1 h (by omega) hk)
    go_region_law (first
      | (refine step_fn (by rfl) 135 call135 _ _ (by rfl) #[.map (some mp), .agg #[.int .u8 k.k0, .int .u8 k.k1, .int .u8 k.k2, .int .u8 k.k3, .int .u8 k.k4, .int .u8 k.k5, .int .u8 k.k6, .int .u8 k.k7], .agg #[.int .u8 kd, .int .u64 x, .int .u64 y, .int .u64 0, .int .u64 0, .int .u8 kd, .int .u64 x, .int .u64 y, .int .u64 0, .int .u64 0]] (by simp only [List.map_toArray, List.map_cons, List.map_nil]; rfl) (H135.out _ (MapG.kept HM1.out rfl)) ?_; rintro e w2 ⟨nb, rfl, hnb, hM2, hB2⟩; refine ⟨_, rfl, ?_⟩; have HM2 := hide hM2; have HB2 := hide hB2; have HNB := hide hnb; clear hM2 hB2 hnb)
      | (refine step_fn (by rfl) 134 call134 _ _ (by rfl) #[.pointer (some ⟨sb, 2, none⟩), .map (some nb), .agg #[.int .u8 1, .int .u64 0, .int .u64 0]] (by simp only [List.map_toArray, List.map_cons, List.map_nil]; rfl) (h134.out w2 nb (HL.out _ (HB1.out.drew.trans (HB2.out.mono (by simp; omega)))) HM2.out (fun e => by have := hFl _ e; have := HNB.out; simp at this; omega)) ?_; rintro e w3 ⟨rfl, c', F', hK3, hL3, hk3, hF3⟩; refine ⟨_, rfl, ?_⟩
         have s2 := HB2.out.size
         have n2 := HNB.out
         simp at s2 n2
         have kw : Keep FF w w3 := Keep.then (S := FF) (Keep.of_below (HB1.out.drew.trans (HB2.out.mono (by simp; omega)))) hk3 (fun _ _ h => h)
         have r3 : w3.heap[w.heap.size + 2]? = some (.cells #[.int .u8 0, .int .u64 0, .int .u64 0] 40) := (hk3.block _ (by omega) (fun e => by have := hFl _ e; omega)).trans ((HB2.out.block _ (by simp; omega)).trans HR1.out)
         have HF3 : Hid (∀ b, F' b → FF b ∨ w.heap.size + 2 < b) := hide (fun b hb => (hF3 b hb).imp_right (fun h => by omega))
         have f1 := cellB r3
         have f2 := frozenB r3
         have HK3 := hide hK3
         have HL3 := hide hL3
         have Hk3 := hide kw
         clear hK3 hL3 hk3 hF3 r3 kw))
    all_goals go_wp2
    all_goals (
      refine bodyPost_ret (v := .agg #[.int .u8 1, .int .u64 0, .int .u64 0]) (by simp [results, Tryz.results109, go_sem, f1]) rfl ⟨rfl, c', HK3.out, ?_⟩
      exact finOut 1 0 0 HL3.out Hk3.out hFl (by omega) HF3.out)
end Go.Proofs.YtnlgndpcddngoaaGreatDoor
