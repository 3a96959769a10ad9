import Derived.Test.YtlamgpeiolfffaaGreatDoorZy00
import Derived.Deep.RegionLaw
set_option linter.unusedSectionVars false
namespace Go.Proofs.YtlamgpeiolfffaaGreatDoor
open Go.RowKit Go.Maps
variable [dK] [iK]

set_option maxRecDepth 100000 in
set_option maxHeartbeats 2000000 in
theorem step_delete {P : Program} {ops : Array Oper} {o : Oper} {a : Act} {w : World} {K : Act → World → Prop} {Q : Exit → Act → World → Prop} {E : Prop}
    (hg : o.guard = none) (m x : Operand) (t k : TypeId) (hop : o.op = Op.call { callee := Callee.builtin Builtin.delete, args := #[m, x], argTypes := #[t, k] })
    (vm vk : Value) (hm : a.eval m = vm) (hx : a.eval x = vk) (w' : World) (hrun : (Builtin.delete_ #[t, k] o.type #[vm, vk]).run P w = .ok (.tuple #[]) w') (hK : K (a.put o.dst (.tuple #[])) w') :
    if Region.wanted o (yielded ops a.tmps) = true then Oper.wp P o a w K Q else E := by
  have hw : Region.wanted o (yielded ops a.tmps) = true := by simp [Region.wanted, hg]
  rw [if_pos hw]
  unfold Oper.wp
  simp [execOp, hop, resolve, invoke, builtin, hm, hx, hrun, Result.andThen]
  exact hK

set_option maxRecDepth 100000 in
set_option maxHeartbeats 2000000 in
theorem bremove_some (sb : Nat) (s0 s1 adm : Value) (time : Int) (mp : Option Nat) (ks : List (Ky × Qt)) (k : Ky) (w : World) (hs : w.heap[sb]? = some (.cells #[s0, s1, .int .u64 time, .map mp, adm] 119)) (hm : MapX w mp ks) (hk : k.ok) (hnd : (ks.map Prod.fst).Nodup) (q : Qt) (hf : fnd k ks = some q) :
    Calls Tryz.prog 106 #[.pointer (some ⟨sb, 2, none⟩), .agg #[.int .u8 k.k0, .int .u8 k.k1, .int .u8 k.k2, .int .u8 k.k3, .int .u8 k.k4, .int .u8 k.k5, .int .u8 k.k6, .int .u8 k.k7]] w fun e w' => e = .returned (.agg #[.int .u8 1, .int .u64 0, .int .u64 0]) ∧ w'.heap[sb]? = some (.cells #[s0, s1, .int .u64 time, .map mp, adm] 119) ∧ MapX w' mp (del k ks) ∧ Keep (fun b => mp = some b) w w' := by
  have hmlt := hm.lt
  have hmap : ∃ mb, mp = some mb := by
    cases mp with
    | none =>
      have e : ks = [] := hm
      subst e; simp [fnd] at hf
    | some mb => exact ⟨mb, rfl⟩
  obtain ⟨mb, rfl⟩ := hmap
  have hne : mb ≠ sb := by
    intro e; subst e
    obtain ⟨_, _, ⟨es, clock, h1, _⟩, _⟩ := hm
    rw [hs] at h1; simp at h1
  go_enter Tryz.func106, Tryz.ntmps106
  go_upto_region 1 with fail
  obtain ⟨W, hW⟩ : ∃ W, W = (w.alloc (.cells #[.int .u8 k.k0, .int .u8 k.k1, .int .u8 k.k2, .int .u8 k.k3, .int .u8 k.k4, .int .u8 k.k5, .int .u8 k.k6, .int .u8 k.k7] 56)).alloc (.cells #[.int .u8 0, .int .u64 0, .int .u64 0] 40) := ⟨_, rfl⟩
  rw [← hW]
  have hB : Below w.heap.size w W := hW ▸ ((Below.refl _ w).alloc (Nat.le_refl _) _).alloc (by simp) _
  have hk0 : W.heap[w.heap.size]? = some (.cells #[.int .u8 k.k0, .int .u8 k.k1, .int .u8 k.k2, .int .u8 k.k3, .int .u8 k.k4, .int .u8 k.k5, .int .u8 k.k6, .int .u8 k.k7] 56) := hW ▸ upB (heapNew _ _) _
  have hr0 : W.heap[w.heap.size + 1]? = some (.cells #[.int .u8 0, .int .u64 0, .int .u64 0] 40) := hW ▸ heapN (by simp)
  have hs0 : W.heap[sb]? = some (.cells #[s0, s1, .int .u64 time, .map (some mb), adm] 119) := hW ▸ upB (upB hs _) _
  have hm0 : MapX W (some mb) ks := hW ▸ (hm.alloc _).alloc _
  have hsb := ltB hs
  have hWr := ltB hr0
  clear hW hs hm
  have a1 := cellB hk0
  have a2 := upC hk0 (.cells #[.int .u8 0, .int .u64 0, .int .u64 0, .int .u64 0, .int .u64 0] 231)
  have a3 := cellB hs0
  have a4 := upC hs0 (.cells #[.int .u8 0, .int .u64 0, .int .u64 0, .int .u64 0, .int .u64 0] 231)
  have a5 := hm0.drew.look1 hk hf
  have a6 := (hm0.alloc (.cells #[.int .u8 0, .int .u64 0, .int .u64 0, .int .u64 0, .int .u64 0] 231)).drew.look1 hk hf
  go_cut [5, 6] (fun s5 s6 wx => s5 = .pointer (some ⟨W.heap.size, 0, none⟩) ∧ s6 = .bool true ∧ wx = (W.alloc (.cells #[.int .u8 q.kd, .int .u64 q.x, .int .u64 q.y, .int .u64 q.lv, .int .u64 q.wn] 231)).drew)
  case first =>
    go_region
    all_goals (go_wp2_with fail; go_meet)
    all_goals exact ⟨rfl, rfl, rfl⟩
  case rest =>
    obtain ⟨rfl, rfl, rfl⟩ := hcut
    have hz0 : (W.alloc (.cells #[.int .u8 q.kd, .int .u64 q.x, .int .u64 q.y, .int .u64 q.lv, .int .u64 q.wn] 231)).heap[W.heap.size]? = some (.cells #[.int .u8 q.kd, .int .u64 q.x, .int .u64 q.y, .int .u64 q.lv, .int .u64 q.wn] 231) := heapNew _ _
    have hk1 := upB hk0 (.cells #[.int .u8 q.kd, .int .u64 q.x, .int .u64 q.y, .int .u64 q.lv, .int .u64 q.wn] 231)
    have hr1 := upB hr0 (.cells #[.int .u8 q.kd, .int .u64 q.x, .int .u64 q.y, .int .u64 q.lv, .int .u64 q.wn] 231)
    have hs1 := upB hs0 (.cells #[.int .u8 q.kd, .int .u64 q.x, .int .u64 q.y, .int .u64 q.lv, .int .u64 q.wn] 231)
    have hm1 := hm0.alloc (.cells #[.int .u8 q.kd, .int .u64 q.x, .int .u64 q.y, .int .u64 q.lv, .int .u64 q.wn] 231)
    have hB1 := hB.alloc hB.size (.cells #[.int .u8 q.kd, .int .u64 q.x, .int .u64 q.y, .int .u64 q.lv, .int .u64 q.wn] 231)
    have hB0 := hB.size
    clear a1 a2 a3 a4 a5 a6 hk0 hr0 hs0 hm0
    obtain ⟨V, hV⟩ : ∃ V, V = (W.alloc (.cells #[.int .u8 q.kd, .int .u64 q.x, .int .u64 q.y, .int .u64 q.lv, .int .u64 q.wn] 231)).drew := ⟨_, rfl⟩
    rw [← hV]
    have hk2 : V.heap[w.heap.size]? = some (.cells #[.int .u8 k.k0, .int .u8 k.k1, .int .u8 k.k2, .int .u8 k.k3, .int .u8 k.k4, .int .u8 k.k5, .int .u8 k.k6, .int .u8 k.k7] 56) := hV ▸ hk1
    have hr2 : V.heap[w.heap.size + 1]? = some (.cells #[.int .u8 0, .int .u64 0, .int .u64 0] 40) := hV ▸ hr1
    have hs2 : V.heap[sb]? = some (.cells #[s0, s1, .int .u64 time, .map (some mb), adm] 119) := hV ▸ hs1
    have hm2 : MapX V (some mb) ks := hV ▸ hm1.drew
    have hB2 : Below w.heap.size w V := hV ▸ hB1.drew
    clear hV hz0 hk1 hr1 hs1 hm1 hB1
    have hmb := hmlt mb rfl
    obtain ⟨w', hrun, ht, hm'⟩ := MapOf.drop (w := V.drew) (MapOf.kept hm2 rfl) hnd hk (by rw [hf]; rfl) 0
    have hrun' : Hid ((Builtin.delete_ #[111, 56] 0 #[.map (some mb), .agg #[.int .u8 k.k0, .int .u8 k.k1, .int .u8 k.k2, .int .u8 k.k3, .int .u8 k.k4, .int .u8 k.k5, .int .u8 k.k6, .int .u8 k.k7]]).run Tryz.prog V.drew = .ok (.tuple #[]) w') := hrun
    have a1 := cellB hk2
    have a3 := cellB hs2
    have hg := ht.grown
    have hr3 : w'.heap[w.heap.size + 1]? = some (.cells #[.int .u8 0, .int .u64 0, .int .u64 0] 40) := (hg.block _ (ltB hr2) (fun e => by injection e; omega)).trans hr2
    have hs3 : w'.heap[sb]? = some (.cells #[s0, s1, .int .u64 time, .map (some mb), adm] 119) := (hg.block _ (ltB hs2) (fun e => by injection e; omega)).trans hs2
    have d1 := cellB hr3
    have d2 := frozenB hr3
    go_upto_region 4 with fail
    go_region_law (refine step_delete (by rfl) _ _ _ _ (by rfl) _ _ (by rfl) (by rfl) w' hrun'.out ?_)
    all_goals go_wp2
    all_goals (
      refine bodyPost_ret (v := .agg #[.int .u8 1, .int .u64 0, .int .u64 0]) (by simp [results, Tryz.results106, go_sem, d1]) rfl ⟨rfl, ?_, ?_, ?_⟩
      · repeat (refine (heapSetO (by omega) _ _).trans ?_)
        exact hs3
      · refine MapX.kept (w := w') hm' fun b hb => ?_
        injection hb with hb
        repeat (refine (heapSetO (by omega) _ _).trans ?_)
        rfl
      · repeat (refine Keep.set ?_ (Or.inr (by omega)) _ _)
        exact ((Keep.of_below hB2).drew).then (turned_keep ht) (fun i hi e => by rw [e]))

end Go.Proofs.YtlamgpeiolfffaaGreatDoor
