import Derived.Test.YtlamgpeiolfffaaGreatDoorZz17
import Derived.Maps.Own
set_option linter.unusedSectionVars false
namespace Go.Proofs.YtlamgpeiolfffaaGreatDoor
open Go.RowKit Go.Maps
variable [dK] [iK]

set_option maxRecDepth 100000 in
set_option maxHeartbeats 2000000 in
theorem bremove_none (sb : Nat) (s0 s1 adm : Value) (time : Int) (mp : Option Nat) (ks : List (Ky × Qt)) (k : Ky) (w : World) (hs : w.heap[sb]? = some (.cells #[s0, s1, .int .u64 time, .map mp, adm] 119)) (hm : MapX w mp ks) (hk : k.ok) (hf : fnd k ks = none) :
    Calls Tryz.prog 106 #[.pointer (some ⟨sb, 2, none⟩), .agg #[.int .u8 k.k0, .int .u8 k.k1, .int .u8 k.k2, .int .u8 k.k3, .int .u8 k.k4, .int .u8 k.k5, .int .u8 k.k6, .int .u8 k.k7]] w fun e w' => e = .returned (.agg #[.int .u8 4, .int .u64 0, .int .u64 0]) ∧ Below w.heap.size w w' := by
  go_enter Tryz.func106, Tryz.ntmps106
  go_upto_region 1 with fail
  obtain ⟨W, hW⟩ : ∃ W, W = (w.alloc (.cells #[.int .u8 k.k0, .int .u8 k.k1, .int .u8 k.k2, .int .u8 k.k3, .int .u8 k.k4, .int .u8 k.k5, .int .u8 k.k6, .int .u8 k.k7] 56)).alloc (.cells #[.int .u8 0, .int .u64 0, .int .u64 0] 40) := ⟨_, rfl⟩
  rw [← hW]
  have hB : Below w.heap.size w W := hW ▸ ((Below.refl _ w).alloc (Nat.le_refl _) _).alloc (by simp) _
  have hk0 : W.heap[w.heap.size]? = some (.cells #[.int .u8 k.k0, .int .u8 k.k1, .int .u8 k.k2, .int .u8 k.k3, .int .u8 k.k4, .int .u8 k.k5, .int .u8 k.k6, .int .u8 k.k7] 56) := hW ▸ upB (heapNew _ _) _
  have hr0 : W.heap[w.heap.size + 1]? = some (.cells #[.int .u8 0, .int .u64 0, .int .u64 0] 40) := hW ▸ heapN (by simp)
  have hs0 : W.heap[sb]? = some (.cells #[s0, s1, .int .u64 time, .map mp, adm] 119) := hW ▸ upB (upB hs _) _
  have hm0 : MapX W mp ks := hW ▸ (hm.alloc _).alloc _
  have hsb := ltB hs
  clear hW hs hm
  have a1 := cellB hk0
  have a2 := upC hk0 (.cells #[.int .u8 0, .int .u64 0, .int .u64 0, .int .u64 0, .int .u64 0] 231)
  have a3 := cellB hs0
  have a4 := upC hs0 (.cells #[.int .u8 0, .int .u64 0, .int .u64 0, .int .u64 0, .int .u64 0] 231)
  have a5 := hm0.drew.look0 hk hf
  have a6 := (hm0.alloc (.cells #[.int .u8 0, .int .u64 0, .int .u64 0, .int .u64 0, .int .u64 0] 231)).drew.look0 hk hf
  go_cut [5, 6] (fun s5 s6 wx => s5 = .pointer (some ⟨W.heap.size, 0, none⟩) ∧ s6 = .bool false ∧ wx = (W.alloc (.cells #[.int .u8 0, .int .u64 0, .int .u64 0, .int .u64 0, .int .u64 0] 231)).drew)
  case first =>
    go_region
    all_goals (go_wp2_with fail; go_meet)
    all_goals exact ⟨rfl, rfl, rfl⟩
  case rest =>
    obtain ⟨rfl, rfl, rfl⟩ := hcut
    have hz0 : (W.alloc (.cells #[.int .u8 0, .int .u64 0, .int .u64 0, .int .u64 0, .int .u64 0] 231)).heap[W.heap.size]? = some (.cells #[.int .u8 0, .int .u64 0, .int .u64 0, .int .u64 0, .int .u64 0] 231) := heapNew _ _
    have hk1 := upB hk0 (.cells #[.int .u8 0, .int .u64 0, .int .u64 0, .int .u64 0, .int .u64 0] 231)
    have hr1 := upB hr0 (.cells #[.int .u8 0, .int .u64 0, .int .u64 0, .int .u64 0, .int .u64 0] 231)
    have hs1 := upB hs0 (.cells #[.int .u8 0, .int .u64 0, .int .u64 0, .int .u64 0, .int .u64 0] 231)
    have hm1 := hm0.alloc (.cells #[.int .u8 0, .int .u64 0, .int .u64 0, .int .u64 0, .int .u64 0] 231)
    have hB1 := hB.alloc hB.size (.cells #[.int .u8 0, .int .u64 0, .int .u64 0, .int .u64 0, .int .u64 0] 231)
    have hB0 := hB.size
    clear a1 a2 a3 a4 a5 a6 hk0 hr0 hs0 hm0
    have b1 := cellB hr1
    have b2 := frozenB hr1
    go_wp2
    refine bodyPost_ret (v := .agg #[.int .u8 4, .int .u64 0, .int .u64 0]) (by simp [results, Tryz.results106, go_sem, b1]) rfl ⟨rfl, Below.drew ?_⟩
    repeat (refine Below.setCell ?_ (by simp <;> omega) _)
    exact hB1

set_option maxRecDepth 100000 in
set_option maxHeartbeats 2000000 in
theorem badmit_none (sb : Nat) (s0 s1 adm : Value) (time : Int) (mp : Option Nat) (ks : List (Ky × Qt)) (k : Ky) (w : World) (hs : w.heap[sb]? = some (.cells #[s0, s1, .int .u64 time, .map mp, adm] 119)) (hm : MapX w mp ks) (hk : k.ok) (hf : fnd k ks = none) (n : Int) :
    Calls Tryz.prog 104 #[.pointer (some ⟨sb, 2, none⟩), .agg #[.int .u8 k.k0, .int .u8 k.k1, .int .u8 k.k2, .int .u8 k.k3, .int .u8 k.k4, .int .u8 k.k5, .int .u8 k.k6, .int .u8 k.k7], .int .u64 n] w fun e w' => e = .returned (.agg #[.int .u8 4, .int .u64 0, .int .u64 0]) ∧ Below w.heap.size w w' := by
  go_enter Tryz.func104, Tryz.ntmps104
  go_upto_region 1 with fail
  obtain ⟨W, hW⟩ : ∃ W, W = (w.alloc (.cells #[.int .u8 k.k0, .int .u8 k.k1, .int .u8 k.k2, .int .u8 k.k3, .int .u8 k.k4, .int .u8 k.k5, .int .u8 k.k6, .int .u8 k.k7] 56)).alloc (.cells #[.int .u8 0, .int .u64 0, .int .u64 0] 40) := ⟨_, rfl⟩
  rw [← hW]
  have hB : Below w.heap.size w W := hW ▸ ((Below.refl _ w).alloc (Nat.le_refl _) _).alloc (by simp) _
  have hk0 : W.heap[w.heap.size]? = some (.cells #[.int .u8 k.k0, .int .u8 k.k1, .int .u8 k.k2, .int .u8 k.k3, .int .u8 k.k4, .int .u8 k.k5, .int .u8 k.k6, .int .u8 k.k7] 56) := hW ▸ upB (heapNew _ _) _
  have hr0 : W.heap[w.heap.size + 1]? = some (.cells #[.int .u8 0, .int .u64 0, .int .u64 0] 40) := hW ▸ heapN (by simp)
  have hs0 : W.heap[sb]? = some (.cells #[s0, s1, .int .u64 time, .map mp, adm] 119) := hW ▸ upB (upB hs _) _
  have hm0 : MapX W mp ks := hW ▸ (hm.alloc _).alloc _
  have hsb := ltB hs
  clear hW hs hm
  have a1 := cellB hk0
  have a2 := upC hk0 (.cells #[.int .u8 0, .int .u64 0, .int .u64 0, .int .u64 0, .int .u64 0] 231)
  have a3 := cellB hs0
  have a4 := upC hs0 (.cells #[.int .u8 0, .int .u64 0, .int .u64 0, .int .u64 0, .int .u64 0] 231)
  have a5 := hm0.drew.look0 hk hf
  have a6 := (hm0.alloc (.cells #[.int .u8 0, .int .u64 0, .int .u64 0, .int .u64 0, .int .u64 0] 231)).drew.look0 hk hf
  go_cut [7, 8] (fun s5 s6 wx => s5 = .pointer (some ⟨W.heap.size, 0, none⟩) ∧ s6 = .bool false ∧ wx = (W.alloc (.cells #[.int .u8 0, .int .u64 0, .int .u64 0, .int .u64 0, .int .u64 0] 231)).drew)
  case first =>
    go_region
    all_goals (go_wp2_with fail; go_meet)
    all_goals exact ⟨rfl, rfl, rfl⟩
  case rest =>
    obtain ⟨rfl, rfl, rfl⟩ := hcut
    have hz0 : (W.alloc (.cells #[.int .u8 0, .int .u64 0, .int .u64 0, .int .u64 0, .int .u64 0] 231)).heap[W.heap.size]? = some (.cells #[.int .u8 0, .int .u64 0, .int .u64 0, .int .u64 0, .int .u64 0] 231) := heapNew _ _
    have hk1 := upB hk0 (.cells #[.int .u8 0, .int .u64 0, .int .u64 0, .int .u64 0, .int .u64 0] 231)
    have hr1 := upB hr0 (.cells #[.int .u8 0, .int .u64 0, .int .u64 0, .int .u64 0, .int .u64 0] 231)
    have hs1 := upB hs0 (.cells #[.int .u8 0, .int .u64 0, .int .u64 0, .int .u64 0, .int .u64 0] 231)
    have hm1 := hm0.alloc (.cells #[.int .u8 0, .int .u64 0, .int .u64 0, .int .u64 0, .int .u64 0] 231)
    have hB1 := hB.alloc hB.size (.cells #[.int .u8 0, .int .u64 0, .int .u64 0, .int .u64 0, .int .u64 0] 231)
    have hB0 := hB.size
    clear a1 a2 a3 a4 a5 a6 hk0 hr0 hs0 hm0
    have b1 := cellB hr1
    have b2 := frozenB hr1
    go_wp2
    refine bodyPost_ret (v := .agg #[.int .u8 4, .int .u64 0, .int .u64 0]) (by simp [results, Tryz.results104, go_sem, b1]) rfl ⟨rfl, Below.drew ?_⟩
    repeat (refine Below.setCell ?_ (by simp <;> omega) _)
    exact hB1

set_option maxRecDepth 100000 in
set_option maxHeartbeats 2000000 in
theorem bquery_some (sb : Nat) (s0 s1 adm : Value) (time : Int) (mp : Option Nat) (ks : List (Ky × Qt)) (k : Ky) (w : World) (hs : w.heap[sb]? = some (.cells #[s0, s1, .int .u64 time, .map mp, adm] 119)) (hm : MapX w mp ks) (hk : k.ok) (q : Qt) (hf : fnd k ks = some q) (c a b : Int)
    (h126 : Hid (∀ w1, Calls Tryz.prog 126 #[.agg #[.int .u8 q.kd, .int .u64 q.x, .int .u64 q.y, .int .u64 q.lv, .int .u64 q.wn], .int .u64 time] w1 fun e w' => e = .returned (.agg #[.int .u8 c, .int .u64 a, .int .u64 b]) ∧ Below w1.heap.size w1 w')) :
    Calls Tryz.prog 105 #[.pointer (some ⟨sb, 2, none⟩), .agg #[.int .u8 k.k0, .int .u8 k.k1, .int .u8 k.k2, .int .u8 k.k3, .int .u8 k.k4, .int .u8 k.k5, .int .u8 k.k6, .int .u8 k.k7]] w fun e w' => e = .returned (.agg #[.int .u8 c, .int .u64 a, .int .u64 b]) ∧ Below w.heap.size w w' := by
  go_enter Tryz.func105, Tryz.ntmps105
  go_upto_region 1 with fail
  obtain ⟨W, hW⟩ : ∃ W, W = (w.alloc (.cells #[.int .u8 k.k0, .int .u8 k.k1, .int .u8 k.k2, .int .u8 k.k3, .int .u8 k.k4, .int .u8 k.k5, .int .u8 k.k6, .int .u8 k.k7] 56)).alloc (.cells #[.int .u8 0, .int .u64 0, .int .u64 0] 40) := ⟨_, rfl⟩
  rw [← hW]
  have hB : Below w.heap.size w W := hW ▸ ((Below.refl _ w).alloc (Nat.le_refl _) _).alloc (by simp) _
  have hk0 : W.heap[w.heap.size]? = some (.cells #[.int .u8 k.k0, .int .u8 k.k1, .int .u8 k.k2, .int .u8 k.k3, .int .u8 k.k4, .int .u8 k.k5, .int .u8 k.k6, .int .u8 k.k7] 56) := hW ▸ upB (heapNew _ _) _
  have hr0 : W.heap[w.heap.size + 1]? = some (.cells #[.int .u8 0, .int .u64 0, .int .u64 0] 40) := hW ▸ heapN (by simp)
  have hs0 : W.heap[sb]? = some (.cells #[s0, s1, .int .u64 time, .map mp, adm] 119) := hW ▸ upB (upB hs _) _
  have hm0 : MapX W mp ks := hW ▸ (hm.alloc _).alloc _
  have hsb := ltB hs
  clear hW hs hm
  have a1 := cellB hk0
  have a2 := upC hk0 (.cells #[.int .u8 0, .int .u64 0, .int .u64 0, .int .u64 0, .int .u64 0] 231)
  have a3 := cellB hs0
  have a4 := upC hs0 (.cells #[.int .u8 0, .int .u64 0, .int .u64 0, .int .u64 0, .int .u64 0] 231)
  have a5 := hm0.drew.look1 hk hf
  have a6 := (hm0.alloc (.cells #[.int .u8 0, .int .u64 0, .int .u64 0, .int .u64 0, .int .u64 0] 231)).drew.look1 hk hf
  go_cut [5, 6] (fun s5 s6 wx => s5 = .pointer (some ⟨W.heap.size, 0, none⟩) ∧ s6 = .bool true ∧ wx = (W.alloc (.cells #[.int .u8 q.kd, .int .u64 q.x, .int .u64 q.y, .int .u64 q.lv, .int .u64 q.wn] 231)).drew)
  case first =>
    go_region
    all_goals (go_wp2_with fail; go_meet)
    all_goals exact ⟨rfl, rfl, rfl⟩
  case rest =>
    obtain ⟨rfl, rfl, rfl⟩ := hcut
    have hz0 : (W.alloc (.cells #[.int .u8 q.kd, .int .u64 q.x, .int .u64 q.y, .int .u64 q.lv, .int .u64 q.wn] 231)).heap[W.heap.size]? = some (.cells #[.int .u8 q.kd, .int .u64 q.x, .int .u64 q.y, .int .u64 q.lv, .int .u64 q.wn] 231) := heapNew _ _
    have hk1 := upB hk0 (.cells #[.int .u8 q.kd, .int .u64 q.x, .int .u64 q.y, .int .u64 q.lv, .int .u64 q.wn] 231)
    have hr1 := upB hr0 (.cells #[.int .u8 q.kd, .int .u64 q.x, .int .u64 q.y, .int .u64 q.lv, .int .u64 q.wn] 231)
    have hs1 := upB hs0 (.cells #[.int .u8 q.kd, .int .u64 q.x, .int .u64 q.y, .int .u64 q.lv, .int .u64 q.wn] 231)
    have hm1 := hm0.alloc (.cells #[.int .u8 q.kd, .int .u64 q.x, .int .u64 q.y, .int .u64 q.lv, .int .u64 q.wn] 231)
    have hB1 := hB.alloc hB.size (.cells #[.int .u8 q.kd, .int .u64 q.x, .int .u64 q.y, .int .u64 q.lv, .int .u64 q.wn] 231)
    have hB0 := hB.size
    clear a1 a2 a3 a4 a5 a6 hk0 hr0 hs0 hm0
    have a1 := cellB hs1
    have a2 := cellB hz0
    have l1 := ltB hr1
    go_wp2_with fail
    go_region_with (go_at_call 126; refine (h126.out _).mono ?_; rintro e w2 ⟨rfl, hb2⟩; have f1 := fun j => (hb2.cell (p := ⟨w.heap.size + 1, j, none⟩) l1).trans (cellB hr1 j); have g1 := fun j => (hb2.frozen (p := ⟨w.heap.size + 1, j, none⟩) l1).trans (frozenB hr1 j))
    all_goals go_wp2
    all_goals (
      refine bodyPost_ret (v := .agg #[.int .u8 c, .int .u64 a, .int .u64 b]) (by simp [results, Tryz.results105, go_sem, f1]) rfl ⟨rfl, ?_⟩
      repeat (refine Below.setCell ?_ (by simp <;> omega) _)
      exact hB1.drew.drew.trans (hb2.mono (by simp; omega)))

end Go.Proofs.YtlamgpeiolfffaaGreatDoor

namespace Go.Proofs.YtlamgpeiolfffaaGreatDoor
open Go.RowKit Go.Maps
variable [dK] [iK]

/-- The keys behind a store. -/
def putM (k : Ky) (q : Qt) (ks : List (Ky × Qt)) : List (Ky × Qt) := if (fnd k ks).isSome then upd k q ks else ks ++ [(k, q)]
theorem turned_keep {w w' : World} {b : Nat} (h : w.mapTurned w' b) : Keep (fun k => k = b) w w' :=
  ⟨h.grown.os, h.grown.tape, h.grown.output, h.grown.size, fun k hk hne => h.grown.block k hk (fun e => hne (Option.some.inj e))⟩

set_option maxRecDepth 100000 in
set_option maxHeartbeats 2000000 in
theorem bput_some (sb mb : Nat) (s0 s1 adm : Value) (time : Int) (mp : Option Nat) (hmp : mp = some mb) (ks : List (Ky × Qt)) (k : Ky) (w : World) (hs : w.heap[sb]? = some (.cells #[s0, s1, .int .u64 time, .map mp, adm] 119)) (hm : MapX w mp ks) (hk : k.ok) (q : Qt) (hl : ks.length ≤ 12) :
    Calls Tryz.prog 123 #[.pointer (some ⟨sb, 2, none⟩), .agg #[.int .u8 k.k0, .int .u8 k.k1, .int .u8 k.k2, .int .u8 k.k3, .int .u8 k.k4, .int .u8 k.k5, .int .u8 k.k6, .int .u8 k.k7], .agg #[.int .u8 q.kd, .int .u64 q.x, .int .u64 q.y, .int .u64 q.lv, .int .u64 q.wn]] w fun e w' => e = .returned (.tuple #[]) ∧ ∃ b', w'.heap[sb]? = some (.cells #[s0, s1, .int .u64 time, .map (some b'), adm] 119) ∧ MapX w' (some b') (putM k q ks) ∧ Keep (fun b => b = sb ∨ mp = some b) w w' ∧ (mp = some b' ∨ w.heap.size ≤ b') ∧ b' ≠ sb := by
  subst hmp
  obtain ⟨W, hW⟩ : ∃ W, W = (w.alloc (.cells #[.int .u8 k.k0, .int .u8 k.k1, .int .u8 k.k2, .int .u8 k.k3, .int .u8 k.k4, .int .u8 k.k5, .int .u8 k.k6, .int .u8 k.k7] 56)).alloc (.cells #[.int .u8 q.kd, .int .u64 q.x, .int .u64 q.y, .int .u64 q.lv, .int .u64 q.wn] 231) := ⟨_, rfl⟩
  have hB : Below w.heap.size w W := hW ▸ ((Below.refl _ w).alloc (Nat.le_refl _) _).alloc (by simp) _
  have hk0 : W.heap[w.heap.size]? = some (.cells #[.int .u8 k.k0, .int .u8 k.k1, .int .u8 k.k2, .int .u8 k.k3, .int .u8 k.k4, .int .u8 k.k5, .int .u8 k.k6, .int .u8 k.k7] 56) := hW ▸ upB (heapNew _ _) _
  have hr0 : W.heap[w.heap.size + 1]? = some (.cells #[.int .u8 q.kd, .int .u64 q.x, .int .u64 q.y, .int .u64 q.lv, .int .u64 q.wn] 231) := hW ▸ heapN (by simp)
  have hs0 : W.heap[sb]? = some (.cells #[s0, s1, .int .u64 time, .map (some mb), adm] 119) := hW ▸ upB (upB hs _) _
  have hm0 : MapX W (some mb) ks := hW ▸ (hm.alloc _).alloc _
  have hne : mb ≠ sb := by
    intro e; subst e
    obtain ⟨_, _, ⟨es, clock, h1, _⟩, _⟩ := hm
    rw [hs] at h1; simp at h1
  obtain ⟨w', hrun, ht, hm'⟩ := MapOf.store (w := W.drew) (MapOf.kept hm0 rfl) hl hk q
  have hrun' : (Instr.mapUpdate 111 (.map (some mb)) (.agg #[.int .u8 k.k0, .int .u8 k.k1, .int .u8 k.k2, .int .u8 k.k3, .int .u8 k.k4, .int .u8 k.k5, .int .u8 k.k6, .int .u8 k.k7]) (.agg #[.int .u8 q.kd, .int .u64 q.x, .int .u64 q.y, .int .u64 q.lv, .int .u64 q.wn])).run Tryz.prog W.drew = .ok () w' := hrun
  have a1 := cellB hk0
  have a2 := cellB hr0
  have a3 := cellB hs0
  have hnil : ∀ w, (binOp .eql 111 (.map (some mb)) (.map none)).run Tryz.prog w = .ok (.bool false) w := fun w => run_eql_map_nil w 111 56 231 (some mb) Tryz.underlying111
  go_enter Tryz.func123, Tryz.ntmps123
  go_upto_region 1 with fail
  rw [← hW]
  clear hW hs hm
  go_upto_region 3 with fail
  go_region
  all_goals go_wp2
  all_goals go_end0
  all_goals refine ⟨rfl, mb, ?_, hm', ?_, Or.inl rfl, hne⟩
  all_goals first | exact (ht.grown.block sb (ltB hs0) (fun e => hne (Option.some.inj e).symm)).trans hs0 | exact (Keep.of_below hB).drew.trans ((turned_keep ht).mono (fun k e _ => Or.inr (by rw [e])))

set_option maxRecDepth 100000 in
set_option maxHeartbeats 2000000 in
theorem bput_nil (sb : Nat) (s0 s1 adm : Value) (time : Int) (mp : Option Nat) (hmp : mp = none) (ks : List (Ky × Qt)) (k : Ky) (w : World) (hs : w.heap[sb]? = some (.cells #[s0, s1, .int .u64 time, .map mp, adm] 119)) (hm : MapX w mp ks) (hk : k.ok) (q : Qt) :
    Calls Tryz.prog 123 #[.pointer (some ⟨sb, 2, none⟩), .agg #[.int .u8 k.k0, .int .u8 k.k1, .int .u8 k.k2, .int .u8 k.k3, .int .u8 k.k4, .int .u8 k.k5, .int .u8 k.k6, .int .u8 k.k7], .agg #[.int .u8 q.kd, .int .u64 q.x, .int .u64 q.y, .int .u64 q.lv, .int .u64 q.wn]] w fun e w' => e = .returned (.tuple #[]) ∧ ∃ b', w'.heap[sb]? = some (.cells #[s0, s1, .int .u64 time, .map (some b'), adm] 119) ∧ MapX w' (some b') (putM k q ks) ∧ Keep (fun b => b = sb ∨ mp = some b) w w' ∧ (mp = some b' ∨ w.heap.size ≤ b') ∧ b' ≠ sb := by
  subst hmp
  obtain rfl : ks = [] := hm
  have hsb := ltB hs
  obtain ⟨W, hW⟩ : ∃ W, W = (w.alloc (.cells #[.int .u8 k.k0, .int .u8 k.k1, .int .u8 k.k2, .int .u8 k.k3, .int .u8 k.k4, .int .u8 k.k5, .int .u8 k.k6, .int .u8 k.k7] 56)).alloc (.cells #[.int .u8 q.kd, .int .u64 q.x, .int .u64 q.y, .int .u64 q.lv, .int .u64 q.wn] 231) := ⟨_, rfl⟩
  have hB : Below w.heap.size w W := hW ▸ ((Below.refl _ w).alloc (Nat.le_refl _) _).alloc (by simp) _
  have hk0 : W.heap[w.heap.size]? = some (.cells #[.int .u8 k.k0, .int .u8 k.k1, .int .u8 k.k2, .int .u8 k.k3, .int .u8 k.k4, .int .u8 k.k5, .int .u8 k.k6, .int .u8 k.k7] 56) := hW ▸ upB (heapNew _ _) _
  have hr0 : W.heap[w.heap.size + 1]? = some (.cells #[.int .u8 q.kd, .int .u64 q.x, .int .u64 q.y, .int .u64 q.lv, .int .u64 q.wn] 231) := hW ▸ heapN (by simp)
  have hs0 : W.heap[sb]? = some (.cells #[s0, s1, .int .u64 time, .map none, adm] 119) := hW ▸ upB (upB hs _) _
  have hWl : w.heap.size + 1 < W.heap.size := ltB hr0
  obtain ⟨V, hV⟩ : ∃ V, V = (W.alloc (.map #[] 0)).setCell ⟨sb, 3, none⟩ (.map (some W.heap.size)) := ⟨_, rfl⟩
  have hsV : V.heap[sb]? = some (.cells #[s0, s1, .int .u64 time, .map (some W.heap.size), adm] 119) := hV ▸ heapSet (upB hs0 _) 3 _
  have hkV : V.heap[w.heap.size]? = some (.cells #[.int .u8 k.k0, .int .u8 k.k1, .int .u8 k.k2, .int .u8 k.k3, .int .u8 k.k4, .int .u8 k.k5, .int .u8 k.k6, .int .u8 k.k7] 56) := hV ▸ (heapSetO (by omega) _ _).trans (upB hk0 _)
  have hrV : V.heap[w.heap.size + 1]? = some (.cells #[.int .u8 q.kd, .int .u64 q.x, .int .u64 q.y, .int .u64 q.lv, .int .u64 q.wn] 231) := hV ▸ (heapSetO (by omega) _ _).trans (upB hr0 _)
  have hmV : MapOf V W.heap.size [] := by
    have hWs := ltB hs0
    exact hV ▸ MapOf.kept (MapOf.made W) (heapSetO (by omega) _ _)
  have hKV : Keep (fun b => b = sb ∨ none = some b) w V := hV ▸ ((Keep.of_below hB).alloc _).set (Or.inl (Or.inl rfl)) _ _
  obtain ⟨w', hrun, ht, hm'⟩ := MapOf.store (w := V.drew) (MapOf.kept hmV rfl) (by simp) hk q
  have hrun' : (Instr.mapUpdate 111 (.map (some W.heap.size)) (.agg #[.int .u8 k.k0, .int .u8 k.k1, .int .u8 k.k2, .int .u8 k.k3, .int .u8 k.k4, .int .u8 k.k5, .int .u8 k.k6, .int .u8 k.k7]) (.agg #[.int .u8 q.kd, .int .u64 q.x, .int .u64 q.y, .int .u64 q.lv, .int .u64 q.wn])).run Tryz.prog V.drew = .ok () w' := hrun
  have a1 := cellB hkV
  have a2 := cellB hrV
  have a3 := cellB hsV
  have b5 := cellB hs0
  have b3 := upC hs0 (.map #[] 0)
  have b4 := upF hs0 (.map #[] 0)
  have hnil : ∀ w, (binOp .eql 111 (.map none) (.map none)).run Tryz.prog w = .ok (.bool true) w := fun w => run_eql_map_nil w 111 56 231 none Tryz.underlying111
  have hmm := @run_makeMap Tryz.prog
  go_enter Tryz.func123, Tryz.ntmps123
  go_upto_region 1 with fail
  rw [← hW]
  clear hW hs
  go_upto_region 3 with fail
  rw [← hV]
  clear hV b3 b4 b5
  go_region
  all_goals go_wp2
  all_goals go_end0
  all_goals refine ⟨rfl, W.heap.size, ?_, hm', ?_, Or.inr (by omega), by omega⟩
  all_goals first | exact (ht.grown.block sb (ltB hsV) (fun e => by injection e; omega)).trans hsV | exact hKV.drew.then (turned_keep ht) (fun i hi e => by omega)

theorem bput (sb : Nat) (s0 s1 adm : Value) (time : Int) (mp : Option Nat) (ks : List (Ky × Qt)) (k : Ky) (w : World) (hs : w.heap[sb]? = some (.cells #[s0, s1, .int .u64 time, .map mp, adm] 119)) (hm : MapX w mp ks) (hk : k.ok) (q : Qt) (hl : ks.length ≤ 12) :
    Calls Tryz.prog 123 #[.pointer (some ⟨sb, 2, none⟩), .agg #[.int .u8 k.k0, .int .u8 k.k1, .int .u8 k.k2, .int .u8 k.k3, .int .u8 k.k4, .int .u8 k.k5, .int .u8 k.k6, .int .u8 k.k7], .agg #[.int .u8 q.kd, .int .u64 q.x, .int .u64 q.y, .int .u64 q.lv, .int .u64 q.wn]] w fun e w' => e = .returned (.tuple #[]) ∧ ∃ b', w'.heap[sb]? = some (.cells #[s0, s1, .int .u64 time, .map (some b'), adm] 119) ∧ MapX w' (some b') (putM k q ks) ∧ Keep (fun b => b = sb ∨ mp = some b) w w' ∧ (mp = some b' ∨ w.heap.size ≤ b') ∧ b' ≠ sb := by
  cases mp with
  | none => exact bput_nil sb s0 s1 adm time none rfl ks k w hs hm hk q
  | some mb => exact bput_some sb mb s0 s1 adm time (some mb) rfl ks k w hs hm hk q hl

end Go.Proofs.YtlamgpeiolfffaaGreatDoor
