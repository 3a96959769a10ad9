import Derived.Test.YtlcnkcgmjnfbiaaGreatDoorZd29
set_option linter.unusedSectionVars false
namespace Go.Proofs.YtlcnkcgmjnfbiaaGreatDoor
open Go.RowKit Go.Maps
variable [dK] [iK]

/-- A store that has nothing but its disk. -/
theorem storeZero (db : Nat) : ∃ zc : Array Value, zc = Tryz.zeroCells230.setIfInBounds 0 (.iface 80 (.pointer (some ⟨db, 0, none⟩))) ∧ zc[0]? = some (.iface 80 (.pointer (some ⟨db, 0, none⟩))) ∧ zc[1]? = some (.int .u32 0) ∧ zc[2]? = some (.int .i32 0) ∧ (∀ j, j < 256 → zc[1 + 3 + j]? = some (.int .u64 0)) ∧ zc[260]? = some (.int .u64 0) ∧ zc[261]? = some .nilIface := by
  have hz : Tryz.zeroCells230.setIfInBounds 0 (.iface 80 (.pointer (some ⟨db, 0, none⟩))) = (#[(.iface 80 (.pointer (some ⟨db, 0, none⟩))), .int .u32 0, .int .i32 0, .int .u32 0] ++ Array.replicate 256 (.int .u64 0) ++ #[.int .u64 0, .nilIface] : Array Value) := by kernel_rfl
  refine ⟨_, rfl, ?_, ?_, ?_, fun j hj => ?_, ?_, ?_⟩
  · rw [hz]; kernel_rfl
  · rw [hz]; kernel_rfl
  · rw [hz]; kernel_rfl
  · rw [hz, Array.getElem?_append_left (by simp; omega), Array.getElem?_append_right (by simp), Array.getElem?_replicate, if_pos (by simp; omega)]
  · rw [hz]; kernel_rfl
  · rw [hz]; kernel_rfl

set_option maxRecDepth 100000 in
set_option maxHeartbeats 2000000 in
/-- store.Open over a disk with no file. -/
theorem storeopen76 (db nb : Nat) (c0 c2 c3 c4 : Value) (w : World) (hd : w.heap[db]? = some (.cells #[c0, .map (some nb), c2, c3, c4, .bool false] 84)) (hD : DirAt w nb []) :
    Calls Tryz.prog 73 #[.iface 80 (.pointer (some ⟨db, 0, none⟩))] w fun e w' => ∃ g, e = .returned (.tuple #[.pointer (some ⟨g, 0, none⟩), .agg #[.int .u64 0, .int .u64 0, .slice none 0 0], .nilIface]) ∧ w.heap.size ≤ g ∧ StoAt w' g db 0 ∧ Below w.heap.size w w' := by
  have hmf : ∀ (fn : Fn) (first cap : Array Value) (w : World), (Instr.makeFunc fn first cap).run Tryz.prog w = .ok (.func fn first cap) w := fun _ _ _ _ => rfl
  obtain ⟨zc, hzc, z0, z1, z2, z3, z4, z5⟩ := storeZero db
  obtain ⟨V, hV⟩ : ∃ V, V = (((w.alloc (.cells #[.int .u64 0, .int .u64 0, .slice none 0 0] 167)).alloc (.cells zc 230)).alloc (.cells #[.pointer (some ⟨w.heap.size + 1, 0, none⟩)] 122)).alloc (.cells #[.int .u64 0, .int .u64 0, .slice none 0 0] 167) := ⟨_, rfl⟩
  have h0 : V.heap[w.heap.size]? = some (.cells #[.int .u64 0, .int .u64 0, .slice none 0 0] 167) := hV ▸ upB (upB (upB (heapNew _ _) _) _) _
  have h1 : V.heap[w.heap.size + 1]? = some (.cells zc 230) := hV ▸ upB (upB (heapN (by simp)) _) _
  have h2 : V.heap[w.heap.size + 2]? = some (.cells #[.pointer (some ⟨w.heap.size + 1, 0, none⟩)] 122) := hV ▸ upB (heapN (by simp)) _
  have h3 : V.heap[w.heap.size + 3]? = some (.cells #[.int .u64 0, .int .u64 0, .slice none 0 0] 167) := hV ▸ heapN (by simp)
  have hsV : V.heap.size = w.heap.size + 4 := by rw [hV]; simp
  have hB : Below w.heap.size w V := hV ▸ ((((Below.refl _ w).alloc (Nat.le_refl _) _).alloc (by simp) _).alloc (by simp; omega) _).alloc (by simp; omega) _
  have hdV := (hB.block db (ltB hd)).trans hd
  have hDV : DirAt V nb [] := hD.kept (hB.block nb hD.map.lt) (fun p hp => by cases hp)
  have HG := hide (guard116 119 #[.pointer (some ⟨w.heap.size + 2, 0, none⟩), .pointer (some ⟨w.heap.size + 3, 0, none⟩)] callOpenJob V (fun w2 => w2.heap[w.heap.size + 3]? = some (.cells #[.int .u64 0, .int .u64 0, .slice none 0 0] 167) ∧ Keep (fun c => c = w.heap.size + 3) (V.alloc (.cells #[.nilIface] 93)) w2) (by
    refine (openjob117 (w.heap.size + 2) (w.heap.size + 3) (w.heap.size + 1) db nb c0 c2 c3 c4 _ (upB h2 _) (upB h3 _) ((cellB (upB h1 _) 0).trans z0) (upB hdV _) (hDV.kept (heapOld _ _ hDV.map.lt) (fun p hp => by cases hp))).mono ?_
    rintro e w2 ⟨rfl, q1, q2⟩
    refine ⟨rfl, ?_, q1, q2⟩
    exact (q2.block V.heap.size (by simp) (fun e => by omega)).trans (heapNew _ _)))
  have HB := hide hB
  have HSV := hide hsV
  have HZ := hide (And.intro z0 (And.intro z1 (And.intro z2 (And.intro z3 (And.intro z4 z5)))))
  clear hD hDV hd hdV hB hsV z0 z1 z2 z3 z4 z5
  go_enter Tryz.func73, Tryz.ntmps73
  go_upto_region 3 with fail
  rw [← hzc, ← hV]
  clear hV hzc
  go_wp2_with fail
  refine HG.out.mono ?_
  rintro e w1 ⟨rfl, w2, ⟨q1, q2⟩, hb, hw1⟩
  have sV := HSV.out
  have X : ∀ k, k < V.heap.size → k ≠ w.heap.size + 3 → w1.heap[k]? = V.heap[k]? := fun k hk h => by
    rw [hw1, heapSetO (by omega)]
    exact (q2.block k (by simp; omega) h).trans (heapOld _ _ hk)
  have g0 := (X w.heap.size (by omega) (by omega)).trans h0
  have g1 := (X (w.heap.size + 1) (by omega) (by omega)).trans h1
  have g2 := (X (w.heap.size + 2) (by omega) (by omega)).trans h2
  have g3 : w1.heap[w.heap.size + 3]? = some (.cells #[.int .u64 0, .int .u64 0, .slice none 0 0] 167) := by rw [hw1, heapSetO (by omega)]; exact q1
  have hB1 : Below w.heap.size w w1 := by
    rw [hw1]
    refine Below.setCell ?_ (by show w.heap.size ≤ V.heap.size; omega) _
    exact (HB.out.alloc HB.out.size _).trans (q2.below (by simp; omega) (fun k hk => by omega))
  obtain ⟨z0, z1, z2, z3, z4, z5⟩ := HZ.out
  obtain ⟨Y, hY⟩ : ∃ Y, Y = w1.setCell ⟨w.heap.size + 1, 260, none⟩ (.int .u64 0) := ⟨_, rfl⟩
  have hS : StoAt Y (w.heap.size + 1) db 0 := by
    have c := cellB g1
    have f := frozenB g1
    have o : ∀ j, j ≠ 260 → Y.cell? ⟨w.heap.size + 1, j, none⟩ = zc[j]? := fun j hj => by rw [hY]; exact (World.cell?_setCell_other _ _ _ _ (by simp <;> omega)).trans (c j)
    have ff : ∀ j, Y.frozen? ⟨w.heap.size + 1, j, none⟩ = false := fun j => by rw [hY, World.frozen?_setCell]; exact f j
    refine ⟨fun j _ => ff j, (o 0 (by omega)).trans z0, ⟨⟨false, (o 1 (by omega)).trans z1, fun j hj => ⟨0, (o _ (by omega)).trans (z3 j hj), fun h => by cases h⟩⟩, (o 2 (by omega)).trans z2, fun j _ => ff _⟩, ?_, (o 261 (by omega)).trans z5⟩
    rw [hY]
    exact World.cell?_setCell_same _ _ _ ((c 260).trans z4)
  have y0 : Y.heap[w.heap.size]? = _ := hY ▸ (heapSetO (by omega) _ _).trans g0
  have y2 : Y.heap[w.heap.size + 2]? = _ := hY ▸ (heapSetO (by omega) _ _).trans g2
  have y3 : Y.heap[w.heap.size + 3]? = _ := hY ▸ (heapSetO (by omega) _ _).trans g3
  have hBY : Below w.heap.size w Y := hY ▸ hB1.setCell (by show w.heap.size ≤ w.heap.size + 1; omega) _
  have c1 := (cellB g1 260).trans z4
  have c1' := frozenB g1 260
  have c2 := cellB g2
  have c3 := cellB g3
  have HS := hide hS
  have HBY := hide hBY
  clear hb hw1 q1 q2 X hB1 z0 z1 z2 z3 z4 z5 hS hBY h0 h1 h2 h3 sV
  go_upto_region 7 with fail
  rw [← hY]
  clear hY c1 c1' c2 c3 g0 g1 g2 g3
  have d0 := cellB y0
  have d0' := frozenB y0
  have d2 := cellB y2
  have d3 := cellB y3
  go_region
  all_goals go_wp2
  all_goals refine bodyPost_ret (v := .tuple #[.pointer (some ⟨w.heap.size + 1, 0, none⟩), .agg #[.int .u64 0, .int .u64 0, .slice none 0 0], .nilIface]) (by simp [results, Tryz.results73, go_sem, d0]) rfl ?_
  all_goals refine ⟨w.heap.size + 1, rfl, by omega, ?_, ?_⟩
  all_goals first
    | exact HS.out.kept (by simp [heapSetO])
    | (exact HS.out.kept ((heapSetO (by omega) _ _).trans ((heapSetO (by omega) _ _).trans (heapSetO (by omega) _ _))))
    | skip
  all_goals first
    | (exact ((HBY.out.drew.setCell (Nat.le_refl _) _).setCell (Nat.le_refl _) _).setCell (Nat.le_refl _) _)
    | skip

set_option maxRecDepth 100000 in
set_option maxHeartbeats 2000000 in
/-- The book over a disk with no file. -/
theorem openbook50 (db nb : Nat) (c0 c2 c3 c4 : Value) (blk : Int) (w : World) (hd : w.heap[db]? = some (.cells #[c0, .map (some nb), c2, c3, c4, .bool false] 84)) (hD : DirAt w nb []) :
    Calls Tryz.prog 48 #[.iface 80 (.pointer (some ⟨db, 0, none⟩)), .int .u64 blk] w fun e w' => ∃ g mp, e = .returned (.tuple #[.agg #[.int .u64 0, .int .u64 blk, .map (some mp), .pointer (some ⟨g, 0, none⟩)], .nilIface]) ∧ w.heap.size ≤ g ∧ w.heap.size ≤ mp ∧ g ≠ mp ∧ w'.heap[mp]? = some (.map #[] 0) ∧ StoAt w' g db 0 ∧ Below w.heap.size w w' := by
  have hmm := @run_makeMap Tryz.prog
  obtain ⟨V, hV⟩ : ∃ V, V = w.alloc (.cells #[.int .u64 0, .int .u64 0, .map none, .pointer none] 124) := ⟨_, rfl⟩
  have h0 : V.heap[w.heap.size]? = some (.cells #[.int .u64 0, .int .u64 0, .map none, .pointer none] 124) := hV ▸ heapNew _ _
  have hB : Below w.heap.size w V := hV ▸ (Below.refl _ w).alloc (Nat.le_refl _) _
  have hsV : V.heap.size = w.heap.size + 1 := by rw [hV]; simp
  have HO := hide (storeopen76 db nb c0 c2 c3 c4 V ((hB.block db (ltB hd)).trans hd) (hD.kept (hB.block nb hD.map.lt) (fun p hp => by cases hp)))
  have HB := hide hB
  have HSV := hide hsV
  clear hd hD hB hsV
  go_enter Tryz.func48, Tryz.ntmps48
  go_upto_region 1 with fail
  rw [← hV]
  clear hV
  go_wp2_with fail
  refine HO.out.mono ?_
  rintro e w1 ⟨g, rfl, hgl, hS1, hb1⟩
  have sV := HSV.out
  obtain ⟨Y, hY⟩ : ∃ Y, Y = (w1.alloc (.cells #[.int .u64 0, .int .u64 0, .slice none 0 0] 167)).alloc (.map #[] 0) := ⟨_, rfl⟩
  have hs1 := hb1.size
  have g0 := (hb1.block w.heap.size (by omega)).trans h0
  have y0 : Y.heap[w.heap.size]? = _ := hY ▸ upB (upB g0 _) _
  have y1 : Y.heap[w1.heap.size]? = some (.cells #[.int .u64 0, .int .u64 0, .slice none 0 0] 167) := hY ▸ upB (heapNew _ _) _
  have y2 : Y.heap[w1.heap.size + 1]? = some (.map #[] 0) := hY ▸ heapN (by simp)
  have hSY : StoAt Y g db 0 := hS1.kept (by rw [hY, heapOld _ _ (by have := hS1.lt; simp; omega), heapOld _ _ hS1.lt])
  have hBY : Below w.heap.size w Y := hY ▸ ((HB.out.trans (hb1.mono (by omega))).alloc (by omega) _).alloc (by simp; omega) _
  have hgl1 := hS1.lt
  have HS := hide hSY
  have HBY := hide hBY
  have HL := hide (And.intro hgl (And.intro hs1 hgl1))
  clear hS1 hb1 hSY hBY h0 g0 hgl hs1 hgl1 sV
  go_upto_region 5 with fail
  rw [← hY]
  clear hY
  have e1 := cellB y1
  have e0 := cellB y0
  have e0' := frozenB y0
  go_wp2
  refine wp_loop_rounds 1 ?_
  rw [rounds_succ]
  go_wp2
  obtain ⟨l1, l2, l3⟩ := HL.out
  have sV := HSV.out
  refine bodyPost_ret (v := .tuple #[.agg #[.int .u64 0, .int .u64 blk, .map (some (w1.heap.size + 1)), .pointer (some ⟨g, 0, none⟩)], .nilIface]) (by simp [results, Tryz.results48, go_sem, e0]) rfl ⟨g, w1.heap.size + 1, rfl, by omega, by omega, by omega, ?_, ?_, ?_⟩
  · rw [heapSetO (by omega), heapSetO (by omega), heapSetO (by omega), heapSetO (by omega)]
    exact y2
  · exact HS.out.kept ((heapSetO (by omega) _ _).trans ((heapSetO (by omega) _ _).trans ((heapSetO (by omega) _ _).trans (heapSetO (by omega) _ _))))
  · exact (((HBY.out.setCell (Nat.le_refl _) _).setCell (Nat.le_refl _) _).setCell (Nat.le_refl _) _).setCell (Nat.le_refl _) _
end Go.Proofs.YtlcnkcgmjnfbiaaGreatDoor
