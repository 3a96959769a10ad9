import Derived.Test.YtnlgndpcddngoaaGreatDoorZc00
import Derived.Test.YtnlgndpcddngoaaGreatDoorZc03
import Derived.Deep.DeepCutAuto
import Derived.OneCell
set_option linter.unusedSectionVars false
namespace Go.Proofs.YtnlgndpcddngoaaGreatDoor
open Go.RowKit Go.Maps
variable [dK] [iK]

theorem Tryz.infoOp : (Tryz.prog.info? 146).map (fun i => (i.zero, i.size, i.bytes)) = some (some (.agg #[.int .i64 0, .string ⟨#[]⟩, .string ⟨#[]⟩]), 3, 40) := by kernel_rfl
theorem callDo (vs : Array Value) (w : World) : Sem.run Tryz.prog (callFunc 59 vs) w = .ok (.enter 59 vs) w := by simp [go_sem]

theorem cells3_new (w : World) (x y z : Value) (t : TypeId) : ∀ j u, [x, y, z][j]? = some u → (w.alloc (.cells #[x, y, z] t)).cell? ((⟨w.heap.size, 0, none⟩ : Addr).add j) = some u := by
  intro j u hj
  rw [Addr.add_lit, Nat.zero_add, World.cell?_alloc_at _ _ _ _ rfl]
  match j, hj with
  | 0, hj => exact hj
  | 1, hj => exact hj
  | 2, hj => exact hj
  | j + 3, hj => simp at hj

set_option maxRecDepth 100000 in
set_option maxHeartbeats 4000000 in
theorem tell261w (db nb : Nat) (m0 : Value) (fs : Fs) (b : Bool) (s : ByteArray) (l f : Int) (w : World) (hd : w.heap[db]? = some (.cells #[m0, .map (some nb), .slice none 0 0, .int .i64 l, .int .i64 f, .bool false] 88)) (hD : DirAt w nb fs) (hl : -9223372036854775808 < l ∧ l < 0) (hf : -9223372036854775808 < f ∧ f < 0) :
    Calls Tryz.prog 261 #[.pointer (some ⟨db, 0, none⟩), .agg #[.int .i64 1, .string (nameB b), .string s]] w fun e w' => e = .returned .nilIface ∧ ∃ pv g, w'.heap[db]? = some (.cells #[m0, .map (some nb), pv, .int .i64 (l - 1), .int .i64 (f - 1), .bool false] 88) ∧ w.heap.size ≤ g ∧ DirAt w' nb (putG b (g, s) fs) ∧ w'.ownsRow w.heap.size 146 3 pv 1 [.int .i64 1, .string (nameB b), .string s] ∧ Keep (fun c => c = db ∨ c = nb) w w' := by
  obtain ⟨i0, hi, hz0, hz1, hz2⟩ := info_parts Tryz.infoOp
  have hnd : nb ≠ db := hD.map.ne hd
  obtain ⟨V, hV⟩ : ∃ V, V = w.alloc (.cells #[.int .i64 1, .string (nameB b), .string s] 146) := ⟨_, rfl⟩
  obtain ⟨O, hO⟩ : ∃ O, O = w.heap.size := ⟨_, rfl⟩
  have h0 : V.heap[O]? = some (.cells #[.int .i64 1, .string (nameB b), .string s] 146) := by rw [hO, hV]; exact heapNew _ _
  have hdV : V.heap[db]? = _ := hV ▸ upB hd _
  have hDV : DirAt V nb fs := hD.kept (hV ▸ heapOld _ _ hD.map.lt) (fun p hp => hV ▸ heapOld _ _ (ltB (hD.str p hp)))
  have hKV : Keep (fun c => c = db ∨ c = nb) w V := hV ▸ (Keep.refl _ w).alloc _
  have hOd : O ≠ db := by have := ltB hd; omega
  have hOn : O ≠ nb := by have := hD.map.lt; omega
  have hsV : V.heap.size = O + 1 := by rw [hV, hO]; simp
  have HNP : ∀ p ∈ fs, ¬ p.2.1 = db := fun p hp e => by have := hD.str p hp; rw [e, hd] at this; simp at this
  have HD := hide hDV
  have HK := hide hKV
  have HS := hide hsV
  have HO := hide hO
  have HP := hide HNP
  clear hD hDV hKV hsV hd HNP
  go_enter Tryz.func261, Tryz.ntmps261
  go_upto_region 1 with fail
  rw [← hV, ← hO]
  clear hV hO
  go_wp2_with fail
  refine (writes262 db _ _ _ l f V hdV hl hf).mono ?_
  rintro e w1 ⟨rfl, hd1, hk1⟩
  have h1 := (hk1.block O (ltB h0) hOd).trans h0
  have hD1 : DirAt w1 nb fs := HD.out.keep hk1 hnd HP.out
  have HD1 := hide hD1
  have HK1 := hide hk1
  clear hk1 hD1
  go_upto_region 6 with fail
  obtain ⟨pv0, hpv0⟩ : ∃ pv0, pv0 = lookG evF (.pointer none) (fndG b fs) := ⟨_, rfl⟩
  have hpp : ∃ x, pv0 = .pointer x := by
    rw [hpv0]
    cases fndG b fs with
    | none => exact ⟨_, rfl⟩
    | some p => exact ⟨_, rfl⟩
  obtain ⟨px, hpx⟩ := hpp
  obtain ⟨ok, hok⟩ : ∃ ok, ok = (fndG b fs).isSome := ⟨_, rfl⟩
  have hlk : (Instr.lookup 85 (.map (some nb)) (.string (nameB b)) true).run Tryz.prog w1.drew = .ok (.tuple #[.pointer px, .bool ok]) w1.drew := by
    have := MapG.look mname (w := w1.drew) (HD1.out.map.kept rfl) (k := b) trivial Tryz.underlying85 (zeroP _)
    rw [← hpv0, ← hok, hpx] at this
    exact this
  clear hpv0 hpx hok
  have a1 := cellB hd1
  have a2 := cellB h1
  go_cut [6, 7] (fun s6 s7 wx => s6 = .pointer px ∧ s7 = .bool ok ∧ wx = w1.drew)
  case first =>
    go_region
    all_goals (go_wp2_with fail; go_meet)
    all_goals exact ⟨rfl, rfl, rfl⟩
  case rest =>
    obtain ⟨rfl, rfl, rfl⟩ := hcut
    clear hlk
    have HDD : Hid (DirAt w1.drew.drew nb fs) := hide (HD1.out.kept rfl (fun _ _ => rfl))
    have key : ∀ ok, ok = true ∨ ok = false := fun ok => by cases ok <;> simp
    rcases key ok with rfl | rfl
    all_goals (
      go_upto_region 9 with fail
      go_cut [] (fun wx => ∃ (W : World) (g : Nat), W = wx ∧ w1.heap.size ≤ g ∧ DirAt W nb (putG b (g, s) fs) ∧ Keep (fun c => c = nb) w1 W)
      case first =>
        go_region_law (refine step_fn (by rfl) 59 callDo _ _ (by rfl) #[.map (some nb), .agg #[.int .i64 1, .string (nameB b), .string s]] (by simp only [List.map_toArray, List.map_cons, List.map_nil]; rfl) (do59w nb fs b s _ HDD.out) ?_; rintro e w2 ⟨rfl, hD2, hk2⟩; refine ⟨_, rfl, ?_⟩; have HD2 := hide hD2; have HK2 := hide hk2; clear hD2 hk2)
        all_goals (go_wp2_with fail; go_meet)
        all_goals exact ⟨_, _, rfl, Nat.le_succ _, HD2.out, ⟨HK2.out.os, HK2.out.tape, HK2.out.output, HK2.out.size, HK2.out.block⟩⟩
      case rest =>
        obtain ⟨W, g, rfl, hg, hD3, hk3⟩ := hcut
        have hd3 := (hk3.block db (ltB hd1) (fun e => hnd e.symm)).trans hd1
        have h3 := (hk3.block O (ltB h1) hOn).trans h1
        have hs3 : O + 1 ≤ W.heap.size := by have x1 := HS.out; have x2 := HK1.out.size; have x3 := hk3.size; omega
        have HD3 := hide hD3
        have HK3 := hide hk3
        have HG := hide hg
        have HS3 := hide hs3
        have bu1 := upC hd3 (.cells #[.int .i64 1, .string (nameB b), .string s] 146)
        have b1 := cellB hd3
        have b2 := cellB h3
        have nD : (Value.slice none 0 0).ownBlock ≠ some db := by simp [Value.ownBlock]
        clear a1 a2 hD3 hk3 hg hs3
        go_upto_region 10 with fail
        go_region_law (refine step_append_any (by rfl) _ _ 86 146 i0 (.agg #[.int .i64 0, .string ⟨#[]⟩, .string ⟨#[]⟩]) 3 40 Tryz.underlying86 hi hz0 hz1 hz2 rfl (by decide) (by rfl) O (.slice none 0 0) 0 [] (by rfl) (World.ownsRow_nil _ _ _ _) ⟨W.heap.size, 0, none⟩ 1 1 [.int .i64 1, .string (nameB b), .string s] (by rfl) (by rfl) (cells3_new W _ _ _ _) (by simp [Value.oneCell']) (by omega) (by omega) (by have := HS3.out; simp; omega) ?_; intro v5 w5 hown5 hgrow5 hat5; obtain ⟨a5, c5, e5⟩ := own_sliceE hown5; subst e5; have hd5 := (hgrow5.block db (by have := ltB hd3; simp; omega) (fun e => nD e.symm)).trans ((heapOld _ _ (ltB hd3)).trans hd3); have d1 := cellB hd5; have d2 := frozenB hd5; have HO5 := hide hown5; have HG5 := hide hgrow5; clear hown5 hgrow5 hat5)
        all_goals go_wp2
        all_goals go_ret
        all_goals (
          have hX : ∀ k o, W.heap[k]? = some o → w5.heap[k]? = some o := fun k o h => (HG5.out.block k (by have := ltB h; show k < (W.alloc _).heap.size; simp; omega) (by simp [Value.ownBlock])).trans ((heapOld _ _ (ltB h)).trans h)
          have hK5 : Keep (fun _ => False) W w5 := ⟨HG5.out.os, HG5.out.tape, HG5.out.output, Nat.le_trans (by show W.heap.size ≤ (W.alloc _).heap.size; simp) HG5.out.size, fun k hk _ => (HG5.out.block k (by show k < (W.alloc _).heap.size; simp; omega) (by simp [Value.ownBlock])).trans (heapOld _ _ hk)⟩
          refine ⟨rfl, .slice a5 (0 + 1) c5, g, by simpa using heapSet hd5 2 (.slice a5 (0 + 1) c5), ?_, ?_, ?_, ?_⟩
          · have x1 := HS.out; have x2 := HK1.out.size; have x3 := HG.out; have x4 := HO.out; omega
          · have hD5 : DirAt w5 nb (putG b (g, s) fs) := HD3.out.keep hK5 (fun h => h) (fun _ _ h => h)
            exact hD5.kept (heapSetO hnd _ _) (fun p hp => heapSetO (fun e => by have := hD5.str p hp; rw [e, hd5] at this; simp at this) _ _)
          · rw [← HO.out]
            exact ownsRow_setCell_other HO5.out (a := ⟨db, 2, none⟩) (fun e => own_neE HO5.out e hd5 (by decide) rfl) _
          · refine Keep.set ?_ (Or.inl (Or.inl rfl)) _ _
            exact ((HK.out.then HK1.out (fun i _ h => Or.inl h)).then HK3.out (fun i _ h => Or.inr h)).then hK5 (fun i _ h => h.elim)))

/-- Bytes of one's own that are written into. -/
structure Bang (w3 wr : World) (g n : Nat) : Prop where
  keep : Keep (fun c => c = g) w3 wr
  cur : ∃ cur, wr.heap[g]? = some (.cells cur 5 (0, 0)) ∧ n ≤ cur.size
theorem Bang.step {w3 wr : World} {g n : Nat} (h : Bang w3 wr g n) (j : Nat) (u : Value) : Bang w3 (wr.setCell ⟨g, j, none⟩ u) g n := by
  obtain ⟨cur, h1, h2⟩ := h.cur
  exact ⟨h.keep.set (Or.inl rfl) _ _, _, heapSet h1 j u, by simpa using h2⟩
theorem Bang.cell {w3 wr : World} {g n : Nat} (h : Bang w3 wr g n) (j : Nat) (hj : j < n) : (∃ u, wr.cell? ⟨g, j, none⟩ = some u) ∧ wr.frozen? ⟨g, j, none⟩ = false := by
  obtain ⟨cur, h1, h2⟩ := h.cur
  exact ⟨⟨cur[j]'(by omega), by rw [cellB h1]; simp⟩, frozenB h1 j⟩
end Go.Proofs.YtnlgndpcddngoaaGreatDoor
