import Derived.Test.YtnlgndpcddngoaaGreatDoorZc31
import Derived.Test.YtnlgndpcddngoaaGreatDoorZc00
set_option linter.unusedSectionVars false
namespace Go.Proofs.YtnlgndpcddngoaaGreatDoor
open Go.RowKit Go.Maps
variable [dK] [iK]

/-- The entries that a ledger begins with. -/
def opE (es : Es) (ks : List Ky) : Es := ks.map fun k => (k, (heldOf es k, heldOf es k))
theorem opE_snoc (es : Es) (ks : List Ky) (k : Ky) (h : k ∉ ks) : putG k (heldOf es k, heldOf es k) (opE es ks) = opE es (ks ++ [k]) := by
  have hn : fndG k (opE es ks) = none := fndG_none_of (by unfold opE; rw [List.map_map]; simpa using h)
  unfold putG
  rw [hn]
  unfold opE
  simp
theorem rrow_at (es : Es) : ∀ (ks : List Ky) (j : Nat) (k : Ky), ks[j]? = some k → ∀ x, x < 13 → (rrow es ks)[j * 13 + x]? = (kvals k ++ qvals (heldOf es k))[x]?
  | [], j, k, h, _, _ => by simp at h
  | k0 :: r, 0, k, h, x, hx => by
    have e : k0 = k := by simpa using h
    subst e
    unfold rrow
    rw [List.flatMap_cons, Nat.zero_mul, Nat.zero_add, List.getElem?_append_left (by simpa [kvals, qvals] using hx)]
  | k0 :: r, j + 1, k, h, x, hx => by
    have h' : r[j]? = some k := by simpa using h
    have ih := rrow_at es r j k h' x hx
    unfold rrow at ih ⊢
    rw [List.flatMap_cons, List.getElem?_append_right (by simp [kvals, qvals]; omega)]
    rw [show (j + 1) * 13 + x - (kvals k0 ++ qvals (heldOf es k0)).length = j * 13 + x by simp [kvals, qvals]; omega]
    exact ih

theorem own_nemap {w : World} {base e sz : Nat} {v : Value} {n : Nat} {xs : List Value} (h : w.ownsRow base e sz v n xs) {x : Nat} (hx : v.ownBlock = some x) {m : Array MapEntry} {cl : Nat} (hm : w.heap[x]? = some (.map m cl)) : False := by
  rcases h.2 with ⟨rfl, _⟩ | ⟨g', cap', cur, rfl, _, hh, _⟩
  · simp [Value.ownBlock] at hx
  · simp [Value.ownBlock] at hx
    subst hx
    rw [hm] at hh
    cases hh

set_option maxRecDepth 100000 in
set_option maxHeartbeats 4000000 in
/-- The book over files. -/
theorem openbook50f (db mb nb : Nat) (fs : Fs) (im : Bool → Option Ig) (l f : Int) (blk : Int) (w : World) (h : OpF w db mb nb fs im l f) (hnd : ∀ b i, im b = some i → i.ks.Nodup) :
    Calls Tryz.prog 50 #[.iface 78 (.pointer (some ⟨db, 0, none⟩)), .int .u64 blk] w fun e w' => ∃ (g mp : Nat) (i : Ig), e = .returned (.tuple #[.agg #[.int .u64 i.time, .int .u64 blk, .map (some mp), .pointer (some ⟨g, 0, none⟩)], .nilIface]) ∧ Best im i ∧ w.heap.size ≤ g ∧ w.heap.size ≤ mp ∧ g ≠ mp ∧ MapE w' mp (opE i.es i.ks) ∧ StoAt w' g db i.turn ∧ w'.heap[db]? = some (.cells #[.map (some mb), .map (some nb), .slice none 0 0, .int .i64 (l - 1), .int .i64 (f - 1), .bool false] 88) ∧ Keep (fun c => c = db) w w' := by
  have hmm := @run_makeMap Tryz.prog
  obtain ⟨V, hV⟩ : ∃ V, V = w.alloc (.cells #[.int .u64 0, .int .u64 0, .map none, .pointer none] 124) := ⟨_, rfl⟩
  have h0 : V.heap[w.heap.size]? = some (.cells #[.int .u64 0, .int .u64 0, .map none, .pointer none] 124) := hV ▸ heapNew _ _
  have hB : Below w.heap.size w V := hV ▸ (Below.refl _ w).alloc (Nat.le_refl _) _
  have hsV : V.heap.size = w.heap.size + 1 := by rw [hV]; simp
  have hdl := ltB h.hd
  have HO := hide (storeopen76f db mb nb fs im l f V (h.kept hB))
  have HB := hide hB
  have HSV := hide hsV
  have HI := hide h.hI
  have HND := hide hnd
  clear h hB hsV hnd
  go_enter Tryz.func50, Tryz.ntmps50
  go_upto_region 1 with fail
  rw [← hV]
  clear hV
  go_wp2_with fail
  refine HO.out.mono ?_
  rintro e w1 ⟨g, i, a, c, rfl, hgl, hbest, hS1, ho1, hd1, hk1⟩
  have sV := HSV.out
  obtain ⟨Y, hY⟩ : ∃ Y, Y = (w1.alloc (.cells #[.int .u64 i.turn, .int .u64 i.time, .slice a i.ks.length c] 169)).alloc (.map #[] 0) := ⟨_, rfl⟩
  obtain ⟨mp, hmp⟩ : ∃ mp, mp = w1.heap.size + 1 := ⟨_, rfl⟩
  have hs1 := hk1.size
  have g0 := (hk1.block w.heap.size (by omega) (by omega)).trans h0
  have up : ∀ x, x < w1.heap.size → Y.heap[x]? = w1.heap[x]? := fun x hx => by rw [hY, heapOld _ _ (by simp; omega), heapOld _ _ hx]
  have y0 := (up w.heap.size (by omega)).trans g0
  have y1 : Y.heap[w1.heap.size]? = some (.cells #[.int .u64 i.turn, .int .u64 i.time, .slice a i.ks.length c] 169) := hY ▸ upB (heapNew _ _) _
  have y2 : Y.heap[mp]? = some (.map #[] 0) := by rw [hmp, hY]; exact heapN (by simp)
  have hSY : StoAt Y g db i.turn := hS1.kept (up g hS1.lt)
  have hoY : Y.ownsRow V.heap.size 175 13 (.slice a i.ks.length c) i.ks.length (rrow i.es i.ks) := own_keptE ho1 (fun x hx => up x (own_ltE ho1 hx).2)
  have hdY := (up db (by omega)).trans hd1
  have hKY : Keep (fun c => c = db) w Y := by rw [hY]; exact (((Keep.of_below HB.out).then hk1 (fun _ _ h => h)).alloc _).alloc _
  have hgl1 := hS1.lt
  have hsY : Y.heap.size = w1.heap.size + 2 := by rw [hY]; simp
  have hiok : i.ok := ((HI.out _).2 i hbest.1).1
  have hind : i.ks.Nodup := HND.out _ i hbest.1
  have HS := hide hSY
  have HKY := hide hKY
  have HOY := hide hoY
  have HDY := hide hdY
  have HL := hide (And.intro hgl (And.intro hs1 (And.intro hgl1 (And.intro hmp (And.intro hsY sV)))))
  have HBT := hide hbest
  have HIO := hide (And.intro hiok hind)
  have hl12 : (i.ks.length : Int) ≤ 12 := by have := hiok.len; omega
  clear hS1 ho1 hd1 hk1 hSY hKY hoY hdY h0 g0 hgl hs1 hgl1 sV up hbest hiok hind hsY
  go_upto_region 5 with fail
  rw [← hY]
  rw [← hmp]
  clear hY hmp
  have e1 := cellB y1
  go_wp2_with fail
  go_loopw [26] (fun s wr => ∃ j : Nat, j ≤ i.ks.length ∧ s = .int .i64 j ∧ MapE wr mp (opE i.es (i.ks.take j)) ∧ Keep (fun c => c = mp) Y wr) (fun s _ => i.ks.length - (intOf s).toNat)
  case atStart => exact ⟨0, Nat.zero_le _, rfl, MapG.empty y2, Keep.refl _ _⟩
  case round =>
    obtain ⟨j, hj, rfl, hm, hk⟩ := hrel
    by_cases hlt : j < i.ks.length
    · obtain ⟨l1, l2, l3, l4, l5, l6⟩ := HL.out
      have hmpY : mp < Y.heap.size := by omega
      obtain ⟨k, hkj⟩ : ∃ k, i.ks[j]? = some k := ⟨_, List.getElem?_eq_getElem hlt⟩
      obtain ⟨q, hq⟩ : ∃ q, q = heldOf i.es k := ⟨_, rfl⟩
      obtain ⟨rbk, rcp, hre, hrb, hrl⟩ := HOY.out.form (by omega)
      injection hre with hra hrn hrc
      subst hra
      have hnm : rbk ≠ mp := fun e => own_nemap HOY.out (x := mp) (by rw [← e]; rfl) y2
      have hcR : ∀ x, x < 13 → wr.cell? ⟨rbk, j * 13 + x, none⟩ = (kvals k ++ qvals q)[x]? := fun x hx => by
        rw [World.cell?_of_block (w := Y) (hk.block rbk hrl hnm), HOY.out.cellAt (j * 13 + x) (by omega), rrow_at i.es i.ks j k hkj x hx, hq]
      have r0 : wr.cell? ⟨rbk, j * 13, none⟩ = some (.int .u8 k.k0) := hcR 0 (by omega)
      have r1 : wr.cell? ⟨rbk, j * 13 + 1, none⟩ = some (.int .u8 k.k1) := hcR 1 (by omega)
      have r2 : wr.cell? ⟨rbk, j * 13 + 2, none⟩ = some (.int .u8 k.k2) := hcR 2 (by omega)
      have r3 : wr.cell? ⟨rbk, j * 13 + 3, none⟩ = some (.int .u8 k.k3) := hcR 3 (by omega)
      have r4 : wr.cell? ⟨rbk, j * 13 + 4, none⟩ = some (.int .u8 k.k4) := hcR 4 (by omega)
      have r5 : wr.cell? ⟨rbk, j * 13 + 5, none⟩ = some (.int .u8 k.k5) := hcR 5 (by omega)
      have r6 : wr.cell? ⟨rbk, j * 13 + 6, none⟩ = some (.int .u8 k.k6) := hcR 6 (by omega)
      have r7 : wr.cell? ⟨rbk, j * 13 + 7, none⟩ = some (.int .u8 k.k7) := hcR 7 (by omega)
      have r8 : wr.cell? ⟨rbk, j * 13 + 8, none⟩ = some (.int .u8 q.kd) := hcR 8 (by omega)
      have r9 : wr.cell? ⟨rbk, j * 13 + 9, none⟩ = some (.int .u64 q.x) := hcR 9 (by omega)
      have r10 : wr.cell? ⟨rbk, j * 13 + 10, none⟩ = some (.int .u64 q.y) := hcR 10 (by omega)
      have r11 : wr.cell? ⟨rbk, j * 13 + 11, none⟩ = some (.int .u64 q.lv) := hcR 11 (by omega)
      have r12 : wr.cell? ⟨rbk, j * 13 + 12, none⟩ = some (.int .u64 q.wn) := hcR 12 (by omega)
      have hkok : k.ok := (HIO.out.1.rec_ k (List.mem_of_getElem? hkj)).1
      have hknot : k ∉ i.ks.take j := fun hmem => by
        have h := HIO.out.2
        rw [← List.take_append_drop j i.ks] at h
        have hd : (i.ks.drop j)[0]? = some k := by rw [List.getElem?_drop, Nat.add_zero]; exact hkj
        exact (List.nodup_append.1 h).2.2 k hmem k (List.mem_of_getElem? hd) rfl
      have htk : i.ks.take (j + 1) = i.ks.take j ++ [k] := by rw [List.take_add_one, hkj]; rfl
      obtain ⟨W, hW⟩ : ∃ W, W = wr.alloc (.cells #[.int .u8 k.k0, .int .u8 k.k1, .int .u8 k.k2, .int .u8 k.k3, .int .u8 k.k4, .int .u8 k.k5, .int .u8 k.k6, .int .u8 k.k7, .int .u8 q.kd, .int .u64 q.x, .int .u64 q.y, .int .u64 q.lv, .int .u64 q.wn] 175) := ⟨_, rfl⟩
      obtain ⟨R, hR⟩ : ∃ R, R = wr.heap.size := ⟨_, rfl⟩
      have hr0 : W.heap[R]? = some (.cells #[.int .u8 k.k0, .int .u8 k.k1, .int .u8 k.k2, .int .u8 k.k3, .int .u8 k.k4, .int .u8 k.k5, .int .u8 k.k6, .int .u8 k.k7, .int .u8 q.kd, .int .u64 q.x, .int .u64 q.y, .int .u64 q.lv, .int .u64 q.wn] 175) := by rw [hR, hW]; exact heapNew _ _
      have hmW : MapE W mp (opE i.es (i.ks.take j)) := MapG.kept hm (hW ▸ heapOld _ _ (MapG.lt hm))
      have hlen : (opE i.es (i.ks.take j)).length ≤ 1000 := by unfold opE; rw [List.length_map, List.length_take]; have := HIO.out.1.len; omega
      obtain ⟨w3, hrun, hTn, hM3⟩ := MapG.store mkey hmW hlen hkok (q, q) undE
      have hrun' : (Instr.mapUpdate 121 (.map (some mp)) (.agg #[.int .u8 k.k0, .int .u8 k.k1, .int .u8 k.k2, .int .u8 k.k3, .int .u8 k.k4, .int .u8 k.k5, .int .u8 k.k6, .int .u8 k.k7]) (.agg #[.int .u8 q.kd, .int .u64 q.x, .int .u64 q.y, .int .u64 q.lv, .int .u64 q.wn, .int .u8 q.kd, .int .u64 q.x, .int .u64 q.y, .int .u64 q.lv, .int .u64 q.wn])).run Tryz.prog W = .ok () w3 := hrun
      have hM4 : MapE w3 mp (opE i.es (i.ks.take (j + 1))) := by rw [htk, ← opE_snoc i.es _ k hknot, ← hq]; exact hM3
      have hK3 : Keep (fun c => c = mp) Y w3 := (hW ▸ hk.alloc _ : Keep (fun c => c = mp) Y W).then (Keep.turned hTn) (fun _ _ h => h)
      have HM4 := hide hM4
      have HK3 := hide hK3
      have HLT := hide hlt
      have hjl : (j : Int) < (i.ks.length : Int) := by omega
      clear hrun hM3 hTn hM4 hK3 hmW hlen htk hknot hkok hcR hm hk hkj hq l1 l2 l3 l4 l5 l6 hmpY hj hlt
      go_upto_region 8 with fail
      rw [← hW, ← hR]
      clear hW hR r0 r1 r2 r3 r4 r5 r6 r7 r8 r9 r10 r11 r12
      have c1 := cellB hr0
      go_wp2
      go_roundw
      case rel => exact ⟨j + 1, by have := HLT.out; omega, by go_num, HM4.out, HK3.out⟩
      case measure => have := HLT.out; simp [intOf]; omega
    · obtain rfl : j = i.ks.length := by omega
      have n0 : w.heap.size ≠ mp := by have := HL.out; omega
      have n1 : w1.heap.size ≠ mp := by have := HL.out; omega
      have z0 := (hk.block w.heap.size (ltB y0) n0).trans y0
      have z1 := (hk.block w1.heap.size (ltB y1) n1).trans y1
      have c0 := cellB z0
      have c0' := frozenB z0
      have c1 := cellB z1
      have HM := hide hm
      have HK := hide hk
      clear hm hk
      go_wp2
      rw [List.take_length] at HM
      obtain ⟨l1, l2, l3, l4, l5, l6⟩ := HL.out
      refine bodyPost_ret (v := .tuple #[.agg #[.int .u64 i.time, .int .u64 blk, .map (some mp), .pointer (some ⟨g, 0, none⟩)], .nilIface]) (by simp [results, Tryz.results50, go_sem, c0]) rfl ⟨g, mp, i, rfl, HBT.out, by omega, by omega, by omega, ?_⟩
      have hX : ∀ x, x ≠ w.heap.size → ((((wr.setCell ⟨w.heap.size, 0, none⟩ (.int .u64 i.time)).setCell ⟨w.heap.size, 1, none⟩ (.int .u64 blk)).setCell ⟨w.heap.size, 2, none⟩ (.map (some mp))).setCell ⟨w.heap.size, 3, none⟩ (.pointer (some ⟨g, 0, none⟩))).heap[x]? = wr.heap[x]? := fun x hx => (heapSetO hx _ _).trans ((heapSetO hx _ _).trans ((heapSetO hx _ _).trans (heapSetO hx _ _)))
      refine ⟨MapG.kept HM.out (hX mp (fun e => n0 e.symm)), HS.out.kept ((hX g (by omega)).trans (HK.out.block g HS.out.lt (by omega))), (hX db (by omega)).trans ((HK.out.block db (ltB HDY.out) (by omega)).trans HDY.out), ?_⟩
      refine Keep.set (b := w.heap.size) (Keep.set (b := w.heap.size) (Keep.set (b := w.heap.size) (Keep.set (b := w.heap.size) ?_ (Or.inr (Nat.le_refl _)) _ _) (Or.inr (Nat.le_refl _)) _ _) (Or.inr (Nat.le_refl _)) _ _) (Or.inr (Nat.le_refl _)) _ _
      exact HKY.out.then HK.out (fun x hx h => by omega)
end Go.Proofs.YtnlgndpcddngoaaGreatDoor
