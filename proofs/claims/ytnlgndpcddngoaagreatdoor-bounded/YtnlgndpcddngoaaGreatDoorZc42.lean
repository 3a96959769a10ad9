import Derived.Test.YtnlgndpcddngoaaGreatDoorZc40
import Derived.Test.YtnlgndpcddngoaaGreatDoorZc41
import Derived.Test.YtnlgndpcddngoaaGreatDoorZc25
import Derived.Test.YtnlgndpcddngoaaGreatDoorZc28
import Derived.Test.YtnlgndpcddngoaaGreatDoorZc34
set_option linter.unusedSectionVars false
namespace Go.Proofs.YtnlgndpcddngoaaGreatDoor
open Go.RowKit Go.Maps
variable [dK] [iK]

theorem LedAt.count {w w' : World} {st : Int} {sb db k : Nat} {c : Led} {F : Nat → Prop} {t : Int} (h : LedAt w st sb db k c F) (hs : ∃ s2 s3 s4 s5, w.heap[sb]? = some (.cells #[.int .i32 st, .int .u32 0, s2, s3, s4, s5, .int .u64 c.adm] 130) ∧ w'.heap[sb]? = some (.cells #[.int .i32 st, .int .u32 0, s2, s3, s4, s5, .int .u64 t] 130)) (hk : Keep (fun b => b = sb) w w') : OutL w st sb db k ⟨c.time, t, c.blk, c.es, c.turn, c.fsD, c.fsN⟩ F w' := by
  obtain ⟨mp, g, FD, h1, h2, h3, h4, h5, h6, h7, h8, h9, h10, h11, h12, h13⟩ := h.mem
  obtain ⟨s2, s3, s4, s5, e1, e2⟩ := hs
  rw [h1] at e1
  simp at e1
  obtain ⟨rfl, rfl, rfl, rfl⟩ := e1
  exact ⟨F, ⟨⟨mp, g, FD, e2, MapG.kept h2 (hk.block mp (h.lt mp h6) (fun e => h13 e.symm)), h3.kept (hk.block g (h.lt g h7) (fun e => h12 e.symm)), h4.kept hk.size (fun b hb => hk.block b (h.lt b (h5 b hb)) (fun e => h11 (e ▸ hb))), h5, h6, h7, h8, h9, h10, h11, h12, h13⟩, h.own, fun b hb => Nat.lt_of_lt_of_le (h.lt b hb) hk.size⟩, hk.mono (fun b e _ => e ▸ h.own), fun b hb => Or.inl hb⟩

set_option maxRecDepth 100000 in
set_option maxHeartbeats 4000000 in
theorem do_snap (sb : Nat) (st : Int) (db kk : Nat) (cc : Led) (F : Nat → Prop) (q : Rq) (w : World) (h1 : q.op ≠ 1) (h2 : q.op ≠ 2) (h3 : q.op ≠ 3) (h4 : q.op ≠ 4) (h6 : q.op ≠ 6) (hS : LedAt w st sb db (kk + 4) cc F)
    (hc : Hid (∀ w1, LedAt w1 st sb db (kk + 4) cc F → Calls Tryz.prog 115 #[.pointer (some ⟨sb, 2, none⟩)] w1 fun e w' => e = .returned (.agg #[.int .u8 1, .int .u64 0, .int .u64 0]) ∧ OutQ w1 st sb db kk cc F cc.ld w')) :
    Calls Tryz.prog 74 #[.pointer (some ⟨sb, 0, none⟩), .agg #[.int .u8 q.op, .int .u8 q.k0, .int .u8 q.k1, .int .u8 q.k2, .int .u8 q.k3, .int .u8 q.k4, .int .u8 q.k5, .int .u8 q.k6, .int .u8 q.k7, .int .u8 q.kd, .int .u64 q.x, .int .u64 q.y, .int .u64 q.n]] w fun e w' => e = .returned (.agg #[.int .u8 1, .int .u64 0, .int .u64 0]) ∧ OutQ w st sb db kk cc F cc.ld w' := by
  have n1 : (q.op == 1) = false := by simpa using h1
  have n2 : (q.op == 2) = false := by simpa using h2
  have n3 : (q.op == 3) = false := by simpa using h3
  have n4 : (q.op == 4) = false := by simpa using h4
  have n6 : (q.op == 6) = false := by simpa using h6
  clear h1 h2 h3 h4 h6
  have hFl := hS.lt
  obtain ⟨W, hW⟩ : ∃ W, W = (w.alloc (.cells #[.int .u8 q.op, .int .u8 q.k0, .int .u8 q.k1, .int .u8 q.k2, .int .u8 q.k3, .int .u8 q.k4, .int .u8 q.k5, .int .u8 q.k6, .int .u8 q.k7, .int .u8 q.kd, .int .u64 q.x, .int .u64 q.y, .int .u64 q.n] 65)).alloc (.cells #[.int .u8 0, .int .u64 0, .int .u64 0] 40) := ⟨_, rfl⟩
  have hB : Below w.heap.size w W := hW ▸ ((Below.refl _ w).alloc (Nat.le_refl _) _).alloc (by simp) _
  have hk0 : W.heap[w.heap.size]? = some (.cells #[.int .u8 q.op, .int .u8 q.k0, .int .u8 q.k1, .int .u8 q.k2, .int .u8 q.k3, .int .u8 q.k4, .int .u8 q.k5, .int .u8 q.k6, .int .u8 q.k7, .int .u8 q.kd, .int .u64 q.x, .int .u64 q.y, .int .u64 q.n] 65) := hW ▸ upB (heapNew _ _) _
  have hr0 : W.heap[w.heap.size + 1]? = some (.cells #[.int .u8 0, .int .u64 0, .int .u64 0] 40) := hW ▸ heapN (by simp)
  have hSW := hS.below hB (Nat.le_refl _)
  have a1 := cellB hk0
  have lr := ltB hr0
  go_enter Tryz.func74, Tryz.ntmps74
  go_upto_region 1 with fail
  rw [← hW]
  clear hW
  go_wp2_with fail
  refine (hc.out _ hSW).mono ?_
  rintro e w2 ⟨rfl, c', hc1, hc2, hc3, F', ho1, ho2, ho3⟩
  have hr2 := (ho2.block _ lr (fun h => by have := hFl _ h; omega)).trans hr0
  have c2 := cellB hr2
  have f2 := frozenB hr2
  have HC := hide (And.intro hc1 (And.intro hc2 hc3))
  have HO1 := hide ho1
  clear a1 hc1 hc2 hc3 ho1
  go_wp2
  refine bodyPost_ret (v := .agg #[.int .u8 1, .int .u64 0, .int .u64 0]) (by simp [results, Tryz.results74, go_sem, c2]) rfl ⟨rfl, ?_⟩
  exact ⟨c', HC.out.1, HC.out.2.1, HC.out.2.2, OutL.fin hB lr hFl HO1.out ho2 ho3 _ _ _⟩

/-- A request is done as the document says; what a snapshot does is handed in. -/
theorem do74 (st : Int) (sb db kk : Nat) (c : Led) (F : Nat → Prop) (q : Rq) (w : World) (hS4 : LedAt w st sb db (kk + 4) c F) (hcc : c.ok) (hq : q.ok)
    (hsn : Hid (∀ w1, LedAt w1 st sb db (kk + 4) c F → Calls Tryz.prog 115 #[.pointer (some ⟨sb, 2, none⟩)] w1 fun e w' => e = .returned (.agg #[.int .u8 1, .int .u64 0, .int .u64 0]) ∧ OutQ w1 st sb db kk c F c.ld w')) :
    Calls Tryz.prog 74 #[.pointer (some ⟨sb, 0, none⟩), .agg #[.int .u8 q.op, .int .u8 q.k0, .int .u8 q.k1, .int .u8 q.k2, .int .u8 q.k3, .int .u8 q.k4, .int .u8 q.k5, .int .u8 q.k6, .int .u8 q.k7, .int .u8 q.kd, .int .u64 q.x, .int .u64 q.y, .int .u64 q.n]] w fun e w' => e = .returned (.agg #[.int .u8 (doM c.ld q).2.c, .int .u64 (doM c.ld q).2.a, .int .u64 (doM c.ld q).2.b]) ∧ OutQ w st sb db kk c F (doM c.ld q).1 w' := by
  have hS : LedAt w st sb db (kk + 2) c F := hS4.less (by omega)
  by_cases o1 : q.op = 1
  · exact do_define sb st db kk c _ F q _ _ _ w o1 hS (hide (fun w1 h1 => book_define st sb db kk c F q w1 o1 hq h1 hcc))
  by_cases o2 : q.op = 2
  · have ea : (doM c.ld q).2 = (admB c.ld q).2 := by
      unfold doM admB; rw [if_neg o1, if_pos o2]
      cases fnd q.key c.ld.ks <;> rfl
    rw [ea]
    refine do_admit sb st db kk c (admB c.ld q).1 _ F q _ _ _ w o2 hS (hide (fun w1 h1 => book_adm st sb db kk c F q w1 hq h1 hcc)) (hide (fun w1 F1 c1 k1 e1 h1 => ?_))
    obtain ⟨mp, g, FD, m1, m2, _⟩ := h1.mem
    have hadm : c1.adm = c.adm := by
      have : c1.ld.adm = (admB c.ld q).1.adm := by rw [e1]
      have e2 : (admB c.ld q).1.adm = c.adm := by
        unfold admB
        cases fnd q.key c.ld.ks <;> rfl
      exact this.trans e2
    by_cases h2 : (admB c.ld q).2.c = 2
    · have eL : (doM c.ld q).1 = ⟨c1.time, (c1.adm + q.n) % 18446744073709551616, stands c1.es⟩ := by
        have e3 : (doM c.ld q).1 = ⟨(admB c.ld q).1.time, ((admB c.ld q).1.adm + q.n) % 18446744073709551616, (admB c.ld q).1.ks⟩ := by
          unfold doM admB at *
          rw [if_neg o1, if_pos o2]
          cases hf : fnd q.key c.ld.ks with
          | none => rw [hf] at h2; simp at h2
          | some z =>
            rw [hf] at h2
            show (⟨_, if (admM z c.ld.time q.n).2.c = 2 then _ else _, _⟩ : Ld) = _
            rw [if_pos h2]
        rw [e3, ← e1]; rfl
      rw [h2, eL]
      refine (scount_in sb _ _ _ _ _ _ c1.adm q.n ((c1.adm + q.n) % 18446744073709551616) _ _ (by rw [IntKind.wrap_u64]) w1 m1).mono ?_
      rintro e w' ⟨rfl, g1, g2⟩
      exact ⟨rfl, ⟨c1.time, (c1.adm + q.n) % 18446744073709551616, c1.blk, c1.es, c1.turn, c1.fsD, c1.fsN⟩, ⟨k1.time, by show 0 ≤ (c1.adm + q.n) % 18446744073709551616 ∧ (c1.adm + q.n) % 18446744073709551616 ≤ 18446744073709551615; omega, k1.blk, k1.turn, k1.nd, k1.key, k1.qt, k1.fit, k1.len, k1.dur⟩, rfl, rfl, h1.count ⟨_, _, _, _, m1, g1⟩ g2⟩
    · have eL : (doM c.ld q).1 = c1.ld := by
        rw [e1]
        unfold doM admB at *
        rw [if_neg o1, if_pos o2]
        cases hf : fnd q.key c.ld.ks with
        | none => rfl
        | some z =>
          rw [hf] at h2
          show (⟨_, if (admM z c.ld.time q.n).2.c = 2 then _ else _, _⟩ : Ld) = _
          rw [if_neg h2]
      rw [eL]
      refine (scount_out sb q.n _ _ _ (by simpa using h2) w1).mono ?_
      rintro e w' ⟨rfl, hb⟩
      exact ⟨rfl, c1, k1, rfl, rfl, OutL.same h1 hb⟩
  by_cases o3 : q.op = 3
  · exact do_query sb st db kk c _ F q _ _ _ w o3 hS (hide (fun w1 h1 => book_query st sb db kk c F q w1 o3 hq h1 hcc))
  by_cases o4 : q.op = 4
  · exact do_remove sb st db kk c _ F q _ _ _ w o4 hS (hide (fun w1 h1 => book_remove st sb db kk c F q w1 o4 hq h1 hcc))
  by_cases o6 : q.op = 6
  · have e : doM c.ld q = (c.ld, ⟨1, c.time, 0⟩) := by unfold doM; rw [if_neg o1, if_neg o2, if_neg o3, if_neg o4, if_pos o6]; rfl
    rw [e]
    exact do_clock sb st db kk c F q w o6 hcc hS
  · have e : doM c.ld q = (c.ld, ⟨1, 0, 0⟩) := by unfold doM; rw [if_neg o1, if_neg o2, if_neg o3, if_neg o4, if_neg o6]
    rw [e]
    exact do_snap sb st db kk c F q w o1 o2 o3 o4 o6 hS4 hsn
end Go.Proofs.YtnlgndpcddngoaaGreatDoor

namespace Go.Proofs.YtnlgndpcddngoaaGreatDoor
open Go.RowKit
variable [dK] [iK]

/-- A ledger at a server, as the document has it; its disk bears k writes more. -/
def SrvK (db : Nat) (blk : Int) (k : Nat) (w : World) (st : Int) (sb : Nat) (L : Ld) (F : Nat → Prop) : Prop := ∃ c : Led, c.ok ∧ c.ld = L ∧ c.blk = blk ∧ LedAt w st sb db k c F
theorem SrvK.lt {db : Nat} {blk : Int} {k : Nat} {w : World} {st : Int} {sb : Nat} {L : Ld} {F : Nat → Prop} (h : SrvK db blk k w st sb L F) : ∀ b, F b → b < w.heap.size := by
  obtain ⟨c, _, _, _, h⟩ := h
  exact h.lt
theorem SrvK.lok {db : Nat} {blk : Int} {k : Nat} {w : World} {st : Int} {sb : Nat} {L : Ld} {F : Nat → Prop} (h : SrvK db blk k w st sb L F) : L.ok := by
  obtain ⟨c, h1, h2, _, _⟩ := h
  exact h2 ▸ h1.ld
theorem SrvK.kept {db : Nat} {blk : Int} {k : Nat} {w w' : World} {st : Int} {sb : Nat} {L : Ld} {F : Nat → Prop} (h : SrvK db blk k w st sb L F) (hs : w.heap.size ≤ w'.heap.size) (hb : ∀ b, F b → w'.heap[b]? = w.heap[b]?) : SrvK db blk k w' st sb L F := by
  obtain ⟨c, h1, h2, h3, h4⟩ := h
  exact ⟨c, h1, h2, h3, h4.kept hs hb⟩
theorem SrvK.below {db : Nat} {blk : Int} {k : Nat} {w w' : World} {st : Int} {sb : Nat} {L : Ld} {F : Nat → Prop} (h : SrvK db blk k w st sb L F) {B : Nat} (hb : Below B w w') (hB : w.heap.size ≤ B) : SrvK db blk k w' st sb L F :=
  h.kept hb.size fun b hF => hb.block b (Nat.lt_of_lt_of_le (h.lt b hF) hB)
theorem SrvK.drew {db : Nat} {blk : Int} {k : Nat} {w : World} {st : Int} {sb : Nat} {L : Ld} {F : Nat → Prop} (h : SrvK db blk k w st sb L F) : SrvK db blk k w.drew st sb L F := h.kept (Nat.le_refl _) fun _ _ => rfl
theorem SrvK.less {db : Nat} {blk : Int} {k k' : Nat} {w : World} {st : Int} {sb : Nat} {L : Ld} {F : Nat → Prop} (h : SrvK db blk k w st sb L F) (hk : k' ≤ k) : SrvK db blk k' w st sb L F := by
  obtain ⟨c, h1, h2, h3, h4⟩ := h
  exact ⟨c, h1, h2, h3, h4.less hk⟩
def OutK (db : Nat) (blk : Int) (k : Nat) (w : World) (st : Int) (sb : Nat) (L : Ld) (F : Nat → Prop) (w' : World) : Prop :=
  ∃ F', SrvK db blk k w' st sb L F' ∧ Keep F w w' ∧ ∀ b, F' b → F b ∨ w.heap.size ≤ b
theorem OutQ.k {db : Nat} {blk : Int} {k : Nat} {w w' : World} {st : Int} {sb : Nat} {c : Led} {L : Ld} {F : Nat → Prop} (hb : c.blk = blk) (h : OutQ w st sb db k c F L w') : OutK db blk k w st sb L F w' := by
  obtain ⟨c', h1, h2, h3, F', h4, h5, h6⟩ := h
  exact ⟨F', ⟨c', h1, h2, h3.trans hb, h4⟩, h5, h6⟩


/-- What holds while requests are done, one by one. -/
structure RdI (db : Nat) (blk : Int) (k0 : Nat) (w : World) (F : Nat → Prop) (st : Int) (sb cb rb : Nat) (cc : Array Value) (L0 : Ld) (bs0 : List Int) (L : Ld) (bs : List Int) (rs : List Rp) (F' : Nat → Prop) (v1 v5 : Value) (wr : World) : Prop where
  run : runL L0 bs0 = ((runL L bs).1, rs ++ (runL L bs).2.1, (runL L bs).2.2)
  sl : Sl wr v1 bs
  le : 18 * rs.length + 9 * bs.length ≤ 9 * bs0.length
  by_ : Bytes bs
  own : wr.ownsRow w.heap.size 5 1 v5 (encs rs).length ((encs rs).map (Value.int .u8))
  req : wr.heap[rb]? = some (.cells (rqc (rdQ bs)) 65)
  srv : SrvK db blk (4 * bs.length + k0) wr st sb L F'
  lok : L.ok
  F1 : ∀ b, F' b → F b ∨ w.heap.size ≤ b
  F2 : ¬ F' rb
  F3 : ∀ g, v5.ownBlock = some g → ¬ F' g ∧ g ≠ rb
  F4 : ∀ g o n c, v1 = .slice (some ⟨g, o, none⟩) n c → g < w.heap.size ∧ ¬ F g
  conn : wr.heap[cb]? = some (.cells cc 112)
  keep : Keep F w wr
end Go.Proofs.YtnlgndpcddngoaaGreatDoor

namespace Go.Proofs.YtnlgndpcddngoaaGreatDoor
open Go.RowKit Go.Maps
variable [dK] [iK]

set_option maxRecDepth 100000 in
set_option maxHeartbeats 2000000 in
/-- Open over a disk with no file. -/
theorem open34 (db mb nb : Nat) (blk : Int) (w : World) (hblk : 0 ≤ blk ∧ blk ≤ 18446744073709551615) (hd : w.heap[db]? = some (.cells #[.map (some mb), .map (some nb), .slice none 0 0, .int .i64 (-1), .int .i64 (-1), .bool false] 88)) (hM : DirAt w mb []) (hN : DirAt w nb []) (hmn : mb ≠ nb) :
    Calls Tryz.prog 34 #[.iface 78 (.pointer (some ⟨db, 0, none⟩)), .int .u64 blk] w fun e w' => ∃ sb F, e = .returned (.tuple #[.pointer (some ⟨sb, 0, none⟩), .nilIface]) ∧ w.heap.size ≤ sb ∧ SrvK db blk 4000000 w' 0 sb ⟨0, 0, []⟩ F ∧ (∀ b, F b → b = db ∨ b = mb ∨ b = nb ∨ w.heap.size ≤ b) ∧ Below w.heap.size w w' := by
  have HO := hide (openbook50 db nb _ _ _ _ blk w hd hN)
  have hdl := ltB hd
  have hml := hM.map.lt
  have hnl := hN.map.lt
  have HD := hide hd
  have HM := hide hM
  have HN := hide hN
  clear hd hM hN
  go_enter Tryz.func34, Tryz.ntmps34
  go_wp2_with fail
  refine HO.out.mono ?_
  rintro e w1 ⟨g, mp, rfl, q1, q2, q3, q4, q5, q6⟩
  have HQ := hide (And.intro q1 (And.intro q2 (And.intro q3 (And.intro q4 (And.intro q5 q6)))))
  clear q1 q2 q3 q4 q5 q6
  go_wp2
  go_ret2
  obtain ⟨q1, q2, q3, q4, q5, q6⟩ := HQ.out
  have s1 := q6.size
  have gl := q5.lt
  have ml := ltB q4
  obtain ⟨W, hW⟩ : ∃ W, W = (w1.alloc (.cells #[.int .u64 0, .int .u64 blk, .map (some mp), .pointer (some ⟨g, 0, none⟩)] 124)).alloc (.cells #[.int .i32 0, .int .u32 0, .int .u64 0, .int .u64 blk, .map (some mp), .pointer (some ⟨g, 0, none⟩), .int .u64 0] 130) := ⟨_, rfl⟩
  have up : ∀ k, k < w1.heap.size → W.heap[k]? = w1.heap[k]? := fun k hk => by rw [hW, heapOld _ _ (by simp; omega), heapOld _ _ hk]
  have old : ∀ k, k < w.heap.size → W.heap[k]? = w.heap[k]? := fun k hk => (up k (by omega)).trans (q6.block k hk)
  have hsb : W.heap[w1.heap.size + 1]? = _ := hW ▸ heapN (by simp)
  have hsW : W.heap.size = w1.heap.size + 2 := by rw [hW]; simp
  have hBW : Below w.heap.size w W := hW ▸ (q6.alloc s1 _).alloc (by simp; omega) _
  refine ⟨w1.heap.size + 1, fun b => b = db ∨ b = mb ∨ b = nb ∨ b = w1.heap.size + 1 ∨ b = mp ∨ b = g, by simp, by omega, ?_, fun b hb => ?_, by rw [← hW]; exact hBW⟩
  · rw [← hW]
    refine ⟨⟨0, 0, blk, [], 0, [], []⟩, ⟨by simp, by simp, hblk, by simp, by simp, fun p hp => (by cases hp), fun p hp => (by cases hp), fun p hp => (by cases hp), by simp, ⟨fun p hp => (by cases hp), Or.inl ⟨rfl, rfl⟩, fun p hp => (by simp [fndG] at hp)⟩⟩, rfl, rfl, ⟨⟨mp, g, fun b => b = db ∨ b = mb ∨ b = nb, hsb, MapG.empty ((up mp ml).trans q4), q5.kept (up g gl), ⟨⟨mb, nb, -1, -1, (old db hdl).trans HD.out, HM.out.kept (old mb hml) (fun p hp => (by cases hp)), HN.out.kept (old nb hnl) (fun p hp => (by cases hp)), by omega, by omega, Or.inr (Or.inl rfl), Or.inr (Or.inr rfl), hmn⟩, fun p hp => (by cases hp), fun p hp => (by cases hp), Or.inl rfl, fun b hb => ?_⟩, fun b hb => ?_, ?_, ?_, fun h => ?_, fun h => ?_, fun e => q3 e.symm, fun h => ?_, by omega, by omega⟩, ?_, fun b hb => ?_⟩⟩
    · rcases hb with h | h | h <;> (rw [h]; omega)
    · rcases hb with h | h | h
      · exact Or.inl h
      · exact Or.inr (Or.inl h)
      · exact Or.inr (Or.inr (Or.inl h))
    · exact Or.inr (Or.inr (Or.inr (Or.inr (Or.inl rfl))))
    · exact Or.inr (Or.inr (Or.inr (Or.inr (Or.inr rfl))))
    · rcases h with h | h | h <;> omega
    · rcases h with h | h | h <;> omega
    · rcases h with h | h | h <;> omega
    · exact Or.inr (Or.inr (Or.inr (Or.inl rfl)))
    · rcases hb with h | h | h | h | h | h <;> (rw [h]; omega)
  · rcases hb with h | h | h | h | h | h
    · exact Or.inl h
    · exact Or.inr (Or.inl h)
    · exact Or.inr (Or.inr (Or.inl h))
    · exact Or.inr (Or.inr (Or.inr (by omega)))
    · exact Or.inr (Or.inr (Or.inr (by omega)))
    · exact Or.inr (Or.inr (Or.inr (by omega)))

set_option maxRecDepth 100000 in
theorem connect25 (sb : Nat) (w : World) : Calls Tryz.prog 29 #[.pointer (some ⟨sb, 0, none⟩)] w fun e w' => e = .returned (.pointer (some ⟨w.heap.size, 0, none⟩)) ∧ w' = w.alloc (.cells #[.pointer (some ⟨sb, 0, none⟩), .slice none 0 0, .bool false] 112) := by
  go_enter Tryz.func29, Tryz.ntmps29
  go_wp2
  go_ret
  exact ⟨rfl, rfl⟩
end Go.Proofs.YtnlgndpcddngoaaGreatDoor

namespace Go.Proofs.YtnlgndpcddngoaaGreatDoor
open Go.RowKit Go.Maps
variable [dK] [iK]

/-- What a ledger that was opened anew has of one that went: its keys, each as it was reserved; its time, as it was kept; no count. -/
structure Rec (blk : Int) (L L' : Ld) : Prop where
  time : L'.time ≤ L.time
  adm : L'.adm = 0
  none_ : ∀ k, fnd k L.ks = none → fnd k L'.ks = none
  some_ : ∀ k z, fnd k L.ks = some z → ∃ h, fnd k L'.ks = some h ∧ Res blk z h ∧ (h.kd = 2 → h.wn ≤ L'.time / h.y)
theorem fndG_opE (es : Es) : ∀ (ks : List Ky) (k : Ky), fndG k (opE es ks) = if k ∈ ks then some (heldOf es k, heldOf es k) else none
  | [], k => by simp [opE, fndG]
  | k0 :: r, k => by
    have ih := fndG_opE es r k
    unfold opE at ih ⊢
    rw [List.map_cons]
    show (if k0 = k then some (heldOf es k0, heldOf es k0) else fndG k (r.map fun k => (k, (heldOf es k, heldOf es k)))) = _
    by_cases h : k0 = k
    · subst h
      rw [if_pos rfl, if_pos (by simp)]
    · rw [if_neg h, ih]
      by_cases h2 : k ∈ r
      · rw [if_pos h2, if_pos (by simp [h2])]
      · rw [if_neg h2, if_neg (by simp [h2]; exact fun e => h e.symm)]
theorem heldOf_opE (es : Es) (ks : List Ky) (k : Ky) (h : k ∈ ks) : heldOf (opE es ks) k = heldOf es k := by
  show ((fndG k (opE es ks)).map Prod.snd).getD ⟨0, 0, 0, 0, 0⟩ = _
  rw [fndG_opE, if_pos h]
  rfl
theorem opE_fst (es : Es) (ks : List Ky) : (opE es ks).map Prod.fst = ks := by
  unfold opE
  rw [List.map_map]
  exact List.map_id'' (fun _ => rfl) ks
/-- The files of a ledger, as images. -/
theorem files_of {c : Led} (hc : c.ok) (hne : c.fsD ≠ [] ∨ c.es ≠ []) : ∃ (im : Bool → Option Ig) (i : Ig), Files c.fsD im ∧ (∃ b, im b ≠ none) ∧ (∀ a b, im false = some a → im true = some b → b.turn = nextT a.turn ∨ a.turn = nextT b.turn) ∧ (∀ b j, im b = some j → j.ks.Nodup) ∧ (∀ j, Best im j → j = i) ∧ i.ok ∧ i.ks.Nodup ∧ i.turn = c.turn ∧ i.es = c.es ∧ i.ks.Perm (c.es.map Prod.fst) ∧ i.time ≤ c.time ∧ (∀ p ∈ c.es, p.2.2.kd = 2 → p.2.2.wn ≤ i.time / p.2.2.y) ∧ ∃ a, fndG (c.turn % 2 == 1) c.fsD = some (a, strOfNums i.bytes) := by
  obtain ⟨p, hp⟩ : ∃ p, fndG (c.turn % 2 == 1) c.fsD = some p := by
    rcases hc.dur.img with ⟨h1, h2⟩ | ⟨tm, ks, a, _, _, _, h4⟩
    · rcases hne with h | h
      · exact absurd h1 h
      · exact absurd h2 h
    · exact ⟨_, h4.1⟩
  obtain ⟨i, i1, i2, i3, i4, i5, i6, i7, i9⟩ := hc.dur.cur hc.turn hc.time.2 hc.nd hc.key hc.len hp
  have i8 : ∃ a, fndG (c.turn % 2 == 1) c.fsD = some (a, strOfNums i.bytes) := ⟨p.1, by rw [hp, ← i7]⟩
  obtain ⟨b0, hb0⟩ : ∃ b0, b0 = (c.turn % 2 == 1) := ⟨_, rfl⟩
  have hpar : (i.turn % 2 == 1) = b0 := by rw [i3, hb0]
  rw [← hb0] at hp
  have hold := hc.dur.old
  rw [← hb0] at hold
  have hnot : ∀ b, b ≠ b0 → b = !b0 := fun b h => by cases b <;> cases b0 <;> simp at h ⊢
  have hbb : (!b0) ≠ b0 := by cases b0 <;> simp
  have hc2 : ∀ (o : Ig), nextT o.turn = c.turn → ¬ o.turn = nextT i.turn := fun o h e => by
    rw [i3] at e
    rw [e] at h
    have := hc.turn
    unfold nextT at h
    omega
  cases ho : fndG (!b0) c.fsD with
  | none =>
    refine ⟨fun b => if b = b0 then some i else none, i, fun b => ?_, ⟨b0, by simp⟩, fun a b h1 h2 => ?_, fun b j h => ?_, fun j hj => ?_, i1, i2, i3, i4, i5, i6, i9, i8⟩
    · by_cases h : b = b0
      · subst h
        refine ⟨by dsimp only; rw [hp, if_pos rfl]; simp [i7], fun j hj => ?_⟩
        dsimp only at hj
        rw [if_pos rfl] at hj
        cases hj
        exact ⟨i1, hpar⟩
      · have := hnot b h
        subst this
        refine ⟨by dsimp only; rw [ho, if_neg h]; rfl, fun j hj => ?_⟩
        dsimp only at hj
        rw [if_neg h] at hj
        cases hj
    · exfalso
      cases b0
      · simp at h2
      · simp at h1
    · dsimp only at h
      by_cases h' : b = b0
      · rw [if_pos h'] at h; cases h; exact i2
      · rw [if_neg h'] at h; cases h
    · have h := hj.1
      dsimp only at h
      by_cases h' : (j.turn % 2 == 1) = b0
      · rw [if_pos h'] at h; cases h; rfl
      · rw [if_neg h'] at h; cases h
  | some po =>
    obtain ⟨o, o1, o2, o3, o4⟩ := hold po ho
    have hopar : (o.turn % 2 == 1) = !b0 := by
      have := nextT_par o.turn
      rw [o3, ← hb0] at this
      rw [this, Bool.not_not]
    refine ⟨fun b => if b = b0 then some i else some o, i, fun b => ?_, ⟨b0, by simp⟩, fun a b h1 h2 => ?_, fun b j h => ?_, fun j hj => ?_, i1, i2, i3, i4, i5, i6, i9, i8⟩
    · by_cases h : b = b0
      · subst h
        refine ⟨by dsimp only; rw [hp, if_pos rfl]; simp [i7], fun j hj => ?_⟩
        dsimp only at hj
        rw [if_pos rfl] at hj
        cases hj
        exact ⟨i1, hpar⟩
      · have := hnot b h
        subst this
        refine ⟨by dsimp only; rw [ho, if_neg h]; simp [o4], fun j hj => ?_⟩
        dsimp only at hj
        rw [if_neg h] at hj
        cases hj
        exact ⟨o1, hopar⟩
    · cases b0
      · simp at h1 h2
        subst h1 h2
        exact Or.inr (by rw [i3, o3])
      · simp at h1 h2
        subst h1 h2
        exact Or.inl (by rw [i3, o3])
    · dsimp only at h
      by_cases h' : b = b0
      · rw [if_pos h'] at h; cases h; exact i2
      · rw [if_neg h'] at h; cases h; exact o2
    · have h := hj.1
      dsimp only at h
      by_cases h' : (j.turn % 2 == 1) = b0
      · rw [if_pos h'] at h; cases h; rfl
      · rw [if_neg h'] at h
        cases h
        exfalso
        refine hc2 o o3 (hj.2 i ?_)
        dsimp only
        rw [hopar, Bool.not_not, if_pos rfl]

set_option maxRecDepth 100000 in
set_option maxHeartbeats 2000000 in
/-- Open over the files of a ledger that went. -/
theorem open34f (db mb nb : Nat) (blk : Int) (c0 : Led) (w : World) (hc : c0.ok) (hblk : c0.blk = blk) (hne : c0.fsD ≠ [] ∨ c0.es ≠ []) (hd : w.heap[db]? = some (.cells #[.map (some mb), .map (some nb), .slice none 0 0, .int .i64 (-1), .int .i64 (-1), .bool false] 88)) (hM : DirAt w mb c0.fsD) (hN : DirAt w nb c0.fsD) (hmn : mb ≠ nb) :
    Calls Tryz.prog 34 #[.iface 78 (.pointer (some ⟨db, 0, none⟩)), .int .u64 blk] w fun e w' => ∃ sb L' F, e = .returned (.tuple #[.pointer (some ⟨sb, 0, none⟩), .nilIface]) ∧ w.heap.size ≤ sb ∧ SrvK db blk 3999999 w' 0 sb L' F ∧ Rec blk c0.ld L' ∧ (∀ b, F b → b = db ∨ b = mb ∨ b = nb ∨ (∃ p ∈ c0.fsD, b = p.2.1) ∨ w.heap.size ≤ b) ∧ Keep (fun c => c = db) w w' := by
  obtain ⟨im, i, f1, f2, f3, f4, f5, j1, j2, j3, j4, j5, j6, j8, j7⟩ := files_of hc hne
  have HO := hide (openbook50f db mb nb c0.fsD im (-1) (-1) blk w ⟨hd, by omega, by omega, hN, f1, f2, f3⟩ f4)
  have hdl := ltB hd
  have hml := hM.map.lt
  have hnl := hN.map.lt
  have hmd : mb ≠ db := hM.map.ne hd
  have hnd : nb ≠ db := hN.map.ne hd
  have hsl : ∀ p ∈ c0.fsD, p.2.1 < w.heap.size ∧ p.2.1 ≠ db := fun p hp => ⟨ltB (hM.str p hp), fun e => by have := hM.str p hp; rw [e, hd] at this; simp at this⟩
  have HM := hide hM
  have HN := hide hN
  have HC := hide hc
  have HSL := hide hsl
  have HJ := hide (And.intro f5 (And.intro j1 (And.intro j2 (And.intro j3 (And.intro j4 (And.intro j5 (And.intro j6 (And.intro j8 j7))))))))
  clear hd hM hN hc hsl f1 f2 f3 f4 f5 j1 j2 j3 j4 j5 j6 j7 j8
  go_enter Tryz.func34, Tryz.ntmps34
  go_wp2_with fail
  refine HO.out.mono ?_
  rintro e w1 ⟨g, mp, i', rfl, q0, q1, q2, q3, q4, q5, q6, q7⟩
  have HQ := hide (And.intro q0 (And.intro q1 (And.intro q2 (And.intro q3 (And.intro q4 (And.intro q5 (And.intro q6 q7)))))))
  clear q0 q1 q2 q3 q4 q5 q6 q7
  go_wp2
  go_ret2
  obtain ⟨q0, q1, q2, q3, q4, q5, q6, q7⟩ := HQ.out
  obtain ⟨f5, j1, j2, j3, j4, j5, j6, j8, j7⟩ := HJ.out
  obtain rfl := f5 i' q0
  have hc := HC.out
  have s1 := q7.size
  have gl := q5.lt
  have ml := MapG.lt q4
  obtain ⟨W, hW⟩ : ∃ W, W = (w1.alloc (.cells #[.int .u64 i'.time, .int .u64 blk, .map (some mp), .pointer (some ⟨g, 0, none⟩)] 124)).alloc (.cells #[.int .i32 0, .int .u32 0, .int .u64 i'.time, .int .u64 blk, .map (some mp), .pointer (some ⟨g, 0, none⟩), .int .u64 0] 130) := ⟨_, rfl⟩
  have up : ∀ k, k < w1.heap.size → W.heap[k]? = w1.heap[k]? := fun k hk => by rw [hW, heapOld _ _ (by simp; omega), heapOld _ _ hk]
  have old : ∀ k, k < w.heap.size → k ≠ db → W.heap[k]? = w.heap[k]? := fun k hk hn => (up k (by omega)).trans (q7.block k hk hn)
  have hsb : W.heap[w1.heap.size + 1]? = _ := hW ▸ heapN (by simp)
  have hsW : W.heap.size = w1.heap.size + 2 := by rw [hW]; simp
  have hKW : Keep (fun c => c = db) w W := hW ▸ (q7.alloc _).alloc _
  have hdW := (up db (by omega)).trans q6
  have hMW : DirAt W mb c0.fsD := HM.out.kept (old mb hml hmd) (fun p hp => old _ (HSL.out p hp).1 (HSL.out p hp).2)
  have hNW : DirAt W nb c0.fsD := HN.out.kept (old nb hnl hnd) (fun p hp => old _ (HSL.out p hp).1 (HSL.out p hp).2)
  have hmem : ∀ k, k ∈ i'.ks ↔ ∃ q ∈ c0.es, q.1 = k := fun k => by
    rw [j5.mem_iff, List.mem_map]
  have hheld : ∀ q ∈ c0.es, heldOf i'.es q.1 = q.2.2 := fun q hq => by
    rw [j4]
    unfold heldOf
    rw [fndG_of_mem hc.nd hq]
    rfl
  have hq : ∀ k ∈ i'.ks, k.ok ∧ (heldOf i'.es k).ok := j1.rec_
  have hcok : (⟨i'.time, 0, blk, opE i'.es i'.ks, i'.turn, c0.fsD, c0.fsD⟩ : Led).ok := by
    have hin : ∀ p ∈ opE i'.es i'.ks, ∃ k ∈ i'.ks, p = (k, (heldOf i'.es k, heldOf i'.es k)) := fun p hp => by
      obtain ⟨k, hk, e⟩ := List.mem_map.1 hp
      exact ⟨k, hk, e.symm⟩
    have hb0 : 0 ≤ blk ∧ blk ≤ 18446744073709551615 := hblk ▸ hc.blk
    refine ⟨j1.time, by simp, hb0, j1.turn, by show ((opE i'.es i'.ks).map Prod.fst).Nodup; rw [opE_fst]; exact j2, fun p hp => ?_, fun p hp => ?_, fun p hp => ?_, by show (opE i'.es i'.ks).length ≤ 12; unfold opE; rw [List.length_map]; exact j1.len, ⟨fun p hp => ?_, ?_, ?_⟩⟩
    · obtain ⟨k, hk, rfl⟩ := hin p hp
      exact (hq k hk).1
    · obtain ⟨k, hk, rfl⟩ := hin p hp
      exact (hq k hk).2
    · obtain ⟨k, hk, rfl⟩ := hin p hp
      exact (hq k hk).2.fit
    · obtain ⟨k, hk, rfl⟩ := hin p hp
      exact Res.same (hq k hk).2 hb0.1
    · obtain ⟨a, ha⟩ := j7
      refine Or.inr ⟨i'.time, i'.ks, a, ?_, j1.time.1, Int.le_refl _, ?_, fun p hp => ?_⟩
      · show i'.ks.Perm ((opE i'.es i'.ks).map Prod.fst)
        rw [opE_fst]
      · show fndG (i'.turn % 2 == 1) c0.fsD = some (a, strOfNums (imgB i'.turn i'.time (opE i'.es i'.ks) i'.ks))
        rw [imgB_congr i'.turn i'.time (opE i'.es i'.ks) i'.es i'.ks (fun k hk => heldOf_opE _ _ k hk), j3, ha]
        unfold Ig.bytes
        rw [j3]
      · obtain ⟨k, hk, rfl⟩ := hin p hp
        obtain ⟨q, hq', e⟩ := (hmem k).1 hk
        have := j8 q hq'
        rw [← hheld q hq', e] at this
        exact this
    · show ∀ p, fndG (!(i'.turn % 2 == 1)) c0.fsD = some p → _
      rw [j3]
      exact hc.dur.old
  refine ⟨w1.heap.size + 1, ⟨i'.time, 0, stands (opE i'.es i'.ks)⟩, fun b => b = db ∨ b = mb ∨ b = nb ∨ (∃ p ∈ c0.fsD, b = p.2.1) ∨ b = w1.heap.size + 1 ∨ b = mp ∨ b = g, by simp, by omega, ?_, ?_, fun b hb => ?_, by rw [← hW]; exact hKW⟩
  · rw [← hW]
    refine ⟨_, hcok, rfl, rfl, ⟨⟨mp, g, fun b => b = db ∨ b = mb ∨ b = nb ∨ (∃ p ∈ c0.fsD, b = p.2.1), hsb, MapG.kept q4 (up mp ml), q5.kept (up g gl), ⟨⟨mb, nb, -1 - 1, -1 - 1, hdW, hMW, hNW, by omega, by omega, Or.inr (Or.inl rfl), Or.inr (Or.inr (Or.inl rfl)), hmn⟩, fun p hp => Or.inr (Or.inr (Or.inr ⟨p, hp, rfl⟩)), fun p hp => Or.inr (Or.inr (Or.inr ⟨p, hp, rfl⟩)), Or.inl rfl, fun b hb => ?_⟩, fun b hb => ?_, ?_, ?_, fun h => ?_, fun h => ?_, fun e => q3 e.symm, fun h => ?_, by omega, by omega⟩, ?_, fun b hb => ?_⟩⟩
    · rcases hb with h | h | h | ⟨p, hp, h⟩
      · omega
      · omega
      · omega
      · have := (HSL.out p hp).1; omega
    · rcases hb with h | h | h | h
      · exact Or.inl h
      · exact Or.inr (Or.inl h)
      · exact Or.inr (Or.inr (Or.inl h))
      · exact Or.inr (Or.inr (Or.inr (Or.inl h)))
    · exact Or.inr (Or.inr (Or.inr (Or.inr (Or.inr (Or.inl rfl)))))
    · exact Or.inr (Or.inr (Or.inr (Or.inr (Or.inr (Or.inr rfl)))))
    · rcases h with h | h | h | ⟨p, hp, h⟩
      · omega
      · omega
      · omega
      · have := (HSL.out p hp).1; omega
    · rcases h with h | h | h | ⟨p, hp, h⟩
      · omega
      · omega
      · omega
      · have := (HSL.out p hp).1; omega
    · rcases h with h | h | h | ⟨p, hp, h⟩
      · omega
      · omega
      · omega
      · have := (HSL.out p hp).1; omega
    · exact Or.inr (Or.inr (Or.inr (Or.inr (Or.inl rfl))))
    · rcases hb with h | h | h | ⟨p, hp, h⟩ | h | h | h
      · omega
      · omega
      · omega
      · have := (HSL.out p hp).1; omega
      · omega
      · omega
      · omega
  · refine ⟨j6, rfl, fun k hk => ?_, fun k z hz => ?_⟩
    · have h1 := fndG_of hk
      have h2 : k ∉ i'.ks := fun h => by
        obtain ⟨q, hq, e⟩ := (hmem k).1 h
        have := fndG_of_mem hc.nd hq
        rw [e, h1] at this
        cases this
      show fnd k (stands (opE i'.es i'.ks)) = none
      rw [fnd_stands, fndG_opE, if_neg h2]
      rfl
    · obtain ⟨z2, hg⟩ := fndG_of' hz
      have hq := fndG_mem hg
      have h2 : k ∈ i'.ks := (hmem k).2 ⟨_, hq, rfl⟩
      refine ⟨z2, ?_, hblk ▸ hc.dur.res _ hq, j8 _ hq⟩
      show fnd k (stands (opE i'.es i'.ks)) = some z2
      rw [fnd_stands, fndG_opE, if_pos h2, hheld _ hq]
      rfl
  · rcases hb with h | h | h | h | h | h | h
    · exact Or.inl h
    · exact Or.inr (Or.inl h)
    · exact Or.inr (Or.inr (Or.inl h))
    · exact Or.inr (Or.inr (Or.inr (Or.inl h)))
    · exact Or.inr (Or.inr (Or.inr (Or.inr (by omega))))
    · exact Or.inr (Or.inr (Or.inr (Or.inr (by omega))))
    · exact Or.inr (Or.inr (Or.inr (Or.inr (by omega))))
end Go.Proofs.YtnlgndpcddngoaaGreatDoor

namespace Go.Proofs.YtnlgndpcddngoaaGreatDoor
open Go.RowKit Go.Maps
variable [dK] [iK]

/-- What a renewal leaves of a store and its disk. -/
def RnPost (w w' : World) (g db k : Nat) (F : Nat → Prop) (Φ : Int → Fs → Prop) : Prop :=
  ∃ (t : Int) (fsD fsN : Fs) (F' : Nat → Prop), ((0 ≤ t ∧ t ≤ 18446744073709551615) ∧ Φ t fsD) ∧ StoAt w' g db t ∧ DskAt w' db k fsD fsN F' ∧ (∀ b, F' b → F b ∨ w.heap.size ≤ b) ∧ Keep (fun c => c = g ∨ F c) w w'
theorem RnPost.from {w V w' : World} {g db k : Nat} {F : Nat → Prop} {Φ : Int → Fs → Prop} (h : RnPost V w' g db k F Φ) (hV : Keep (fun _ => False) w V) : RnPost w w' g db k F Φ := by
  obtain ⟨t, fsD, fsN, F', h0, h1, h2, h3, h4⟩ := h
  exact ⟨t, fsD, fsN, F', h0, h1, h2, fun b hb => (h3 b hb).imp id (fun h => Nat.le_trans hV.size h), (hV.mono (fun _ h _ => h.elim)).trans h4⟩
theorem callRenew (vs : Array Value) (w : World) : Sem.run Tryz.prog (callFunc 142 vs) w = .ok (.enter 142 vs) w := by simp [go_sem]

set_option maxRecDepth 100000 in
set_option maxHeartbeats 4000000 in
/-- A snapshot, given what a renewal does. -/
theorem bsnap (st : Int) (sb db k mp g : Nat) (c : Led) (F FD : Nat → Prop) (w : World) (hc : c.ok) (hlw : ∀ b, F b → b < w.heap.size) (hown : F sb)
    (s1 : w.heap[sb]? = some (.cells #[.int .i32 st, .int .u32 0, .int .u64 c.time, .int .u64 c.blk, .map (some mp), .pointer (some ⟨g, 0, none⟩), .int .u64 c.adm] 130)) (s2 : MapE w mp c.es)
    (s5 : ∀ b, FD b → F b) (s6 : F mp) (s7 : F g) (s8 : ¬ FD g) (s9 : ¬ FD mp) (s10 : mp ≠ g) (s11 : ¬ FD sb) (s12 : sb ≠ g) (s13 : sb ≠ mp)
    (h142 : Hid (∀ V, Keep (fun _ => False) w V → Calls Tryz.prog 142 #[.pointer (some ⟨g, 0, none⟩), .int .u64 c.time, .func (.func 143) #[.map (some mp)] #[]] V fun e w' => e = .returned .nilIface ∧ RnPost V w' g db k FD (Dur c.time c.blk c.es))) :
    Calls Tryz.prog 115 #[.pointer (some ⟨sb, 2, none⟩)] w fun e w' => e = .returned (.agg #[.int .u8 1, .int .u64 0, .int .u64 0]) ∧ OutQ w st sb db k c F c.ld w' := by
  obtain ⟨V, hV⟩ : ∃ V, V = w.alloc (.cells #[.int .u8 0, .int .u64 0, .int .u64 0] 40) := ⟨_, rfl⟩
  have hKV : Keep (fun _ => False) w V := hV ▸ (Keep.refl _ w).alloc _
  have hr1 : V.heap[w.heap.size]? = some (.cells #[.int .u8 0, .int .u64 0, .int .u64 0] 40) := hV ▸ heapNew _ _
  have hsV : V.heap[sb]? = _ := (hKV.block sb (ltB s1) (fun h => h)).trans s1
  have hmf : ∀ (fn : Fn) (first cap : Array Value) (w : World), (Instr.makeFunc fn first cap).run Tryz.prog w = .ok (.func fn first cap) w := fun _ _ _ _ => rfl
  have HK := hide (h142.out V.drew (hKV.then (T := fun _ => False) ⟨rfl, rfl, rfl, Nat.le_refl _, fun _ _ _ => rfl⟩ (fun _ _ h => h)))
  have HKV := hide hKV
  have a1 := cellB hsV
  have sV : V.heap.size = w.heap.size + 1 := by rw [hV]; simp
  have HSV := hide sV
  clear hKV sV
  go_enter Tryz.func115, Tryz.ntmps115
  go_upto_region 1 with fail
  rw [← hV]
  clear hV
  go_cut [3] (fun s3 wx => ∃ (W : World), W = wx ∧ s3 = .nilIface ∧ RnPost V W g db k FD (Dur c.time c.blk c.es))
  case first =>
    go_region_law (refine step_fn (by rfl) 142 callRenew _ _ (by rfl) #[.pointer (some ⟨g, 0, none⟩), .int .u64 c.time, .func (.func 143) #[.map (some mp)] #[]] (by simp only [List.map_toArray, List.map_cons, List.map_nil]; rfl) HK.out ?_; rintro e w2 ⟨rfl, hX⟩; refine ⟨_, rfl, ?_⟩; have HX := hide hX; clear hX)
    all_goals (go_wp2_with fail; go_meet)
    all_goals exact ⟨w2, rfl, rfl, HX.out.from (w := V) ⟨rfl, rfl, rfl, Nat.le_refl _, fun _ _ _ => rfl⟩⟩
  case rest =>
    obtain ⟨w2, rfl, rfl, t, fsD, fsN, F', p0, p1, p2, p3, p4⟩ := hcut
    have sV := HSV.out
    have lsb := ltB s1
    have lg := hlw g s7
    have lmp := hlw mp s6
    have hq1 := (p4.block w.heap.size (by omega) (fun h => h.elim (fun e => by omega) (fun e => by have := hlw _ (s5 _ e); omega))).trans hr1
    have e1 := cellB hq1
    have e2 := frozenB hq1
    have HPP := hide (And.intro p0 (And.intro p1 (And.intro p2 (And.intro p3 p4))))
    clear p0 p1 p2 p3 p4 a1 sV
    go_wp2
    obtain ⟨p0, p1, p2, p3, p4⟩ := HPP.out
    have sV := HSV.out
    have sz2 := p4.size
    have kw : Keep F w w2 := Keep.then (S := F) (HKV.out.mono (fun _ h _ => h.elim)) p4 (fun i _ h => h.elim (fun e => e ▸ s7) (s5 i))
    have bk : ∀ x, x < w.heap.size → x ≠ g → ¬ FD x → w2.heap[x]? = w.heap[x]? := fun x hx h1 h2 => (p4.block x (by omega) (fun h => h.elim h1 h2)).trans (HKV.out.block x hx (fun h => h))
    have hF'n : ∀ x, x < w.heap.size → F' x → FD x := fun x hx h => (p3 x h).elim id (fun h => by omega)
    refine bodyPost_ret (v := .agg #[.int .u8 1, .int .u64 0, .int .u64 0]) (by simp [results, Tryz.results115, go_sem, e1]) rfl ⟨rfl, ?_⟩
    refine ⟨⟨c.time, c.adm, c.blk, c.es, t, fsD, fsN⟩, ⟨hc.time, hc.adm, hc.blk, p0.1, hc.nd, hc.key, hc.qt, hc.fit, hc.len, p0.2⟩, rfl, rfl, ?_⟩
    refine finOut (F' := fun x => x = sb ∨ x = mp ∨ x = g ∨ F' x) 1 0 0 ⟨⟨mp, g, F', (bk sb lsb s12 s11).trans s1, MapG.kept s2 (bk mp lmp s10 s9), p1, p2, fun x hx => Or.inr (Or.inr (Or.inr hx)), Or.inr (Or.inl rfl), Or.inr (Or.inr (Or.inl rfl)), fun h => s8 (hF'n g lg h), fun h => s9 (hF'n mp lmp h), s10, fun h => s11 (hF'n sb lsb h), s12, s13⟩, Or.inl rfl, fun x hx => ?_⟩ kw hlw (Nat.le_refl _) (fun x hx => ?_)
    · rcases hx with h | h | h | h
      · rw [h]; omega
      · rw [h]; omega
      · rw [h]; omega
      · exact p2.lt x h
    · rcases hx with h | h | h | h
      · exact Or.inl (h ▸ hown)
      · exact Or.inl (h ▸ s6)
      · exact Or.inl (h ▸ s7)
      · rcases p3 x h with h | h
        · exact Or.inl (s5 x h)
        · exact Or.inr (by omega)
end Go.Proofs.YtnlgndpcddngoaaGreatDoor

namespace Go.Proofs.YtnlgndpcddngoaaGreatDoor
open Go.RowKit Go.Maps
variable [dK] [iK]

theorem RnPost.set {w V w' : World} {g db k : Nat} {F : Nat → Prop} {Φ : Int → Fs → Prop} (h : RnPost V w' g db k F Φ) {x : Nat} (hx : x < V.heap.size) (hF : ¬ F x) (hg : x ≠ g) (hV : Keep (fun _ => False) w V) (hw : w.heap.size ≤ x) (j : Nat) (v : Value) : RnPost w (w'.setCell ⟨x, j, none⟩ v) g db k F Φ := by
  obtain ⟨t, fsD, fsN, F', h0, h2, h3, h4, h5⟩ := h
  refine ⟨t, fsD, fsN, F', h0, h2.kept (heapSetO (fun e => hg e.symm) _ _), h3.kept (by rw [World.size_setCell]; exact Nat.le_refl _) (fun b hb => heapSetO (fun e => ?_) _ _), fun b hb => (h4 b hb).imp id (fun h => Nat.le_trans hV.size h), ((hV.mono (fun _ h _ => h.elim)).trans h5).set (Or.inr hw) _ _⟩
  subst e
  rcases h4 b hb with h | h
  · exact hF h
  · omega
theorem RnPost.err {w w' : World} {g db k : Nat} {F : Nat → Prop} {Φ : Int → Fs → Prop} (h : RnPost w w' g db k F Φ) (hF : ¬ F g) (hg : g < w.heap.size) : RnPost w (w'.setCell ⟨g, 261, none⟩ .nilIface) g db k F Φ := by
  obtain ⟨t, fsD, fsN, F', h0, h2, h3, h4, h5⟩ := h
  refine ⟨t, fsD, fsN, F', h0, h2.seterr, h3.kept (by rw [World.size_setCell]; exact Nat.le_refl _) (fun b hb => heapSetO (fun e => ?_) _ _), h4, h5.set (Or.inl (Or.inl rfl)) _ _⟩
  subst e
  rcases h4 b hb with h | h
  · exact hF h
  · omega
/-- What a sweep does. -/
def Sweeps (g db k : Nat) : Prop := ∀ w t fsD fsN F, (0 ≤ t ∧ t ≤ 18446744073709551615) → StoAt w g db t → DskAt w db (k + 2) fsD fsN F → ¬ F g → Calls Tryz.prog 162 #[.pointer (some ⟨g, 0, none⟩)] w fun e w' => e = .returned .nilIface ∧ RnPost w w' g db k F (fun t' fs' => t' = t ∧ (fs' = fsD ∨ fs' = delG (IntKind.u64.wrap (t - 1) % 2 == 1) fsD))
/-- What a renewal writes. -/
def RnW (turn time : Int) (es : Es) (fsD : Fs) (Φ : Int → Fs → Prop) : Prop := ∀ (ks : List Ky) (a : Nat) (fs' : Fs), ks.Perm (es.map Prod.fst) → (fs' = putG (nextT turn % 2 == 1) (a, strOfNums (imgB (nextT turn) time es ks)) fsD ∨ fs' = delG (IntKind.u64.wrap (nextT turn - 1) % 2 == 1) (putG (nextT turn % 2 == 1) (a, strOfNums (imgB (nextT turn) time es ks)) fsD)) → Φ (nextT turn) fs'

set_option maxRecDepth 100000 in
set_option maxHeartbeats 1000000 in
theorem renewjob160 (A B C g db b k : Nat) (turn time : Int) (es : Es) (fsD fsN : Fs) (F : Nat → Prop) (w : World) (h : KpPre w g db b (k + 2) turn time es fsD fsN F) (hsw : Hid (Sweeps g db k)) {Φ : Int → Fs → Prop} (hΦ : Hid (RnW turn time es fsD Φ)) (nA : ¬ F A) (nG : A ≠ g)
    (hA : w.heap[A]? = some (.cells #[.pointer (some ⟨g, 0, none⟩)] 122)) (hB : w.heap[B]? = some (.cells #[.int .u64 time] 23)) (hC : w.heap[C]? = some (.cells #[.func (.func 143) #[.map (some b)] #[]] 278)) :
    Calls Tryz.prog 160 #[.pointer (some ⟨A, 0, none⟩), .pointer (some ⟨B, 0, none⟩), .pointer (some ⟨C, 0, none⟩)] w fun e w' => e = .returned .nilIface ∧ RnPost w w' g db k F Φ := by
  have H := hide (stwrite161 g db b (k + 2) es turn time fsD fsN F w h.e h.nd h.ok h.fit h.sz h.t0 h.t1 h.m0 h.m1 h.s h.d h.gF h.bF h.bg)
  have a1 := cellB hA
  have a2 := cellB hB
  have a3 := cellB hC
  have hgl := h.s.lt
  have HGF := hide h.gF
  clear h
  go_enter Tryz.func160, Tryz.ntmps160
  go_wp2_with fail
  refine H.out.mono ?_
  rintro e w2 ⟨rfl, ks, x, y, F', q1, q2, q3, q4, q5⟩
  have hA2 := (q5.block A (ltB hA) (fun h => h.elim nG nA)).trans hA
  have b1 := cellB hA2
  have nF' : ¬ F' g := fun h => (q4 g h).elim HGF.out (fun h => by omega)
  have HW := hide (hsw.out w2 _ _ _ F' (nextT_ok turn) q2 q3 nF')
  have HQ := hide (And.intro q4 q5)
  have HQ1 := hide q1
  clear q1 q2 q3 q4 q5 a1 a2 a3 hA2
  go_wp2_with fail
  refine HW.out.mono ?_
  rintro e w3 ⟨rfl, hX⟩
  have HX := hide hX
  clear hX
  go_wp2
  go_ret
  obtain ⟨q4, q5⟩ := HQ.out
  obtain ⟨t, fD, fN, F2, ⟨r0, r01, r02⟩, r1, r2, r3, r4⟩ := HX.out
  refine ⟨rfl, t, fD, fN, F2, ⟨r0, by rw [r01]; exact hΦ.out ks x fD HQ1.out r02⟩, r1, r2, fun z hz => ?_, q5.then r4 (fun i hi h => ?_)⟩
  · rcases r3 z hz with h | h
    · exact q4 z h
    · exact Or.inr (Nat.le_trans q5.size h)
  · rcases h with h | h
    · exact Or.inl h
    · exact (q4 i h).elim Or.inr (fun h => by omega)

theorem callJobR (vs : Array Value) (w : World) : Sem.run Tryz.prog (callFunc 160 vs) w = .ok (.enter 160 vs) w := by simp [go_sem]

set_option maxRecDepth 100000 in
set_option maxHeartbeats 1000000 in
theorem ask159r (A B C g db b k : Nat) (turn time : Int) (es : Es) (fsD fsN : Fs) (F : Nat → Prop) (w : World) (h : KpPre w g db b (k + 2) turn time es fsD fsN F) (hsw : Hid (Sweeps g db k)) {Φ : Int → Fs → Prop} (hΦ : Hid (RnW turn time es fsD Φ)) (nA : ¬ F A) (nG : A ≠ g)
    (hA : w.heap[A]? = some (.cells #[.pointer (some ⟨g, 0, none⟩)] 122)) (hB : w.heap[B]? = some (.cells #[.int .u64 time] 23)) (hC : w.heap[C]? = some (.cells #[.func (.func 143) #[.map (some b)] #[]] 278)) :
    Calls Tryz.prog 159 #[.pointer (some ⟨g, 0, none⟩), .func (.func 160) #[] #[.pointer (some ⟨A, 0, none⟩), .pointer (some ⟨B, 0, none⟩), .pointer (some ⟨C, 0, none⟩)]] w fun e w' => e = .returned .nilIface ∧ RnPost w w' g db k F Φ := by
  have hgl := h.s.lt
  have hKV : Keep (fun _ => False) w (w.alloc (.cells #[.nilIface] 97)) := (Keep.refl _ w).alloc _
  have hFn : ¬ F w.heap.size := fun hF => by have := h.d.lt _ hF; omega
  have HG := hide (guard116 160 #[.pointer (some ⟨A, 0, none⟩), .pointer (some ⟨B, 0, none⟩), .pointer (some ⟨C, 0, none⟩)] callJobR w (fun w2 => RnPost (w.alloc (.cells #[.nilIface] 97)) w2 g db k F Φ) (by
    refine (renewjob160 A B C g db b k turn time es fsD fsN F _ (h.to hKV) hsw hΦ nA nG (upB hA _) (upB hB _) (upB hC _)).mono ?_
    rintro e w2 ⟨rfl, hP⟩
    refine ⟨rfl, ?_, hP⟩
    obtain ⟨_, _, _, _, _, _, _, _, h5⟩ := hP
    exact (h5.block w.heap.size (by simp) (fun hh => hh.elim (fun e => by omega) hFn)).trans (heapNew _ _)))
  have a1 := h.s.err
  have HP := hide h
  clear h
  go_enter Tryz.func159, Tryz.ntmps159
  go_wp2_with fail
  refine HG.out.mono ?_
  rintro e w1 ⟨rfl, w2, hP, hb, hw1⟩
  have hP1 : RnPost w w1 g db k F Φ := by
    rw [hw1]
    exact hP.set (by simp) hFn (by omega) hKV (Nat.le_refl _) _ _
  have hs1 : w1.cell? ⟨g, 261, none⟩ = some .nilIface := by
    obtain ⟨_, _, _, _, _, h2, _⟩ := hP1
    exact h2.err
  have hf1 : w1.frozen? ⟨g, 261, none⟩ = false := by
    obtain ⟨_, _, _, _, _, h2, _⟩ := hP1
    exact h2.fro 261 (by omega)
  have HP1 := hide hP1
  clear hP1 hP hb hw1 a1
  go_wp2
  go_ret
  exact ⟨rfl, HP1.out.err HP.out.gF hgl⟩

set_option maxRecDepth 100000 in
set_option maxHeartbeats 1000000 in
/-- Store.Renew over a disk that is well, given what a sweep does. -/
theorem renew142 (g db b k : Nat) (turn time : Int) (es : Es) (fsD fsN : Fs) (F : Nat → Prop) (w : World) (h : KpPre w g db b (k + 2) turn time es fsD fsN F) (hsw : Hid (Sweeps g db k)) {Φ : Int → Fs → Prop} (hΦ : Hid (RnW turn time es fsD Φ)) :
    Calls Tryz.prog 142 #[.pointer (some ⟨g, 0, none⟩), .int .u64 time, .func (.func 143) #[.map (some b)] #[]] w fun e w' => e = .returned .nilIface ∧ RnPost w w' g db k F Φ := by
  have hmf : ∀ (fn : Fn) (first cap : Array Value) (w : World), (Instr.makeFunc fn first cap).run Tryz.prog w = .ok (.func fn first cap) w := fun _ _ _ _ => rfl
  obtain ⟨V, hV⟩ : ∃ V, V = ((w.alloc (.cells #[.pointer (some ⟨g, 0, none⟩)] 122)).alloc (.cells #[.int .u64 time] 23)).alloc (.cells #[.func (.func 143) #[.map (some b)] #[]] 278) := ⟨_, rfl⟩
  have hA : V.heap[w.heap.size]? = some (.cells #[.pointer (some ⟨g, 0, none⟩)] 122) := hV ▸ upB (upB (heapNew _ _) _) _
  have hB : V.heap[w.heap.size + 1]? = some (.cells #[.int .u64 time] 23) := hV ▸ upB (heapN (by simp)) _
  have hC : V.heap[w.heap.size + 2]? = some (.cells #[.func (.func 143) #[.map (some b)] #[]] 278) := hV ▸ heapN (by simp)
  have hKV : Keep (fun _ => False) w V := hV ▸ (((Keep.refl _ w).alloc _).alloc _).alloc _
  have hgl := h.s.lt
  have HA := hide (ask159r w.heap.size (w.heap.size + 1) (w.heap.size + 2) g db b k turn time es fsD fsN F V (h.to hKV) hsw hΦ (fun hF => by have := h.d.lt _ hF; omega) (by omega) hA hB hC)
  have HKV := hide hKV
  have a1 := cellB hA
  clear h hKV
  go_enter Tryz.func142, Tryz.ntmps142
  go_upto_region 1 with fail
  rw [← hV]
  clear hV
  go_wp2_with fail
  refine HA.out.mono ?_
  rintro e w2 ⟨rfl, hX⟩
  have HX := hide (hX.from HKV.out)
  clear hX
  go_wp2
  go_ret
  exact ⟨rfl, HX.out⟩

/-- A snapshot, given what a sweep does. -/
theorem snap115 (st : Int) (sb db kk : Nat) (c : Led) (F : Nat → Prop) (w : World) (hL : LedAt w st sb db (kk + 4) c F) (hc : c.ok) (hsw : ∀ g, Hid (Sweeps g db kk)) :
    Calls Tryz.prog 115 #[.pointer (some ⟨sb, 2, none⟩)] w fun e w' => e = .returned (.agg #[.int .u8 1, .int .u64 0, .int .u64 0]) ∧ OutQ w st sb db kk c F c.ld w' := by
  obtain ⟨mp, g, FD, s1, s2, s3, s4, s5, s6, s7, s8, s9, s10, s11, s12, s13⟩ := hL.mem
  have hpre : KpPre w g db mp (kk + 2) c.turn c.time c.es c.fsD c.fsN FD := ⟨s2, hc.nd, hc.key, hc.fit, hc.len, hc.turn.1, hc.turn.2, hc.time.1, hc.time.2, s3, s4, s8, s9, s10⟩
  obtain ⟨mb, nb, l, f, _, m2, _⟩ := s4.mem
  have hW : RnW c.turn c.time c.es c.fsD (Dur c.time c.blk c.es) := fun ks a fs' hp hf => by
    have hD := hc.dur.keep hc.turn hc.time hc.nd hc.key hc.len hc.dur.res hc.dur.wnd hp a
    have hx : (IntKind.u64.wrap (nextT c.turn - 1) % 2 == 1) = !(nextT c.turn % 2 == 1) := by
      rw [nextT_par, Bool.not_not]
      have : IntKind.u64.wrap (nextT c.turn - 1) = c.turn := by have := hc.turn; unfold nextT; rw [IntKind.wrap_u64]; omega
      rw [this]
    rcases hf with rfl | rfl
    · exact hD
    · rw [hx]
      refine hD.swept (putG_nodup m2.nd) (Or.inl (fun e => ?_))
      have := fndG_put_same (nextT c.turn % 2 == 1) (a, strOfNums (imgB (nextT c.turn) c.time c.es ks)) c.fsD
      rw [e] at this
      simp [fndG] at this
  exact bsnap st sb db kk mp g c F FD w hc hL.lt hL.own s1 s2 s5 s6 s7 s8 s9 s10 s11 s12 s13 (hide (fun V hV => renew142 g db mp kk c.turn c.time c.es c.fsD c.fsN FD V (hpre.to hV) (hsw g) (hide hW)))
end Go.Proofs.YtnlgndpcddngoaaGreatDoor
