import Derived.Test.YtnlgndpcddngoaaGreatDoorZc25
import Derived.Test.YtnlgndpcddngoaaGreatDoorZc26
import Derived.Laws.StructEq
import Derived.Test.YtnlgndpcddngoaaGreatDoorZc00
import Derived.Deep.DeepCutAuto
import Derived.Test.YtnlgndpcddngoaaGreatDoorZc24
import Derived.Test.YtnlgndpcddngoaaGreatDoorZc27
import Derived.Maps.AppendAt
set_option linter.unusedSectionVars false
namespace Go.Proofs.YtnlgndpcddngoaaGreatDoor
open Go.RowKit
variable [dK] [iK]

theorem copySum (g o m c : Nat) (v : Int) (w : World) (hgl : g < w.heap.size) (hm : m = 8) (hs : ∀ j, j < 8 → w.cell? ⟨g, o + j, none⟩ = some (.int .u8 (nb v j))) :
    (Builtin.copy_ #[76, 76] 3 #[.slice (some ⟨w.heap.size, 0, none⟩) 8 8, .slice (some ⟨g, o, none⟩) m c]).run Tryz.prog ((w.alloc (.cells #[.int .u8 0, .int .u8 0, .int .u8 0, .int .u8 0, .int .u8 0, .int .u8 0, .int .u8 0, .int .u8 0] 322)).drew)
      = .ok (.int .i64 8) ((w.alloc (.cells #[.int .u8 (nb v 0), .int .u8 (nb v 1), .int .u8 (nb v 2), .int .u8 (nb v 3), .int .u8 (nb v 4), .int .u8 (nb v 5), .int .u8 (nb v 6), .int .u8 (nb v 7)] 322)).drew) := by
  subst hm
  have hg : ((w.alloc (.cells #[.int .u8 0, .int .u8 0, .int .u8 0, .int .u8 0, .int .u8 0, .int .u8 0, .int .u8 0, .int .u8 0] 322)).drew).heap[w.heap.size]? = some (.cells #[.int .u8 0, .int .u8 0, .int .u8 0, .int .u8 0, .int .u8 0, .int .u8 0, .int .u8 0, .int .u8 0] 322 (0, 0)) := heapNew _ _
  have hs' : ∀ j u, ([.int .u8 (nb v 0), .int .u8 (nb v 1), .int .u8 (nb v 2), .int .u8 (nb v 3), .int .u8 (nb v 4), .int .u8 (nb v 5), .int .u8 (nb v 6), .int .u8 (nb v 7)] : List Value)[j]? = some u → ((w.alloc (.cells #[.int .u8 0, .int .u8 0, .int .u8 0, .int .u8 0, .int .u8 0, .int .u8 0, .int .u8 0, .int .u8 0] 322)).drew).cell? ((⟨g, o, none⟩ : Addr).add j) = some u := by
    intro j u hj
    rw [Addr.add_lit]
    show (w.alloc (.cells #[.int .u8 0, .int .u8 0, .int .u8 0, .int .u8 0, .int .u8 0, .int .u8 0, .int .u8 0, .int .u8 0] 322)).cell? ⟨g, o + j, none⟩ = some u
    rw [World.cell?_alloc_lt _ _ ⟨g, o + j, none⟩ hgl]
    match j, hj with
    | 0, hj => simp at hj; subst hj; exact hs 0 (by omega)
    | 1, hj => simp at hj; subst hj; exact hs 1 (by omega)
    | 2, hj => simp at hj; subst hj; exact hs 2 (by omega)
    | 3, hj => simp at hj; subst hj; exact hs 3 (by omega)
    | 4, hj => simp at hj; subst hj; exact hs 4 (by omega)
    | 5, hj => simp at hj; subst hj; exact hs 5 (by omega)
    | 6, hj => simp at hj; subst hj; exact hs 6 (by omega)
    | 7, hj => simp at hj; subst hj; exact hs 7 (by omega)
  rw [run_copy_row (P := Tryz.prog) _ 76 76 3 5 w.heap.size 0 8 8 ⟨g, o, none⟩ 8 c _ 322 [.int .u8 (nb v 0), .int .u8 (nb v 1), .int .u8 (nb v 2), .int .u8 (nb v 3), .int .u8 (nb v 4), .int .u8 (nb v 5), .int .u8 (nb v 6), .int .u8 (nb v 7)] Tryz.underlying76 (by kernel_rfl) hg (by rfl) hs' (by simp) (by simp [Value.oneCell'])]
  have e : ((w.alloc (.cells #[.int .u8 0, .int .u8 0, .int .u8 0, .int .u8 0, .int .u8 0, .int .u8 0, .int .u8 0, .int .u8 0] 322)).drew).setRow w.heap.size #[.int .u8 (nb v 0), .int .u8 (nb v 1), .int .u8 (nb v 2), .int .u8 (nb v 3), .int .u8 (nb v 4), .int .u8 (nb v 5), .int .u8 (nb v 6), .int .u8 (nb v 7)] = (w.alloc (.cells #[.int .u8 (nb v 0), .int .u8 (nb v 1), .int .u8 (nb v 2), .int .u8 (nb v 3), .int .u8 (nb v 4), .int .u8 (nb v 5), .int .u8 (nb v 6), .int .u8 (nb v 7)] 322)).drew := by
    show ((w.alloc (.cells #[.int .u8 0, .int .u8 0, .int .u8 0, .int .u8 0, .int .u8 0, .int .u8 0, .int .u8 0, .int .u8 0] 322)).setRow w.heap.size #[.int .u8 (nb v 0), .int .u8 (nb v 1), .int .u8 (nb v 2), .int .u8 (nb v 3), .int .u8 (nb v 4), .int .u8 (nb v 5), .int .u8 (nb v 6), .int .u8 (nb v 7)]).drew = _
    rw [World.setRow_alloc_new w #[.int .u8 0, .int .u8 0, .int .u8 0, .int .u8 0, .int .u8 0, .int .u8 0, .int .u8 0, .int .u8 0] #[.int .u8 (nb v 0), .int .u8 (nb v 1), .int .u8 (nb v 2), .int .u8 (nb v 3), .int .u8 (nb v 4), .int .u8 (nb v 5), .int .u8 (nb v 6), .int .u8 (nb v 7)] 322]
  simp only [List.take_zero, List.nil_append, List.length_cons, List.length_nil]
  exact congrArg _ e

set_option maxRecDepth 100000 in
theorem size186 (k : Int) (w : World) (hk : 0 ≤ k ∧ k ≤ 12) : Calls Tryz.prog 186 #[.int .u8 k] w fun e w' => e = .returned (.int .i64 (17 + k * 41 + 8)) ∧ w' = w := by
  have w1 : IntKind.i64.wrap k = k := by rw [IntKind.wrap_i64]; omega
  have w2 : IntKind.i64.wrap (k * 41) = k * 41 := by rw [IntKind.wrap_i64]; omega
  have w3 : IntKind.i64.wrap (17 + k * 41) = 17 + k * 41 := by rw [IntKind.wrap_i64]; omega
  have w4 : IntKind.i64.wrap (17 + k * 41 + 8) = 17 + k * 41 + 8 := by rw [IntKind.wrap_i64]; omega
  clear hk
  go_enter Tryz.func186, Tryz.ntmps186
  go_wp2
  go_ret
  exact ⟨rfl, rfl⟩

set_option maxRecDepth 100000 in
theorem sum_same (v : Int) (w : World) : (Op.equalIn 10000 322 (.agg #[.int .u8 (nb v 0), .int .u8 (nb v 1), .int .u8 (nb v 2), .int .u8 (nb v 3), .int .u8 (nb v 4), .int .u8 (nb v 5), .int .u8 (nb v 6), .int .u8 (nb v 7)]) (.agg #[.int .u8 (nb v 0), .int .u8 (nb v 1), .int .u8 (nb v 2), .int .u8 (nb v 3), .int .u8 (nb v 4), .int .u8 (nb v 5), .int .u8 (nb v 6), .int .u8 (nb v 7)])).run Tryz.prog w = .ok true w := by
  have u5 := Tryz.underlying5
  have a5 := Tryz.isAgg5
  have z5 := Tryz.sizeOf5
  rw [show (10000 : Nat) = 9999 + 1 from rfl, Op.equalIn]
  simp only [Sem.run_bind, run_underlying Tryz.underlying322, Result.andThen_ok]
  simp only [Std.Legacy.Range.forIn_eq_forIn_range', Std.Legacy.Range.size, Nat.sub_zero, Nat.add_sub_cancel, Nat.div_one, List.range'_succ, List.range'_zero, List.forIn_cons, List.forIn_nil]
  go_simp

theorem callOf (vs : Array Value) (w : World) : Sem.run Tryz.prog (callFunc 187 vs) w = .ok (.enter 187 vs) w := by simp [go_sem]

set_option maxRecDepth 100000 in
set_option maxHeartbeats 2000000 in
/-- An image that was written is whole. -/
theorem whole169 (gt o g so n cap : Nat) (k : Int) (A : List Int) (v : Int) (w : World) (hT : TabOk w gt o) (hv : v = sumM A) (hA : A.length + 8 = n) (hnc : n ≤ cap) (hk : 0 ≤ k ∧ k ≤ 12) (hn : (n : Int) = 17 + k * 41 + 8) (hgl : g < w.heap.size) (hgt : gt < w.heap.size) (hne : g ≠ gt) (h0 : w.cell? ⟨g, so, none⟩ = some (.int .u8 k)) (hc : ∀ j, j < A.length → w.cell? ⟨g, so + j, none⟩ = some (.int .u8 (A.getD j 0))) (hb : Bytes A) (hs : ∀ j, j < 8 → w.cell? ⟨g, so + (n - 8) + j, none⟩ = some (.int .u8 (nb v j))) :
    Calls Tryz.prog 169 #[.pointer (some ⟨gt, o, none⟩), .slice (some ⟨g, so, none⟩) n cap] w fun e w' => e = .returned (.bool true) ∧ TabPost w w' gt o := by
  obtain ⟨V, hV⟩ : ∃ V, V = w.alloc (.cells #[.int .u8 0, .int .u8 0, .int .u8 0, .int .u8 0, .int .u8 0, .int .u8 0, .int .u8 0, .int .u8 0] 322) := ⟨_, rfl⟩
  obtain ⟨U, hU⟩ : ∃ U, U = (w.alloc (.cells #[.int .u8 (nb v 0), .int .u8 (nb v 1), .int .u8 (nb v 2), .int .u8 (nb v 3), .int .u8 (nb v 4), .int .u8 (nb v 5), .int .u8 (nb v 6), .int .u8 (nb v 7)] 322)).drew := ⟨_, rfl⟩
  have hcp := copySum g (so + (n - 8)) 8 (cap - (n - 8)) v w hgl rfl hs
  rw [← hU, ← hV] at hcp
  have hBU : Below w.heap.size w U := hU ▸ ((Below.refl _ w).alloc (Nat.le_refl _) _).drew
  have hTU : TabOk U gt o := hT.block (hBU.block gt hgt)
  have hUn : U.heap[w.heap.size]? = some (.cells #[.int .u8 (nb v 0), .int .u8 (nb v 1), .int .u8 (nb v 2), .int .u8 (nb v 3), .int .u8 (nb v 4), .int .u8 (nb v 5), .int .u8 (nb v 6), .int .u8 (nb v 7)] 322) := hU ▸ heapNew _ _
  have hsU : U.heap.size = w.heap.size + 1 := by rw [hU]; simp
  have HOF := hide (tabOf gt o g so (n - 8) cap A U.drew (hTU.block rfl) (by omega) (by omega) (by omega) (by show gt < U.heap.size; omega) (by show g < U.heap.size; omega) hne (fun j hj => (World.cell?_of_block (w := w) (hBU.block g hgl)).trans (hc j (by omega))) (fun j => hb.getD j) v hv)
  have HSZ := size186 k w hk
  rw [← hn] at HSZ
  have HSZ := hide HSZ
  have m0 : ((n : Int) == 0) = false := by simp; omega
  have m1 : ¬ (12 : Int) < k := by omega
  have m8 : ¬ cap = n - 8 := by omega
  have m9 : ((n - 8 : Nat) : Int) ≤ (n : Int) := by omega
  have m3 : IntKind.i64.wrap ((n : Int) - 8) = ((n - 8 : Nat) : Int) := by rw [IntKind.wrap_i64]; omega
  have m4 : n - 8 ≤ n := by omega
  have m5 : n - (n - 8) = 8 := by omega
  have m6 : n - 8 ≤ cap := by omega
  have m7 : n - 8 = A.length := by omega
  have n0 : (0 : Int) < (n : Int) := by omega
  have HBU := hide hBU
  have HHV := hide hV
  have HHT := hide hT
  have HSU := hide hsU
  have HM7 := hide m7
  have HN := hide hn
  have HA := hide hA
  clear hT hTU hc hb hs hA hv hBU m7 hn hk hV hU
  go_enter Tryz.func169, Tryz.ntmps169
  go_wp2_with (first | (go_at_call 186; refine HSZ.out.mono ?_; rintro e w' ⟨rfl, rfl⟩))
  rw [← HHV.out]
  go_region
  go_wp2_with fail
  have d0 := cellB hUn
  have hse := sum_same v
  go_region_law (refine step_fn (by rfl) 187 callOf _ _ (by rfl) #[.pointer (some ⟨gt, o, none⟩), .slice (some ⟨g, so, none⟩) (n - 8) cap] (by simp only [List.map_toArray, List.map_cons, List.map_nil]; rfl) HOF.out ?_; rintro e w2 ⟨rfl, hP⟩; refine ⟨_, rfl, ?_⟩; have HP := hide hP; have hq := (hP.keep.block _ (ltB hUn) (fun e => by omega)).trans hUn; have d1 := cellB hq; clear hP)
  all_goals go_wp2
  all_goals go_ret
  all_goals (
    have hB := HBU.out
    have hP := HP.out
    refine ⟨rfl, hP.tab, fun j hj => ⟨(hP.cel j hj).1.trans (hB.cell (p := ⟨gt, j, none⟩) hgt), (hP.cel j hj).2.trans (hB.frozen (p := ⟨gt, j, none⟩) hgt)⟩, (Keep.of_below hB).then (T := fun c => c = gt) ⟨hP.keep.os, hP.keep.tape, hP.keep.output, hP.keep.size, hP.keep.block⟩ (fun _ _ h => h)⟩)
end Go.Proofs.YtnlgndpcddngoaaGreatDoor

namespace Go.Proofs.YtnlgndpcddngoaaGreatDoor
open Go.RowKit Go.Maps
variable [dK] [iK]

def kvals (k : Ky) : List Value := [.int .u8 k.k0, .int .u8 k.k1, .int .u8 k.k2, .int .u8 k.k3, .int .u8 k.k4, .int .u8 k.k5, .int .u8 k.k6, .int .u8 k.k7]
def qvals (q : Qt) : List Value := [.int .u8 q.kd, .int .u64 q.x, .int .u64 q.y, .int .u64 q.lv, .int .u64 q.wn]
/-- Records, one behind the other, as cells. -/
def rrow (es : Es) (ks : List Ky) : List Value := ks.flatMap fun k => kvals k ++ qvals (heldOf es k)
theorem rrow_snoc (es : Es) (ks : List Ky) (k : Ky) : rrow es (ks ++ [k]) = rrow es ks ++ (kvals k ++ qvals (heldOf es k)) := by
  unfold rrow
  rw [List.flatMap_append]
  simp
theorem recs_cons (es : Es) (k : Ky) (ks : List Ky) : recs es (k :: ks) = kby k ++ (qby (heldOf es k) ++ recs es ks) := by
  unfold recs
  rw [List.flatMap_cons, List.append_assoc]
theorem Tryz.infoRec : (Tryz.prog.info? 175).map (fun i => (i.zero, i.size, i.bytes)) = some (some (.agg #[.int .u8 0, .int .u8 0, .int .u8 0, .int .u8 0, .int .u8 0, .int .u8 0, .int .u8 0, .int .u8 0, .int .u8 0, .int .u64 0, .int .u64 0, .int .u64 0, .int .u64 0]), 13, 48) := by kernel_rfl
theorem cells13_new (w : World) (k : Ky) (q : Qt) (t : TypeId) : ∀ j u, (kvals k ++ qvals q)[j]? = some u → (w.alloc (.cells #[.int .u8 k.k0, .int .u8 k.k1, .int .u8 k.k2, .int .u8 k.k3, .int .u8 k.k4, .int .u8 k.k5, .int .u8 k.k6, .int .u8 k.k7, .int .u8 q.kd, .int .u64 q.x, .int .u64 q.y, .int .u64 q.lv, .int .u64 q.wn] t)).cell? ((⟨w.heap.size, 0, none⟩ : Addr).add j) = some u := by
  intro j u hj
  rw [Addr.add_lit, Nat.zero_add, World.cell?_alloc_at _ _ _ _ rfl]
  match j, hj with
  | 0, hj => exact hj
  | 1, hj => exact hj
  | 2, hj => exact hj
  | 3, hj => exact hj
  | 4, hj => exact hj
  | 5, hj => exact hj
  | 6, hj => exact hj
  | 7, hj => exact hj
  | 8, hj => exact hj
  | 9, hj => exact hj
  | 10, hj => exact hj
  | 11, hj => exact hj
  | 12, hj => exact hj
  | j + 13, hj => simp [kvals, qvals] at hj
theorem rec_one (k : Ky) (q : Qt) : ∀ u ∈ kvals k ++ qvals q, u.oneCell' = true := by
  intro v hv
  simp [kvals, qvals] at hv
  rcases hv with h | h | h | h | h | h | h | h | h | h | h | h | h <;> subst h <;> rfl

/-- While an image's records are read. -/
structure RdR (w1 wr : World) (F g I : Nat) (turn time : Int) (es : Es) (ks : List Ky) (tl : List Int) (j : Nat) (v : Value) : Prop where
  box : wr.heap[I]? = some (.cells #[.int .u64 turn, .int .u64 time, v] 169)
  own : wr.ownsRow (I + 1) 175 13 v j (rrow es (ks.take j))
  fd : FdAt wr F g (recs es (ks.drop j) ++ tl)
  bel : Below w1.heap.size w1 wr

set_option maxRecDepth 100000 in
set_option maxHeartbeats 4000000 in
/-- An image is read as it was written. -/
theorem read148 (gt o g n cap : Nat) (turn time : Int) (es : Es) (ks : List Ky) (w : World) (hT : TabOk w gt o) (hl : ks.length ≤ 12) (hk : ∀ k ∈ ks, k.ok ∧ (heldOf es k).ok) (ht : 0 ≤ turn ∧ turn ≤ 18446744073709551615) (hm : 0 ≤ time ∧ time ≤ 18446744073709551615) (hn : (imgB turn time es ks).length = n) (hnc : n ≤ cap) (hgl : g < w.heap.size) (hgt : gt < w.heap.size) (hne : g ≠ gt)
    (hc : ∀ j, j < n → w.cell? ⟨g, 0 + j, none⟩ = some (.int .u8 ((imgB turn time es ks).getD j 0))) :
    Calls Tryz.prog 148 #[.pointer (some ⟨gt, o, none⟩), .slice (some ⟨g, 0, none⟩) n cap] w fun e w' => ∃ v, e = .returned (.tuple #[.agg #[.int .u64 turn, .int .u64 time, v], .bool true]) ∧ w'.ownsRow w.heap.size 175 13 v ks.length (rrow es ks) ∧ TabPost w w' gt o := by
  obtain ⟨i0, hi, hz0, hz1, hz2⟩ := info_parts Tryz.infoRec
  have b8 : ∀ v, (be8 v).length = 8 := fun _ => rfl
  have hfit : ∀ k ∈ ks, k.ok ∧ (heldOf es k).fit := fun k h => ⟨(hk k h).1, ⟨by rcases (hk k h).2.kd with h | h <;> omega, (hk k h).2.x, (hk k h).2.y, (hk k h).2.lv, (hk k h).2.wn⟩⟩
  obtain ⟨A, hA⟩ : ∃ A, A = imgA turn time es ks := ⟨_, rfl⟩
  have hAl : A.length = 17 + 41 * ks.length := by rw [hA]; exact imgA_len _ _ _ _
  have hAb : Bytes A := hA ▸ imgA_bytes turn time es ks hl hfit
  obtain ⟨sm, hsm⟩ : ∃ sm, sm = sumM A := ⟨_, rfl⟩
  have hB : imgB turn time es ks = A ++ be8 sm := by rw [hsm, hA]; rfl
  rw [hB] at hn hc
  have hnl : n = A.length + 8 := by rw [← hn, List.length_append, b8]
  obtain ⟨V, hV⟩ : ∃ V, V = w.alloc (.cells #[.int .u64 0, .int .u64 0, .slice none 0 0] 169) := ⟨_, rfl⟩
  have hBV : Below w.heap.size w V := hV ▸ (Below.refl _ w).alloc (Nat.le_refl _) _
  have h0 : V.heap[w.heap.size]? = some (.cells #[.int .u64 0, .int .u64 0, .slice none 0 0] 169) := hV ▸ heapNew _ _
  have hsV : V.heap.size = w.heap.size + 1 := by rw [hV]; simp
  have hcV : ∀ j, j < n → V.cell? ⟨g, 0 + j, none⟩ = some (.int .u8 ((A ++ be8 sm).getD j 0)) := fun j hj => (hBV.cell (p := ⟨g, 0 + j, none⟩) hgl).trans (hc j hj)
  have hA0 : A.getD 0 0 = (ks.length : Int) := by rw [hA]; rfl
  have HW := hide (whole169 gt o g 0 n cap (ks.length : Int) A sm V (hT.block (hBV.block gt hgt)) hsm hnl.symm hnc (by omega) (by omega) (by omega) (by omega) hne
    (by have := hcV 0 (by omega); rw [getD_app_l _ _ _ (by omega), hA0] at this; simpa using this) (fun j hj => by rw [hcV j (by omega), getD_app_l _ _ _ hj]) hAb
    (fun j hj => by
      have := hcV (A.length + j) (by omega)
      rw [getD_app_r] at this
      rw [show 0 + (n - 8) + j = 0 + (A.length + j) by omega, this]
      match j, hj with
      | 0, _ => rfl
      | 1, _ => rfl
      | 2, _ => rfl
      | 3, _ => rfl
      | 4, _ => rfl
      | 5, _ => rfl
      | 6, _ => rfl
      | 7, _ => rfl))
  have hbyt : Bytes (A ++ be8 sm) := fun b hb => (List.mem_append.1 hb).elim (hAb b) (be8_bytes sm b)
  have hsplit : A ++ be8 sm = (ks.length : Int) :: (be8 turn ++ (be8 time ++ (recs es ks ++ be8 sm))) := by rw [hA]; unfold imgA; simp
  have HCV := hide hcV
  have HBV := hide hBV
  have HSV := hide hsV
  have HK := hide hk
  have HNL := hide (And.intro hnl hn)
  have HBY := hide hbyt
  have HSP := hide hsplit
  have HTT := hide (And.intro ht hm)
  have HT := hide hT
  have hl' : (ks.length : Int) ≤ 12 := by omega
  clear hc hcV hT hA hAl hAb hsm hB hn hnl hfit hBV hsV hk hbyt hsplit ht hm hA0
  go_enter Tryz.func148, Tryz.ntmps148
  go_wp2_with fail
  rw [← hV]
  clear hV
  refine HW.out.mono ?_
  rintro e w1 ⟨rfl, hP⟩
  have hs1 := hP.keep.size
  have sV := HSV.out
  have g1 := (hP.keep.block w.heap.size (ltB h0) (fun e => by omega)).trans h0
  have hc1 : ∀ j, j < n → w1.cell? ⟨g, 0 + j, none⟩ = some (.int .u8 ((A ++ be8 sm).getD j 0)) := fun j hj => (World.cell?_of_block (w := V) (hP.keep.block g (by omega) hne)).trans (HCV.out j hj)
  have hgl1 : g < w1.heap.size := by omega
  have HP := hide hP
  have HC1 := hide hc1
  have HG1 := hide g1
  clear hP hc1 g1
  go_wp2_with fail
  refine (of_any (some ⟨g, 0, none⟩) n cap w1).mono ?_
  rintro e w2 ⟨rfl, hw2⟩
  obtain ⟨F, hF⟩ : ∃ F, F = w1.heap.size := ⟨_, rfl⟩
  have hfd : FdAt w2 F g ((ks.length : Int) :: (be8 turn ++ (be8 time ++ (recs es ks ++ be8 sm)))) := by
    rw [← HSP.out]
    obtain ⟨hnl, hn⟩ := HNL.out
    refine ⟨⟨0, cap, ?_, by omega, fun j hj => ?_⟩, ?_, HBY.out, by omega, by rw [hw2]; simp; omega, by rw [hw2, hF]; simp⟩
    · rw [hw2, hF, hn]; exact cellB (heapNew _ _) 0
    · rw [hw2, World.cell?_alloc_lt _ _ ⟨g, 0 + j, none⟩ hgl1]; exact HC1.out j (by omega)
    · rw [hw2, hF]; exact frozenB (heapNew _ _) 0
  have hb2 : Below w1.heap.size w1 w2 := hw2 ▸ (Below.refl _ w1).alloc (Nat.le_refl _) _
  have hs2 : w2.heap.size = F + 1 := by rw [hw2, hF]; simp
  rw [← hF]
  clear hw2
  have HR1 := hide (rdByte F g _ _ w2 hfd (by rw [List.length_append, b8]; omega))
  have HB2 := hide hb2
  have HS2 := hide hs2
  have HF := hide hF
  clear hfd hb2 hs2 hF
  go_wp2_with fail
  refine HR1.out.mono ?_
  rintro e w3 ⟨rfl, h3, k3⟩
  have HR2 := hide (rdNum F g turn _ w3 h3 (by rw [List.length_append, b8]; omega) HTT.out.1.1 HTT.out.1.2)
  have HK3 := hide k3
  clear h3 k3
  go_wp2_with fail
  refine HR2.out.mono ?_
  rintro e w4 ⟨rfl, h4, k4⟩
  have HR3 := hide (rdNum F g time _ w4 h4 (by rw [List.length_append, b8]; omega) HTT.out.2.1 HTT.out.2.2)
  have HK4 := hide (HK3.out.then k4 (fun _ _ h => h))
  clear h4 k4
  go_wp2_with fail
  refine HR3.out.mono ?_
  rintro e w5 ⟨rfl, h5, k5⟩
  have HK5 := hide (HK4.out.then k5 (fun _ _ h => h))
  have H5 := hide h5
  clear h5 k5
  obtain ⟨Y, hY⟩ : ∃ Y, Y = w5.alloc (.cells #[.int .u64 turn, .int .u64 time, .slice none 0 0] 169) := ⟨_, rfl⟩
  obtain ⟨I, hI⟩ : ∃ I, I = w5.heap.size := ⟨_, rfl⟩
  have hRY : RdR w1 Y F g I turn time es ks (be8 sm) 0 (.slice none 0 0) := by
    have s5 := HK5.out.size
    have s2 := HS2.out
    have eF := HF.out
    refine ⟨by rw [hI, hY]; exact heapNew _ _, World.ownsRow_nil _ _ _ _, ?_, ?_⟩
    · rw [List.drop_zero]
      exact H5.out.kept (by rw [hY]; simp) (hY ▸ heapOld _ _ H5.out.Fl) (hY ▸ heapOld _ _ H5.out.gl)
    · rw [hY]
      exact (HB2.out.trans (HK5.out.below (by omega) (fun k hk => by omega))).alloc (by omega) _
  have HRY := hide hRY
  have HIl : Hid (w1.heap.size < I) := hide (by have := HK5.out.size; have := HS2.out; have := HF.out; omega)
  clear hRY
  go_upto_region 7 with fail
  rw [← hY, ← hI]
  clear hY hI
  go_wp2_with fail
  go_loopw [31] (fun s wr => ∃ (j : Nat) (v : Value), j ≤ ks.length ∧ s = .int .u8 j ∧ RdR w1 wr F g I turn time es ks (be8 sm) j v) (fun s _ => ks.length - (intOf s).toNat)
  case atStart => exact ⟨0, _, Nat.zero_le _, rfl, HRY.out⟩
  case round =>
    obtain ⟨j, v, hj, rfl, hR⟩ := hrel
    obtain ⟨a0, d0, e0⟩ := own_sliceE hR.own
    subst e0
    by_cases hlt : j < ks.length
    · obtain ⟨k, hkj⟩ : ∃ k, k = ks[j] := ⟨_, rfl⟩
      obtain ⟨q, hq⟩ : ∃ q, q = heldOf es k := ⟨_, rfl⟩
      have hdr : ks.drop j = k :: ks.drop (j + 1) := by rw [hkj]; exact List.drop_eq_getElem_cons hlt
      have hq0 : q.ok := by rw [hq, hkj]; exact (HK.out _ (List.getElem_mem hlt)).2
      have hfd := hR.fd
      rw [hdr, recs_cons, ← hq, List.append_assoc, List.append_assoc] at hfd
      have hIF := HIl.out
      have eF := HF.out
      have lI := ltB hR.box
      have nFI : F ≠ I := by omega
      have ngI : g ≠ I := by omega
      have HRK := hide (rdKey F g k _ wr hfd (by rw [List.length_append, qby_length]; omega))
      have HR0 := hide hR
      have hkj' : ks[j]? = some k := by rw [hkj]; exact List.getElem?_eq_getElem hlt
      have HDR := hide (And.intro hdr (And.intro hkj' hq))
      have HQ0 := hide hq0
      have hjl : (j : Int) < (ks.length : Int) := by omega
      have HLT := hide hlt
      clear hfd hR hdr hkj hkj' hq hq0 hIF eF hlt hj
      go_wp2_with fail
      refine HRK.out.mono ?_
      rintro e w6 ⟨rfl, h6, k6⟩
      obtain ⟨Wk, hWk⟩ : ∃ Wk, Wk = w6.alloc (.cells #[.int .u8 k.k0, .int .u8 k.k1, .int .u8 k.k2, .int .u8 k.k3, .int .u8 k.k4, .int .u8 k.k5, .int .u8 k.k6, .int .u8 k.k7] 63) := ⟨_, rfl⟩
      obtain ⟨K, hK⟩ : ∃ K, K = w6.heap.size := ⟨_, rfl⟩
      have s6 := k6.size
      have hk0 : Wk.heap[K]? = some (.cells #[.int .u8 k.k0, .int .u8 k.k1, .int .u8 k.k2, .int .u8 k.k3, .int .u8 k.k4, .int .u8 k.k5, .int .u8 k.k6, .int .u8 k.k7] 63) := by rw [hK, hWk]; exact heapNew _ _
      have h6' : FdAt Wk F g (qby q ++ (recs es (ks.drop (j + 1)) ++ be8 sm)) := h6.kept (by rw [hWk]; simp) (hWk ▸ heapOld _ _ h6.Fl) (hWk ▸ heapOld _ _ h6.gl)
      have hkWk : Keep (fun c => c = F) wr Wk := hWk ▸ k6.alloc _
      have nKF : K ≠ F := by have := h6.Fl; omega
      have HRQ := hide (qread170 F g q _ Wk h6' (by rw [List.length_append, b8]; omega) HQ0.out)
      have HKW := hide hkWk
      have HKs : Hid (wr.heap.size ≤ K) := hide (by omega)
      clear h6 h6' k6 hkWk s6
      go_upto_region 10 with fail
      rw [← hWk, ← hK]
      clear hWk hK
      go_wp2_with fail
      refine HRQ.out.mono ?_
      rintro e w7 ⟨rfl, h7, k7⟩
      obtain ⟨Wq, hWq⟩ : ∃ Wq, Wq = w7.alloc (.cells #[.int .u8 q.kd, .int .u64 q.x, .int .u64 q.y, .int .u64 q.lv, .int .u64 q.wn] 173) := ⟨_, rfl⟩
      obtain ⟨Q, hQ⟩ : ∃ Q, Q = w7.heap.size := ⟨_, rfl⟩
      have s7 := k7.size
      have lK := ltB hk0
      have hk7 : Wq.heap[K]? = some (.cells #[.int .u8 k.k0, .int .u8 k.k1, .int .u8 k.k2, .int .u8 k.k3, .int .u8 k.k4, .int .u8 k.k5, .int .u8 k.k6, .int .u8 k.k7] 63) := hWq ▸ upB ((k7.block K lK nKF).trans hk0) _
      have hq7 : Wq.heap[Q]? = some (.cells #[.int .u8 q.kd, .int .u64 q.x, .int .u64 q.y, .int .u64 q.lv, .int .u64 q.wn] 173) := by rw [hQ, hWq]; exact heapNew _ _
      have hkWq : Keep (fun c => c = F) wr Wq := hWq ▸ (HKW.out.then k7 (fun _ _ h => h)).alloc _
      have hI7 : Wq.heap[I]? = some (.cells #[.int .u64 turn, .int .u64 time, .slice a0 j d0] 169) := (hkWq.block I lI (fun e => nFI e.symm)).trans HR0.out.box
      have hfd7 : FdAt Wq F g (recs es (ks.drop (j + 1)) ++ be8 sm) := h7.kept (by rw [hWq]; simp) (hWq ▸ heapOld _ _ h7.Fl) (hWq ▸ heapOld _ _ h7.gl)
      have hoF : ∀ x, (Value.slice a0 j d0).ownBlock = some x → I + 1 ≤ x ∧ x < wr.heap.size := fun x hx => own_ltE HR0.out.own hx
      have hown7 : Wq.ownsRow (I + 1) 175 13 (.slice a0 j d0) j (rrow es (ks.take j)) := own_keptE HR0.out.own (fun x hx => hkWq.block x (hoF x hx).2 (fun e => by have := (hoF x hx).1; have := HIl.out; have := HF.out; omega))
      have HKQ := hide hkWq
      have HFD := hide hfd7
      have HSI : Hid (I + 1 ≤ Wq.heap.size) := hide (by have := hkWq.size; omega)
      clear h7 k7 hkWq hfd7 s7 lK hk0
      go_upto_region 11 with fail
      rw [← hWq, ← hQ]
      clear hWq hQ
      have c1 := cellB hk7
      have c2 := cellB hq7
      have c3 := cellB hI7
      have c3' := frozenB hI7
      go_wp2_with (first
        | (at_builtin; refine wpList_append_own_at (w := _) rfl _ _ 167 rfl (I + 1) 175 i0 (.agg #[.int .u8 0, .int .u8 0, .int .u8 0, .int .u8 0, .int .u8 0, .int .u8 0, .int .u8 0, .int .u8 0, .int .u8 0, .int .u64 0, .int .u64 0, .int .u64 0, .int .u64 0]) 13 48 Tryz.underlying167 hi hz0 hz1 hz2 rfl (by decide) (.slice a0 j d0) j _ rfl (hown7.alloc _) ⟨Wq.heap.size, 0, none⟩ 1 1 (kvals k ++ qvals q) rfl rfl (cells13_new _ _ _ _) (rec_one k q) (by unfold maxLen; omega) (by omega) (by have := HSI.out; simp; omega) ?_; intro v2 w8 hown8 hgrow8 _ hat8; obtain ⟨a2, d2, e2⟩ := own_sliceE hown8; subst e2
           have hI8 := (hgrow8.block I (by have := ltB hI7; simp; omega) (fun e => by have := (hoF I e.symm).1; omega)).trans ((heapOld _ _ (ltB hI7)).trans hI7)
           have c4 := cellB hI8
           have c4' := frozenB hI8)
        | go_in)
      go_roundw
      case rel =>
        obtain ⟨hdr, hkj, hq⟩ := HDR.out
        have hlt := HLT.out
        have hB : Below w1.heap.size w1 Wq := by
          refine HR0.out.bel.trans ((HKQ.out.mono (fun _ h _ => h)).below HR0.out.bel.size (fun c hc => ?_))
          have := HF.out
          omega
        have hX : ∀ x, x < Wq.heap.size → (Value.slice a0 j d0).ownBlock ≠ some x → w8.heap[x]? = Wq.heap[x]? := fun x hx hne' => (hgrow8.block x (by simp; omega) (fun e => hne' e.symm)).trans (heapOld _ _ hx)
        have hnF : (Value.slice a0 j d0).ownBlock ≠ some F := fun e => by have := (hoF F e).1; have := HIl.out; have := HF.out; omega
        have hng : (Value.slice a0 j d0).ownBlock ≠ some g := fun e => by have := (hoF g e).1; have := HIl.out; omega
        have hs8 : Wq.heap.size ≤ w8.heap.size := Nat.le_trans (by simp) hgrow8.size
        refine ⟨j + 1, .slice a2 (j + 1) d2, by omega, by go_num, by simpa using heapSet hI8 2 (.slice a2 (j + 1) d2), ?_, ?_, ?_⟩
        · have e : ks.take (j + 1) = ks.take j ++ [k] := by rw [List.take_add_one, hkj]; rfl
          rw [e, rrow_snoc, ← hq]
          exact ownsRow_setCell_other hown8 (a := ⟨I, 2, none⟩) (fun e => absurd (own_ltE hown8 e).1 (by show ¬ I + 1 ≤ I; omega)) _
        · exact HFD.out.kept (by rw [World.size_setCell]; exact hs8) ((heapSetO nFI _ _).trans (hX F HFD.out.Fl hnF)) ((heapSetO ngI _ _).trans (hX g HFD.out.gl hng))
        · refine Below.setCell ?_ (by show w1.heap.size ≤ I; have := HIl.out; omega) _
          exact (hB.alloc hB.size _).grown hgrow8 (by have := hB.size; simp; omega) (fun x e => by have := (hoF x e).1; have := HIl.out; omega)
      case measure => have := HLT.out; simp [intOf]; omega
    · obtain rfl : j = ks.length := by omega
      have c1 := cellB hR.box
      have g1 := (hR.bel.block w.heap.size (ltB HG1.out)).trans HG1.out
      have c2 := cellB g1
      have c2' := frozenB g1
      have HR0 := hide hR
      have HGr := hide g1
      have hIr : I ≠ w.heap.size := by have := HIl.out; omega
      clear hR g1
      go_wp2
      refine bodyPost_ret (v := .tuple #[.agg #[.int .u64 turn, .int .u64 time, .slice a0 ks.length d0], .bool true]) (by simp [results, Tryz.results148, go_sem, c2]) rfl ⟨_, rfl, ?_, ?_⟩
      · have ho := HR0.out.own
        rw [List.take_length] at ho
        have hr : ∀ x, (Value.slice a0 ks.length d0).ownBlock = some x → I + 1 ≤ x := fun x hx => (own_ltE ho hx).1
        have nr : (Value.slice a0 ks.length d0).ownBlock ≠ some w.heap.size := fun e => by have := hr _ e; have := HIl.out; omega
        have h3 := ownsRow_setCell_other (ownsRow_setCell_other (ownsRow_setCell_other ho (a := ⟨w.heap.size, 0, none⟩) nr (.int .u64 turn)) (a := ⟨w.heap.size, 1, none⟩) nr (.int .u64 time)) (a := ⟨w.heap.size, 2, none⟩) nr (.slice a0 ks.length d0)
        refine ⟨h3.1, ?_⟩
        rcases h3.2 with h | ⟨x, cap', cur, e1, e2, e3⟩
        · exact Or.inl h
        · exact Or.inr ⟨x, cap', cur, e1, by have := HIl.out; omega, e3⟩
      · have hB := HR0.out.bel
        have hP := HP.out
        have hBV := HBV.out
        have gr : gt ≠ w.heap.size := by omega
        have hgt1 : gt < w1.heap.size := by omega
        have hX : (((wr.setCell ⟨w.heap.size, 0, none⟩ (.int .u64 turn)).setCell ⟨w.heap.size, 1, none⟩ (.int .u64 time)).setCell ⟨w.heap.size, 2, none⟩ (.slice a0 ks.length d0)).heap[gt]? = w1.heap[gt]? := ((heapSetO gr _ _).trans ((heapSetO gr _ _).trans (heapSetO gr _ _))).trans (hB.block gt hgt1)
        refine ⟨hP.tab.block hX, fun x hx => ⟨(World.cell?_of_block (w := w1) hX).trans ((hP.cel x hx).1.trans (hBV.cell (p := ⟨gt, x, none⟩) hgt)), (World.frozen?_of_block (w := w1) hX).trans ((hP.cel x hx).2.trans (hBV.frozen (p := ⟨gt, x, none⟩) hgt))⟩, ?_⟩
        refine Keep.set (S := fun c => c = gt) (b := w.heap.size) (Keep.set (S := fun c => c = gt) (b := w.heap.size) (Keep.set (S := fun c => c = gt) (b := w.heap.size) ?_ (Or.inr (Nat.le_refl _)) _ _) (Or.inr (Nat.le_refl _)) _ _) (Or.inr (Nat.le_refl _)) _ _
        exact ((Keep.of_below hBV).then hP.keep (fun _ _ h => h)).then (T := fun _ => False) (Keep.of_below hB) (fun _ _ h => h.elim)
end Go.Proofs.YtnlgndpcddngoaaGreatDoor

namespace Go.Proofs.YtnlgndpcddngoaaGreatDoor
open Go.RowKit Go.Maps
variable [dK] [iK]

set_option maxRecDepth 100000 in
set_option maxHeartbeats 1000000 in
/-- Sync, with nothing pending. -/
theorem sync258e (db : Nat) (m0 m1 : Value) (l f : Int) (w : World) (hd : w.heap[db]? = some (.cells #[m0, m1, .slice none 0 0, .int .i64 l, .int .i64 f, .bool false] 88)) (hl : -9223372036854775808 < l ∧ l < 0) (hf : -9223372036854775808 < f ∧ f < 0) :
    Calls Tryz.prog 258 #[.pointer (some ⟨db, 0, none⟩)] w fun e w' => e = .returned .nilIface ∧ w'.heap[db]? = some (.cells #[m0, m1, .slice none 0 0, .int .i64 (l - 1), .int .i64 (f - 1), .bool false] 88) ∧ Keep (fun c => c = db) w w' := by
  have HW := hide (writes262 db _ _ _ l f w hd hl hf)
  clear hl hf
  go_enter Tryz.func258, Tryz.ntmps258
  go_wp2_with fail
  refine HW.out.mono ?_
  rintro e w1 ⟨rfl, hd1, hk1⟩
  have a1 := cellB hd1
  have a2 := frozenB hd1
  have HK1 := hide hk1
  clear hk1
  go_wp2_with fail
  refine wp_loop_rounds 1 ?_
  rw [rounds_succ]
  go_wp2
  go_ret
  exact ⟨rfl, by simpa using heapSet hd1 2 (.slice none 0 0), Keep.set (S := fun c => c = db) (b := db) HK1.out (Or.inl rfl) _ _⟩

set_option maxRecDepth 100000 in
set_option maxHeartbeats 1000000 in
/-- A file is read. -/
theorem read256 (db nb : Nat) (c0 c2 c3 c4 : Value) (fs : Fs) (b : Bool) (p : Nat × ByteArray) (w : World) (hd : w.heap[db]? = some (.cells #[c0, .map (some nb), c2, c3, c4, .bool false] 88)) (hD : DirAt w nb fs) (hf : fndG b fs = some p) :
    Calls Tryz.prog 256 #[.pointer (some ⟨db, 0, none⟩), .string (nameB b)] w fun e w' => ∃ cap, e = .returned (.tuple #[.slice (some ⟨w.heap.size, 0, none⟩) p.2.size cap, .nilIface]) ∧ Sl w' (.slice (some ⟨w.heap.size, 0, none⟩) p.2.size cap) (numsOf p.2) ∧ p.2.size ≤ cap ∧ w.heap.size < w'.heap.size ∧ Below w.heap.size w w' := by
  have hbs := fun (w : World) (s : ByteArray) => run_bytes_of_string (P := Tryz.prog) w 9 76 5 s Tryz.underlying9 Tryz.underlying76 Tryz.underlying5
  have hlk : (Instr.lookup 85 (.map (some nb)) (.string (nameB b)) true).run Tryz.prog w = .ok (.tuple #[.pointer (some ⟨p.1, 0, none⟩), .bool true]) w := by
    have := MapG.look mname (w := w) hD.map (k := b) trivial Tryz.underlying85 (zeroP _)
    rw [hf] at this
    exact this
  have hs := hD.str _ (fndG_mem hf)
  have c1 := cellB hs
  have a1 := cellB hd
  obtain ⟨s, hse⟩ : ∃ s, s = p.2 := ⟨_, rfl⟩
  obtain ⟨x, hx⟩ : ∃ x, x = p.1 := ⟨_, rfl⟩
  rw [← hx] at hlk c1
  rw [← hse] at c1 ⊢
  clear hD hf hs hse hx
  go_enter Tryz.func256, Tryz.ntmps256
  go_wp2
  obtain ⟨D, hD⟩ : ∃ D, D = grownCap w s.size 0 5 := ⟨_, rfl⟩
  have hDs : s.size ≤ D := by rw [hD]; simpa using grownCap_ge w s.size 0 5
  rw [← hD]
  go_ret2
  exact ⟨D, rfl, Sl.of_bytes w s D hDs, hDs, by simp, ((Below.refl _ w).alloc (Nat.le_refl _) _).drew⟩

set_option maxRecDepth 100000 in
theorem behind_up (o : Int) (w : World) (_h0 : 0 ≤ o ∧ o ≤ 18446744073709551615) : Calls Tryz.prog 171 #[.int .u64 (nextT o), .int .u64 o] w fun e w' => e = .returned (.bool true) ∧ w' = w := by
  have u1 : IntKind.u64.wrap (nextT o - o) = 1 := by unfold nextT; rw [IntKind.wrap_u64]; omega
  obtain ⟨t, ht⟩ : ∃ t, t = nextT o := ⟨_, rfl⟩
  rw [← ht] at u1 ⊢
  clear ht _h0
  go_enter Tryz.func171, Tryz.ntmps171
  go_wp2
  go_ret
  exact ⟨rfl, rfl⟩
set_option maxRecDepth 100000 in
theorem behind_dn (o : Int) (w : World) (_h0 : 0 ≤ o ∧ o ≤ 18446744073709551615) : Calls Tryz.prog 171 #[.int .u64 o, .int .u64 (nextT o)] w fun e w' => e = .returned (.bool false) ∧ w' = w := by
  have u1 : IntKind.u64.wrap (o - nextT o) = 18446744073709551615 := by unfold nextT; rw [IntKind.wrap_u64]; omega
  obtain ⟨t, ht⟩ : ∃ t, t = nextT o := ⟨_, rfl⟩
  rw [← ht] at u1 ⊢
  clear ht _h0
  go_enter Tryz.func171, Tryz.ntmps171
  go_wp2
  go_ret
  exact ⟨by kernel_rfl, rfl⟩

set_option maxRecDepth 100000 in
set_option maxHeartbeats 1000000 in
theorem latest_one (g c : Nat) (t m : Int) (va : Option Addr) (vn vc : Nat) (w : World) (hg : g < w.heap.size) (h0 : w.cell? ⟨g, 0, none⟩ = some (.int .u64 t)) (h1 : w.cell? ⟨g, 1, none⟩ = some (.int .u64 m)) (h2 : w.cell? ⟨g, 2, none⟩ = some (.slice va vn vc)) :
    Calls Tryz.prog 149 #[.slice (some ⟨g, 0, none⟩) 1 c] w fun e w' => e = .returned (.agg #[.int .u64 t, .int .u64 m, .slice va vn vc]) ∧ Below w.heap.size w w' := by
  go_enter Tryz.func149, Tryz.ntmps149
  go_wp2
  refine wp_loop_rounds 2 ?_
  rw [rounds_succ]
  go_wp2
  rw [rounds_succ]
  go_wp2
  refine bodyPost_ret (v := .agg #[.int .u64 t, .int .u64 m, .slice va vn vc]) (by simp [results, Tryz.results149, go_sem]) rfl ⟨rfl, ?_⟩
  exact (((Below.refl _ w).alloc (Nat.le_refl _) _).alloc (by simp) _).alloc (by simp; omega) _

set_option maxRecDepth 100000 in
set_option maxHeartbeats 1000000 in
theorem latest_two (g c : Nat) (t m t1 m1 : Int) (va ua : Option Addr) (vn vc un uc : Nat) (b : Bool) (w : World) (hg : g < w.heap.size) (h0 : w.cell? ⟨g, 0, none⟩ = some (.int .u64 t)) (h1 : w.cell? ⟨g, 1, none⟩ = some (.int .u64 m)) (h2 : w.cell? ⟨g, 2, none⟩ = some (.slice va vn vc)) (h3 : w.cell? ⟨g, 3, none⟩ = some (.int .u64 t1)) (h4 : w.cell? ⟨g, 4, none⟩ = some (.int .u64 m1)) (h5 : w.cell? ⟨g, 5, none⟩ = some (.slice ua un uc))
    (hb : ∀ w, Calls Tryz.prog 171 #[.int .u64 t1, .int .u64 t] w fun e w' => e = .returned (.bool b) ∧ w' = w) :
    Calls Tryz.prog 149 #[.slice (some ⟨g, 0, none⟩) 2 c] w fun e w' => e = .returned (if b then .agg #[.int .u64 t1, .int .u64 m1, .slice ua un uc] else .agg #[.int .u64 t, .int .u64 m, .slice va vn vc]) ∧ Below w.heap.size w w' := by
  have HB := hide hb
  clear hb
  have hg1 : g < w.heap.size + 1 := by omega
  have hg2 : g < w.heap.size + 1 + 1 := by omega
  have hg3 : g < w.heap.size + 1 + 1 + 1 := by omega
  cases b
  · go_enter Tryz.func149, Tryz.ntmps149
    go_wp2
    refine wp_loop_rounds 3 ?_
    rw [rounds_succ]
    go_wp2
    rw [rounds_succ]
    go_wp2_with (go_at_call 171; refine (HB.out _).mono ?_; rintro e w' ⟨rfl, rfl⟩)
    rw [rounds_succ]
    go_wp2
    refine bodyPost_ret (v := .agg #[.int .u64 t, .int .u64 m, .slice va vn vc]) (by simp [results, Tryz.results149, go_sem]) rfl ⟨rfl, ?_⟩
    exact ((((Below.refl _ w).alloc (Nat.le_refl _) _).alloc (by simp) _).alloc (by simp; omega) _).alloc (by simp; omega) _
  · go_enter Tryz.func149, Tryz.ntmps149
    go_wp2
    refine wp_loop_rounds 3 ?_
    rw [rounds_succ]
    go_wp2
    rw [rounds_succ]
    go_wp2_with (go_at_call 171; refine (HB.out _).mono ?_; rintro e w' ⟨rfl, rfl⟩)
    rw [rounds_succ]
    go_wp2
    refine bodyPost_ret (v := .agg #[.int .u64 t1, .int .u64 m1, .slice ua un uc]) (by simp [results, Tryz.results149, go_sem]) rfl ⟨rfl, ?_⟩
    exact ((((Below.refl _ w).alloc (Nat.le_refl _) _).alloc (by simp) _).alloc (by simp; omega) _).alloc (by simp; omega) _
end Go.Proofs.YtnlgndpcddngoaaGreatDoor

namespace Go.Proofs.YtnlgndpcddngoaaGreatDoor
open Go.RowKit Go.Maps
variable [dK] [iK]

theorem guardCatch (p : Addr) (w : World) :
    CallsD Tryz.prog 144 #[.pointer (some p)] .returning w fun e u' w' => e = .returned (.tuple #[]) ∧ u' = .returning ∧ w' = w := by
  refine callsD_of_wpS Tryz.func144 rfl fun c₀ cs hu => ?_
  apply wpS_seq
  apply wpS_region
  simp [wpOpsS, go_sem, recoverD, hu, Tryz.ntmps144, Exit.thenS]
  refine wpS_cond (t := false) (by simp [Act.eval, Array.replicate]) ?_
  simp only [Bool.false_eq_true, if_false]
  refine wpS_of_wp (wp_skip ?_)
  cases c₀
  simp_all [bodyPostS, results, Tryz.results144]

set_option maxRecDepth 100000 in
set_option maxHeartbeats 1000000 in
/-- A job that answers nil, guarded. -/
theorem guard116 (f : FuncId) (cap : Array Value) (hcf : ∀ vs w, Sem.run Tryz.prog (callFunc f vs) w = .ok (.enter f vs) w) (w : World) (R : World → Prop)
    (hC : Calls Tryz.prog f cap (w.alloc (.cells #[.nilIface] 97)) fun e w' => e = .returned .nilIface ∧ w'.heap[w.heap.size]? = some (.cells #[.nilIface] 97) ∧ R w') :
    Calls Tryz.prog 116 #[.func (.func f) #[] cap] w fun e w' => e = .returned .nilIface ∧ ∃ w2, R w2 ∧ w2.heap[w.heap.size]? = some (.cells #[.nilIface] 97) ∧ w' = w2.setCell ⟨w.heap.size, 0, none⟩ .nilIface := by
  have hmf : ∀ (fn : Fn) (first cap : Array Value) (w : World), (Instr.makeFunc fn first cap).run Tryz.prog w = .ok (.func fn first cap) w := fun _ _ _ _ => rfl
  have HC := hide hC
  clear hC
  have hcf' := hcf cap
  have e0 : (#[] : Array Value) ++ cap = cap := by simp
  go_enter_defers Tryz.func116, Tryz.ntmps116
  go_wp2_with fail
  refine HC.out.mono ?_
  rintro e w2 ⟨rfl, hb, hR⟩
  have a1 := cellB hb
  have a2 := frozenB hb
  have HR := hide hR
  have HB := hide hb
  clear hR hb
  go_wp2
  refine leaves_cons (f := 144) (args := #[.pointer (some ⟨w.heap.size, 0, none⟩)]) (by simp) (by simp [go_sem]) ?_
  refine (guardCatch ⟨w.heap.size, 0, none⟩ _).mono ?_
  rintro e u' w'' ⟨rfl, rfl, rfl⟩
  simp [Leaves, settle, results, Tryz.results116, go_sem, a1]
  exact ⟨w2, HR.out, HB.out, rfl⟩

/-- What a keeping leaves. -/
def KpPost (w w' : World) (g db k : Nat) (turn time : Int) (es : Es) (fsD fsN : Fs) (F : Nat → Prop) : Prop :=
  ∃ (ks : List Ky) (a c : Nat) (F' : Nat → Prop), ks.Perm (es.map Prod.fst) ∧ StoAt w' g db (nextT turn) ∧ DskAt w' db k (putG (nextT turn % 2 == 1) (a, strOfNums (imgB (nextT turn) time es ks)) fsD) (putG (nextT turn % 2 == 1) (c, strOfNums (imgB (nextT turn) time es ks)) fsN) F' ∧ (∀ b, F' b → F b ∨ w.heap.size ≤ b) ∧ Keep (fun c => c = g ∨ F c) w w'
theorem KpPost.from {w V w' : World} {g db k : Nat} {turn time : Int} {es : Es} {fsD fsN : Fs} {F : Nat → Prop} (h : KpPost V w' g db k turn time es fsD fsN F) (hV : Keep (fun _ => False) w V) : KpPost w w' g db k turn time es fsD fsN F := by
  obtain ⟨ks, a, c, F', h1, h2, h3, h4, h5⟩ := h
  exact ⟨ks, a, c, F', h1, h2, h3, fun b hb => (h4 b hb).imp id (fun h => Nat.le_trans hV.size h), (hV.mono (fun _ h _ => h.elim)).trans h5⟩
/-- A store into a block that is new at w, and was there at V. -/
theorem KpPost.set {w V w' : World} {g db k : Nat} {turn time : Int} {es : Es} {fsD fsN : Fs} {F : Nat → Prop} (h : KpPost V w' g db k turn time es fsD fsN F) {x : Nat} (hx : x < V.heap.size) (hF : ¬ F x) (hg : x ≠ g) (hV : Keep (fun _ => False) w V) (hw : w.heap.size ≤ x) (j : Nat) (v : Value) : KpPost w (w'.setCell ⟨x, j, none⟩ v) g db k turn time es fsD fsN F := by
  obtain ⟨ks, a, c, F', h1, h2, h3, h4, h5⟩ := h
  refine ⟨ks, a, c, F', h1, h2.kept (heapSetO (fun e => hg e.symm) _ _), h3.kept (by rw [World.size_setCell]; exact Nat.le_refl _) (fun b hb => heapSetO (fun e => ?_) _ _), fun b hb => (h4 b hb).imp id (fun h => Nat.le_trans hV.size h), ((hV.mono (fun _ h _ => h.elim)).trans h5).set (Or.inr hw) _ _⟩
  subst e
  rcases h4 b hb with h | h
  · exact hF h
  · omega
theorem StoAt.seterr {w : World} {g db : Nat} {turn : Int} (h : StoAt w g db turn) : StoAt (w.setCell ⟨g, 261, none⟩ .nilIface) g db turn :=
  ⟨fun j hj => by rw [World.frozen?_setCell]; exact h.fro j hj, (World.cell?_setCell_other _ _ _ _ (by simp)).trans h.dsk, h.tab.set (Or.inr (by omega)) _, (World.cell?_setCell_other _ _ _ _ (by simp)).trans h.turn, World.cell?_setCell_same _ _ _ h.err⟩
theorem KpPost.err {w w' : World} {g db k : Nat} {turn time : Int} {es : Es} {fsD fsN : Fs} {F : Nat → Prop} (h : KpPost w w' g db k turn time es fsD fsN F) (hF : ¬ F g) (hg : g < w.heap.size) : KpPost w (w'.setCell ⟨g, 261, none⟩ .nilIface) g db k turn time es fsD fsN F := by
  obtain ⟨ks, a, c, F', h1, h2, h3, h4, h5⟩ := h
  refine ⟨ks, a, c, F', h1, h2.seterr, h3.kept (by rw [World.size_setCell]; exact Nat.le_refl _) (fun b hb => heapSetO (fun e => ?_) _ _), h4, h5.set (Or.inl (Or.inl rfl)) _ _⟩
  subst e
  rcases h4 b hb with h | h
  · exact hF h
  · omega

/-- What a keeping asks for. -/
structure KpPre (w : World) (g db b k : Nat) (turn time : Int) (es : Es) (fsD fsN : Fs) (F : Nat → Prop) : Prop where
  e : MapE w b es
  nd : (es.map Prod.fst).Nodup
  ok : ∀ p ∈ es, p.1.ok
  fit : ∀ p ∈ es, p.2.2.fit
  sz : es.length ≤ 12
  t0 : 0 ≤ turn
  t1 : turn ≤ 18446744073709551615
  m0 : 0 ≤ time
  m1 : time ≤ 18446744073709551615
  s : StoAt w g db turn
  d : DskAt w db (k + 2) fsD fsN F
  gF : ¬ F g
  bF : ¬ F b
  bg : b ≠ g
theorem KpPre.to {w V : World} {g db b k : Nat} {turn time : Int} {es : Es} {fsD fsN : Fs} {F : Nat → Prop} (h : KpPre w g db b k turn time es fsD fsN F) (hV : Keep (fun _ => False) w V) : KpPre V g db b k turn time es fsD fsN F :=
  ⟨MapG.kept h.e (hV.block b (MapG.lt h.e) (fun h => h)), h.nd, h.ok, h.fit, h.sz, h.t0, h.t1, h.m0, h.m1, h.s.kept (hV.block g h.s.lt (fun h => h)), h.d.kept hV.size (fun c hc => hV.block c (h.d.lt c hc) (fun h => h)), h.gF, h.bF, h.bg⟩

set_option maxRecDepth 100000 in
theorem keepjob172 (A B C g db b k : Nat) (turn time : Int) (es : Es) (fsD fsN : Fs) (F : Nat → Prop) (w : World) (h : KpPre w g db b k turn time es fsD fsN F)
    (hA : w.heap[A]? = some (.cells #[.pointer (some ⟨g, 0, none⟩)] 122)) (hB : w.heap[B]? = some (.cells #[.int .u64 time] 23)) (hC : w.heap[C]? = some (.cells #[.func (.func 143) #[.map (some b)] #[]] 278)) :
    Calls Tryz.prog 172 #[.pointer (some ⟨A, 0, none⟩), .pointer (some ⟨B, 0, none⟩), .pointer (some ⟨C, 0, none⟩)] w fun e w' => e = .returned .nilIface ∧ KpPost w w' g db k turn time es fsD fsN F := by
  have H := hide (stwrite161 g db b k es turn time fsD fsN F w h.e h.nd h.ok h.fit h.sz h.t0 h.t1 h.m0 h.m1 h.s h.d h.gF h.bF h.bg)
  have a1 := cellB hA
  have a2 := cellB hB
  have a3 := cellB hC
  clear h
  go_enter Tryz.func172, Tryz.ntmps172
  go_wp2_with fail
  refine H.out.mono ?_
  rintro e w2 ⟨rfl, hX⟩
  have HX := hide hX
  clear hX
  go_wp2
  go_ret
  exact ⟨rfl, HX.out⟩

theorem callJob (vs : Array Value) (w : World) : Sem.run Tryz.prog (callFunc 172 vs) w = .ok (.enter 172 vs) w := by simp [go_sem]

set_option maxRecDepth 100000 in
set_option maxHeartbeats 1000000 in
theorem ask159 (A B C g db b k : Nat) (turn time : Int) (es : Es) (fsD fsN : Fs) (F : Nat → Prop) (w : World) (h : KpPre w g db b k turn time es fsD fsN F)
    (hA : w.heap[A]? = some (.cells #[.pointer (some ⟨g, 0, none⟩)] 122)) (hB : w.heap[B]? = some (.cells #[.int .u64 time] 23)) (hC : w.heap[C]? = some (.cells #[.func (.func 143) #[.map (some b)] #[]] 278)) :
    Calls Tryz.prog 159 #[.pointer (some ⟨g, 0, none⟩), .func (.func 172) #[] #[.pointer (some ⟨A, 0, none⟩), .pointer (some ⟨B, 0, none⟩), .pointer (some ⟨C, 0, none⟩)]] w fun e w' => e = .returned .nilIface ∧ KpPost w w' g db k turn time es fsD fsN F := by
  have hgl := h.s.lt
  have hKV : Keep (fun _ => False) w (w.alloc (.cells #[.nilIface] 97)) := (Keep.refl _ w).alloc _
  have hFn : ¬ F w.heap.size := fun hF => by have := h.d.lt _ hF; omega
  have HG := hide (guard116 172 #[.pointer (some ⟨A, 0, none⟩), .pointer (some ⟨B, 0, none⟩), .pointer (some ⟨C, 0, none⟩)] callJob w (fun w2 => KpPost (w.alloc (.cells #[.nilIface] 97)) w2 g db k turn time es fsD fsN F) (by
    refine (keepjob172 A B C g db b k turn time es fsD fsN F _ (h.to hKV) (upB hA _) (upB hB _) (upB hC _)).mono ?_
    rintro e w2 ⟨rfl, hP⟩
    refine ⟨rfl, ?_, hP⟩
    obtain ⟨_, _, _, _, _, _, _, _, h5⟩ := hP
    exact (h5.block w.heap.size (by simp) (fun hh => hh.elim (fun e => by omega) hFn)).trans (heapNew _ _)))
  have a1 := h.s.err
  have HP := hide h
  clear h
  go_enter Tryz.func159, Tryz.ntmps159
  go_wp2_with fail
  refine HG.out.mono ?_
  rintro e w1 ⟨rfl, w2, hP, hb, hw1⟩
  have hP1 : KpPost w w1 g db k turn time es fsD fsN F := by
    rw [hw1]
    exact hP.set (by simp) hFn (by omega) hKV (Nat.le_refl _) _ _
  have hs1 : w1.cell? ⟨g, 261, none⟩ = some .nilIface := by
    obtain ⟨_, _, _, _, _, h2, _⟩ := hP1
    exact h2.err
  have hf1 : w1.frozen? ⟨g, 261, none⟩ = false := by
    obtain ⟨_, _, _, _, _, h2, _⟩ := hP1
    exact h2.fro 261 (by omega)
  have HP1 := hide hP1
  clear hP1 hP hb hw1 a1
  go_wp2
  go_ret
  exact ⟨rfl, HP1.out.err HP.out.gF hgl⟩

set_option maxRecDepth 100000 in
set_option maxHeartbeats 1000000 in
/-- Store.Keep over a disk that is well. -/
theorem keep154 (g db b k : Nat) (turn time : Int) (es : Es) (fsD fsN : Fs) (F : Nat → Prop) (w : World) (h : KpPre w g db b k turn time es fsD fsN F) :
    Calls Tryz.prog 154 #[.pointer (some ⟨g, 0, none⟩), .int .u64 time, .func (.func 143) #[.map (some b)] #[]] w fun e w' => e = .returned .nilIface ∧ KpPost w w' g db k turn time es fsD fsN F := by
  have hmf : ∀ (fn : Fn) (first cap : Array Value) (w : World), (Instr.makeFunc fn first cap).run Tryz.prog w = .ok (.func fn first cap) w := fun _ _ _ _ => rfl
  obtain ⟨V, hV⟩ : ∃ V, V = ((w.alloc (.cells #[.pointer (some ⟨g, 0, none⟩)] 122)).alloc (.cells #[.int .u64 time] 23)).alloc (.cells #[.func (.func 143) #[.map (some b)] #[]] 278) := ⟨_, rfl⟩
  have hA : V.heap[w.heap.size]? = some (.cells #[.pointer (some ⟨g, 0, none⟩)] 122) := hV ▸ upB (upB (heapNew _ _) _) _
  have hB : V.heap[w.heap.size + 1]? = some (.cells #[.int .u64 time] 23) := hV ▸ upB (heapN (by simp)) _
  have hC : V.heap[w.heap.size + 2]? = some (.cells #[.func (.func 143) #[.map (some b)] #[]] 278) := hV ▸ heapN (by simp)
  have hKV : Keep (fun _ => False) w V := hV ▸ (((Keep.refl _ w).alloc _).alloc _).alloc _
  have HA := hide (ask159 w.heap.size (w.heap.size + 1) (w.heap.size + 2) g db b k turn time es fsD fsN F V (h.to hKV) hA hB hC)
  have HKV := hide hKV
  have a1 := cellB hA
  clear h hKV
  go_enter Tryz.func154, Tryz.ntmps154
  go_upto_region 1 with fail
  rw [← hV]
  clear hV
  go_wp2_with fail
  refine HA.out.mono ?_
  rintro e w2 ⟨rfl, hX⟩
  have HX := hide (hX.from HKV.out)
  clear hX
  go_wp2
  go_ret
  exact ⟨rfl, HX.out⟩
end Go.Proofs.YtnlgndpcddngoaaGreatDoor

namespace Go.Proofs.YtnlgndpcddngoaaGreatDoor
open Go.RowKit Go.Maps
variable [dK] [iK]

/-- An image, as data. -/
structure Ig where
  turn : Int
  time : Int
  es : Es
  ks : List Ky
structure Ig.ok (i : Ig) : Prop where
  turn : 0 ≤ i.turn ∧ i.turn ≤ 18446744073709551615
  time : 0 ≤ i.time ∧ i.time ≤ 18446744073709551615
  len : i.ks.length ≤ 12
  rec_ : ∀ k ∈ i.ks, k.ok ∧ (heldOf i.es k).ok
def Ig.bytes (i : Ig) : List Int := imgB i.turn i.time i.es i.ks
theorem Ig.ok.byt {i : Ig} (h : i.ok) : Bytes i.bytes := by
  have hfit : ∀ k ∈ i.ks, k.ok ∧ (heldOf i.es k).fit := fun k hk => ⟨(h.rec_ k hk).1, ⟨by rcases (h.rec_ k hk).2.kd with h | h <;> omega, (h.rec_ k hk).2.x, (h.rec_ k hk).2.y, (h.rec_ k hk).2.lv, (h.rec_ k hk).2.wn⟩⟩
  intro b hb
  unfold Ig.bytes imgB at hb
  exact (List.mem_append.1 hb).elim (imgA_bytes i.turn i.time i.es i.ks h.len hfit b) (be8_bytes _ b)
theorem Ig.blen (i : Ig) : i.bytes.length = 25 + 41 * i.ks.length := by
  unfold Ig.bytes imgB
  rw [List.length_append, imgA_len]
  have : (be8 (sumM (imgA i.turn i.time i.es i.ks))).length = 8 := rfl
  omega

/-- What is reserved of a key: it covers what was let in, and lies no further ahead than the block. -/
structure Res (blk : Int) (st hd : Qt) : Prop where
  ok : hd.ok
  kd : hd.kd = st.kd
  x : hd.x = st.x
  y : hd.y = st.y
  wn : hd.wn = st.wn
  lo : st.lv ≤ hd.lv
  up : hd.lv ≤ st.lv + blk
theorem Res.same {blk : Int} {q : Qt} (h : q.ok) (hb : 0 ≤ blk) : Res blk q q := ⟨h, rfl, rfl, rfl, rfl, Int.le_refl _, by omega⟩
/-- What the files say of a ledger. -/
structure Dur (time blk : Int) (es : Es) (turn : Int) (fs : Fs) : Prop where
  res : ∀ p ∈ es, Res blk p.2.1 p.2.2
  img : (fs = [] ∧ es = []) ∨ ∃ (tm : Int) (ks : List Ky) (a : Nat), ks.Perm (es.map Prod.fst) ∧ 0 ≤ tm ∧ tm ≤ time ∧ fndG (turn % 2 == 1) fs = some (a, strOfNums (imgB turn tm es ks)) ∧ ∀ p ∈ es, p.2.2.kd = 2 → p.2.2.wn ≤ tm / p.2.2.y
  old : ∀ p, fndG (!(turn % 2 == 1)) fs = some p → ∃ i : Ig, i.ok ∧ i.ks.Nodup ∧ nextT i.turn = turn ∧ p.2 = strOfNums i.bytes
theorem Dur.pass {time time' blk : Int} {es : Es} {turn : Int} {fs : Fs} (h : Dur time blk es turn fs) (ht : time ≤ time') : Dur time' blk es turn fs :=
  ⟨h.res, h.img.imp id (fun ⟨tm, ks, a, h1, h2, h3, h4, h5⟩ => ⟨tm, ks, a, h1, h2, by omega, h4, h5⟩), h.old⟩
/-- No window is reserved that is still to come. -/
theorem Dur.wnd {time blk : Int} {es : Es} {turn : Int} {fs : Fs} (h : Dur time blk es turn fs) : ∀ p ∈ es, p.2.2.kd = 2 → p.2.2.wn ≤ time / p.2.2.y := fun p hp hk => by
  rcases h.img with ⟨_, h2⟩ | ⟨tm, ks, a, _, _, h3, _, h5⟩
  · rw [h2] at hp; cases hp
  · refine Int.le_trans (h5 p hp hk) (Int.ediv_le_ediv ?_ h3)
    have := (h.res p hp).ok.kd
    rcases this with ⟨h, _⟩ | ⟨_, h⟩ <;> omega
theorem nextT_par (t : Int) : (nextT t % 2 == 1) = !(t % 2 == 1) := by
  unfold nextT
  have h : t % 2 = 0 ∨ t % 2 = 1 := by omega
  rcases h with h | h
  · have : (t + 1) % 18446744073709551616 % 2 = 1 := by omega
    rw [this, h]; rfl
  · have : (t + 1) % 18446744073709551616 % 2 = 0 := by omega
    rw [this, h]; rfl
theorem fndG_put_same {K V : Type} [DecidableEq K] (k : K) (v : V) (l : List (K × V)) : fndG k (putG k v l) = some v := by
  unfold putG
  split
  · exact fndG_upd_same (by assumption)
  · rename_i h
    rw [fndG_app, if_neg h, if_pos rfl]
theorem fndG_put_other {K V : Type} [DecidableEq K] {k k' : K} (v : V) (l : List (K × V)) (h : k' ≠ k) : fndG k' (putG k v l) = fndG k' l := by
  unfold putG
  split
  · exact fndG_upd_other h
  · rw [fndG_app]
    by_cases hs : (fndG k' l).isSome = true
    · rw [if_pos hs]
    · rw [if_neg hs, if_neg (fun e => h e.symm)]
      cases h2 : fndG k' l with
      | none => rfl
      | some x => rw [h2] at hs; exact absurd rfl hs
theorem recs_congr (es es' : Es) : ∀ (ks : List Ky), (∀ k ∈ ks, heldOf es k = heldOf es' k) → recs es ks = recs es' ks
  | [], _ => rfl
  | k :: r, h => by
    have ih := recs_congr es es' r (fun x hx => h x (List.mem_cons_of_mem _ hx))
    unfold recs at ih ⊢
    rw [List.flatMap_cons, List.flatMap_cons, ih, h k (by simp)]
theorem imgB_congr (turn time : Int) (es es' : Es) (ks : List Ky) (h : ∀ k ∈ ks, heldOf es k = heldOf es' k) : imgB turn time es ks = imgB turn time es' ks := by
  unfold imgB imgA
  rw [recs_congr es es' ks h]
/-- The image that stands there, as data. -/
theorem Dur.cur {time blk : Int} {es : Es} {turn : Int} {fs : Fs} (h : Dur time blk es turn fs) (ht : 0 ≤ turn ∧ turn ≤ 18446744073709551615) (hm : time ≤ 18446744073709551615) (nd : (es.map Prod.fst).Nodup) (key : ∀ p ∈ es, p.1.ok) (len : es.length ≤ 12) {p : Nat × ByteArray} (hp : fndG (turn % 2 == 1) fs = some p) : ∃ i : Ig, i.ok ∧ i.ks.Nodup ∧ i.turn = turn ∧ i.es = es ∧ i.ks.Perm (es.map Prod.fst) ∧ i.time ≤ time ∧ p.2 = strOfNums i.bytes ∧ ∀ p ∈ es, p.2.2.kd = 2 → p.2.2.wn ≤ i.time / p.2.2.y := by
  rcases h.img with ⟨rfl, _⟩ | ⟨tm, ks, a, h1, h2, h3, h4, h5⟩
  · simp [fndG] at hp
  · rw [h4] at hp
    cases hp
    have hmem : ∀ k ∈ ks, ∃ q ∈ es, q.1 = k := fun k hk => by
      have := (h1.mem_iff).1 hk
      obtain ⟨q, hq, e⟩ := List.mem_map.1 this
      exact ⟨q, hq, e⟩
    refine ⟨⟨turn, tm, es, ks⟩, ⟨ht, ⟨h2, by show tm ≤ 18446744073709551615; omega⟩, by have := h1.length_eq; rw [List.length_map] at this; show ks.length ≤ 12; omega, fun k hk => ?_⟩, h1.nodup_iff.2 nd, rfl, rfl, h1, h3, rfl, h5⟩
    obtain ⟨q, hq, rfl⟩ := hmem k hk
    refine ⟨key q hq, ?_⟩
    have : fndG q.1 es = some q.2 := fndG_of_mem nd hq
    show (heldOf es q.1).ok
    unfold heldOf
    rw [this]
    exact (h.res q hq).ok
/-- What the files say behind a keeping. -/
theorem Dur.keep {time blk : Int} {es0 es : Es} {turn : Int} {fs : Fs} (h : Dur time blk es0 turn fs) (ht : 0 ≤ turn ∧ turn ≤ 18446744073709551615) (hm : 0 ≤ time ∧ time ≤ 18446744073709551615) (nd : (es0.map Prod.fst).Nodup) (key : ∀ p ∈ es0, p.1.ok) (len : es0.length ≤ 12) (hr : ∀ p ∈ es, Res blk p.2.1 p.2.2) (hw : ∀ p ∈ es, p.2.2.kd = 2 → p.2.2.wn ≤ time / p.2.2.y) {ks : List Ky} (hp : ks.Perm (es.map Prod.fst)) (a : Nat) : Dur time blk es (nextT turn) (putG (nextT turn % 2 == 1) (a, strOfNums (imgB (nextT turn) time es ks)) fs) := by
  refine ⟨hr, Or.inr ⟨time, ks, a, hp, hm.1, Int.le_refl _, fndG_put_same _ _ _, hw⟩, fun p hpp => ?_⟩
  have hne : (!(nextT turn % 2 == 1)) ≠ (nextT turn % 2 == 1) := by cases (nextT turn % 2 == 1) <;> simp
  rw [fndG_put_other _ _ hne, nextT_par, Bool.not_not] at hpp
  obtain ⟨i, i1, i2, i3, _, _, _, i4, _⟩ := h.cur ht hm.2 nd key len hpp
  exact ⟨i, i1, i2, by rw [i3], i4⟩
/-- What the files say when the older one went. -/
theorem Dur.swept {time blk : Int} {es : Es} {turn : Int} {fs : Fs} (h : Dur time blk es turn fs) (hnd : (fs.map Prod.fst).Nodup) (hne : fs ≠ [] ∨ es = []) : Dur time blk es turn (delG (!(turn % 2 == 1)) fs) := by
  have ho : (turn % 2 == 1) ≠ (!(turn % 2 == 1)) := by cases (turn % 2 == 1) <;> simp
  refine ⟨h.res, ?_, fun p hp => ?_⟩
  · rcases h.img with ⟨rfl, h2⟩ | ⟨tm, ks, a, h1, h2, h3, h4, h5⟩
    · exact Or.inl ⟨rfl, h2⟩
    · exact Or.inr ⟨tm, ks, a, h1, h2, h3, by rw [fndG_del_other ho]; exact h4, h5⟩
  · rw [fndG_del_same hnd] at hp
    cases hp
end Go.Proofs.YtnlgndpcddngoaaGreatDoor

namespace Go.Proofs.YtnlgndpcddngoaaGreatDoor
open Go.RowKit Go.Maps
variable [dK] [iK]

theorem conEmpty (a : Option Addr) (c : Nat) (xv : Value) (w : World) : Calls Tryz.prog 146 #[.slice a 0 c, xv] w fun e w' => e = .returned (.bool false) ∧ w' = w :=
  AnyE.slices_Contains_empty (P := Tryz.prog) (ρ := Con.ren) Con.lays a c xv w

set_option maxRecDepth 100000 in
theorem hasours_none (a : Option Addr) (c : Nat) (w : World) : Calls Tryz.prog 145 #[.slice a 0 c] w fun e w' => e = .returned (.bool false) ∧ w' = w := by
  have HN0 := hide (name_any 0 w (by omega) (by omega))
  have HN1 := hide (name_any 1 w (by omega) (by omega))
  go_enter Tryz.func145, Tryz.ntmps145
  go_wp2
  refine wp_loop_rounds 3 ?_
  rw [rounds_succ]
  go_wp2_with fail
  refine HN0.out.mono ?_
  rintro e w' ⟨rfl, rfl⟩
  go_wp2_with fail
  refine (conEmpty _ _ _ _).mono ?_
  rintro e w' ⟨rfl, rfl⟩
  go_wp2_with fail
  rw [rounds_succ]
  go_wp2_with fail
  refine HN1.out.mono ?_
  rintro e w' ⟨rfl, rfl⟩
  go_wp2_with fail
  refine (conEmpty _ _ _ _).mono ?_
  rintro e w' ⟨rfl, rfl⟩
  go_wp2_with fail
  rw [rounds_succ]
  go_wp2
  go_ret
  exact ⟨rfl, rfl⟩

set_option maxRecDepth 100000 in
set_option maxHeartbeats 1000000 in
/-- The last image of a disk with no file. -/
theorem last118 (g db nb : Nat) (c0 c2 c3 c4 : Value) (w : World) (hg : w.cell? ⟨g, 0, none⟩ = some (.iface 78 (.pointer (some ⟨db, 0, none⟩)))) (hd : w.heap[db]? = some (.cells #[c0, .map (some nb), c2, c3, c4, .bool false] 88)) (hD : DirAt w nb []) :
    Calls Tryz.prog 118 #[.pointer (some ⟨g, 0, none⟩)] w fun e w' => e = .returned (.tuple #[.agg #[.int .u64 0, .int .u64 0, .slice none 0 0], .nilIface]) ∧ Below w.heap.size w w' := by
  obtain ⟨V, hV⟩ : ∃ V, V = w.alloc (.cells #[.int .u64 0, .int .u64 0, .slice none 0 0] 169) := ⟨_, rfl⟩
  have hgl := lt_cell hg
  have h0 : V.heap[w.heap.size]? = some (.cells #[.int .u64 0, .int .u64 0, .slice none 0 0] 169) := hV ▸ heapNew _ _
  have hgV : V.cell? ⟨g, 0, none⟩ = some (.iface 78 (.pointer (some ⟨db, 0, none⟩))) := by rw [hV, World.cell?_alloc_lt _ _ ⟨g, 0, none⟩ hgl]; exact hg
  have hdV : V.heap[db]? = _ := hV ▸ upB hd _
  have hDV : DirAt V nb [] := hD.kept (hV ▸ heapOld _ _ hD.map.lt) (fun p hp => by cases hp)
  have hB : Below w.heap.size w V := hV ▸ (Below.refl _ w).alloc (Nat.le_refl _) _
  have hmn := methodNames (.pointer (some ⟨db, 0, none⟩))
  have HNM := hide (names255 db nb c0 c2 c3 c4 [] V hdV hDV)
  have sV : V.heap.size = w.heap.size + 1 := by rw [hV]; simp
  have HSV := hide sV
  have HB := hide hB
  clear hD hDV hd hdV hB sV hg
  go_enter Tryz.func118, Tryz.ntmps118
  go_upto_region 1 with fail
  rw [← hV]
  clear hV
  go_wp2_with fail
  refine HNM.out.mono ?_
  rintro e w1 ⟨v, bs, rfl, hbs, _, hnm, hb1⟩
  have hb0 : bs = [] := by
    cases bs with
    | nil => rfl
    | cons x r => exact absurd ((hbs x).1 (by simp)) (by simp [fndG])
  subst hb0
  obtain ⟨a, c, rfl, _⟩ := hnm
  have h1 := (hb1.block w.heap.size (by have := HSV.out; omega)).trans h0
  have e1 := cellB h1
  have e2 := frozenB h1
  have HB1 := hide hb1
  clear hb1 hbs hgV
  go_wp2_with fail
  refine (hasours_none a c _).mono ?_
  rintro e w' ⟨rfl, rfl⟩
  go_wp2
  refine bodyPost_ret (v := .tuple #[.agg #[.int .u64 0, .int .u64 0, .slice none 0 0], .nilIface]) (by simp [results, Tryz.results118, go_sem, e1]) rfl ⟨rfl, ?_⟩
  have b2 : Below w.heap.size w w' := HB.out.trans (HB1.out.mono (by have := HSV.out; omega))
  exact ((b2.setCell (Nat.le_refl _) _).setCell (Nat.le_refl _) _).setCell (Nat.le_refl _) _

set_option maxRecDepth 100000 in
set_option maxHeartbeats 1000000 in
theorem openjob117 (A B g db nb : Nat) (c0 c2 c3 c4 : Value) (w : World) (hA : w.heap[A]? = some (.cells #[.pointer (some ⟨g, 0, none⟩)] 122)) (hB : w.heap[B]? = some (.cells #[.int .u64 0, .int .u64 0, .slice none 0 0] 169)) (hg : w.cell? ⟨g, 0, none⟩ = some (.iface 78 (.pointer (some ⟨db, 0, none⟩)))) (hd : w.heap[db]? = some (.cells #[c0, .map (some nb), c2, c3, c4, .bool false] 88)) (hD : DirAt w nb []) :
    Calls Tryz.prog 117 #[.pointer (some ⟨A, 0, none⟩), .pointer (some ⟨B, 0, none⟩)] w fun e w' => e = .returned .nilIface ∧ w'.heap[B]? = some (.cells #[.int .u64 0, .int .u64 0, .slice none 0 0] 169) ∧ Keep (fun c => c = B) w w' := by
  have HL := hide (last118 g db nb c0 c2 c3 c4 w hg hd hD)
  have a1 := cellB hA
  have lB := ltB hB
  clear hg hd hD
  go_enter Tryz.func117, Tryz.ntmps117
  go_wp2_with fail
  refine HL.out.mono ?_
  rintro e w1 ⟨rfl, hb1⟩
  have h1 := (hb1.block B lB).trans hB
  have e1 := cellB h1
  have e2 := frozenB h1
  have HB1 := hide hb1
  clear hb1 a1
  go_wp2
  go_ret
  refine ⟨rfl, by simpa using heapSet (heapSet (heapSet h1 0 (.int .u64 0)) 1 (.int .u64 0)) 2 (.slice none 0 0), ?_⟩
  exact Keep.set (S := fun c => c = B) (b := B) (Keep.set (S := fun c => c = B) (b := B) (Keep.set (S := fun c => c = B) (b := B) (Keep.of_below HB1.out) (Or.inl rfl) _ _) (Or.inl rfl) _ _) (Or.inl rfl) _ _

theorem callOpenJob (vs : Array Value) (w : World) : Sem.run Tryz.prog (callFunc 117 vs) w = .ok (.enter 117 vs) w := by simp [go_sem]
theorem callGuard (vs : Array Value) (w : World) : Sem.run Tryz.prog (callFunc 116 vs) w = .ok (.enter 116 vs) w := by simp [go_sem]
end Go.Proofs.YtnlgndpcddngoaaGreatDoor

namespace Go.Proofs.YtnlgndpcddngoaaGreatDoor
open Go.RowKit Go.Maps
variable [dK] [iK]

/-- The files are these images. -/
def Files (fs : Fs) (im : Bool → Option Ig) : Prop := ∀ b, (fndG b fs).map Prod.snd = (im b).map (fun i => strOfNums i.bytes) ∧ ∀ i, im b = some i → i.ok ∧ (i.turn % 2 == 1) = b
/-- The images of the first so many names. -/
def imgsTo (im : Bool → Option Ig) : Nat → List Ig
  | 0 => []
  | 1 => (im false).toList
  | _ => (im false).toList ++ (im true).toList
theorem imgsTo_succ (im : Bool → Option Ig) (j : Nat) (hj : j < 2) (b : Bool) (hb : b = ((j : Int) % 2 == 1)) : imgsTo im (j + 1) = imgsTo im j ++ (im b).toList := by
  match j, hj with
  | 0, _ => subst hb; rfl
  | 1, _ => subst hb; rfl
theorem imgsTo_len (im : Bool → Option Ig) (j : Nat) : (imgsTo im j).length ≤ 2 := by
  match j with
  | 0 => simp [imgsTo]
  | 1 => cases h : im false <;> simp [imgsTo, h]
  | n + 2 => cases h : im false <;> cases h' : im true <;> simp [imgsTo, h, h']
def irow (l : List (Ig × Value)) : List Value := l.flatMap fun p => [.int .u64 p.1.turn, .int .u64 p.1.time, p.2]
theorem irow_snoc (l : List (Ig × Value)) (p : Ig × Value) : irow (l ++ [p]) = irow l ++ [.int .u64 p.1.turn, .int .u64 p.1.time, p.2] := by
  unfold irow
  rw [List.flatMap_append]
  simp
theorem Tryz.infoImg : (Tryz.prog.info? 169).map (fun i => (i.zero, i.size, i.bytes)) = some (some (.agg #[.int .u64 0, .int .u64 0, .slice none 0 0]), 3, 40) := by kernel_rfl
theorem cells3i_new (w : World) (a b c : Value) (t : TypeId) : ∀ j u, ([a, b, c] : List Value)[j]? = some u → (w.alloc (.cells #[a, b, c] t)).cell? ((⟨w.heap.size, 0, none⟩ : Addr).add j) = some u := by
  intro j u hj
  rw [Addr.add_lit, Nat.zero_add, World.cell?_alloc_at _ _ _ _ rfl]
  match j, hj with
  | 0, hj => exact hj
  | 1, hj => exact hj
  | 2, hj => exact hj
  | j + 3, hj => simp at hj
theorem NmAt.kept {w w' : World} {v : Value} {bs : List Bool} (h : NmAt w v bs) (hk : ∀ g, v.ownBlock = some g → w'.heap[g]? = w.heap[g]?) : NmAt w' v bs := by
  obtain ⟨a, c, rfl, h⟩ := h
  refine ⟨a, c, rfl, h.imp id ?_⟩
  rintro ⟨g, rfl, hc⟩
  exact ⟨g, rfl, fun j hj => (World.cell?_of_block (w := w) (hk g rfl)).trans (hc j hj)⟩

/-- While the files are read: those that came, as images. -/
structure LsI (w w1 wr : World) (g : Nat) (im : Bool → Option Ig) (j : Nat) (vW : Value) (l : List (Ig × Value)) : Prop where
  lst : l.map Prod.fst = imgsTo im j
  own : wr.ownsRow w1.heap.size 169 3 vW l.length (irow l)
  rcs : ∀ p ∈ l, ∃ a c, p.2 = .slice a p.1.ks.length c ∧ wr.ownsRow w.heap.size 175 13 p.2 p.1.ks.length (rrow p.1.es p.1.ks)
  tab : TabPost w1 wr g 1
end Go.Proofs.YtnlgndpcddngoaaGreatDoor

namespace Go.Proofs.YtnlgndpcddngoaaGreatDoor
open Go.RowKit Go.Maps
variable [dK] [iK]

theorem any_mem (bs : List Bool) (b : Bool) : (bs.any fun y => b == y) = true ↔ b ∈ bs := by
  rw [List.any_eq_true]
  constructor
  · rintro ⟨y, hy, h⟩
    have : b = y := by simpa using h
    exact this ▸ hy
  · intro h
    exact ⟨b, h, by simp⟩

set_option maxRecDepth 100000 in
theorem hasours_some (v : Value) (bs : List Bool) (w : World) (h : NmAt w v bs) (hl : bs.length ≤ 2) (hne : bs ≠ []) : Calls Tryz.prog 145 #[v] w fun e w' => e = .returned (.bool true) ∧ w' = w := by
  have HN0 := hide (name_any 0 w (by omega) (by omega))
  have HN1 := hide (name_any 1 w (by omega) (by omega))
  have C0 := contains146 v bs false w h hl
  have C1 := contains146 v bs true w h hl
  obtain ⟨r0, h0⟩ : ∃ r, r = bs.any (fun y => false == y) := ⟨_, rfl⟩
  obtain ⟨r1, h1⟩ : ∃ r, r = bs.any (fun y => true == y) := ⟨_, rfl⟩
  have h01 : r0 = false → r1 = true := fun e => by
    rw [h1, any_mem]
    rw [e] at h0
    cases bs with
    | nil => exact absurd rfl hne
    | cons x r =>
      cases x
      · exact absurd ((any_mem (false :: r) false).2 (by simp)) (by rw [← h0]; simp)
      · simp
  rw [← h0] at C0
  rw [← h1] at C1
  have HC0 := hide C0
  have HC1 := hide C1
  obtain ⟨a, c, rfl, _⟩ := h
  clear C0 C1 h0 h1 hl hne
  cases r0
  · obtain rfl := h01 rfl
    clear h01
    go_enter Tryz.func145, Tryz.ntmps145
    go_wp2
    refine wp_loop_rounds 3 ?_
    rw [rounds_succ]
    go_wp2_with fail
    refine HN0.out.mono ?_
    rintro e w' ⟨rfl, rfl⟩
    go_wp2_with fail
    refine HC0.out.mono ?_
    rintro e w' ⟨rfl, rfl⟩
    go_wp2_with fail
    rw [rounds_succ]
    go_wp2_with fail
    refine HN1.out.mono ?_
    rintro e w' ⟨rfl, rfl⟩
    go_wp2_with fail
    refine HC1.out.mono ?_
    rintro e w' ⟨rfl, rfl⟩
    go_wp2
    go_ret
    exact ⟨rfl, rfl⟩
  · clear h01
    go_enter Tryz.func145, Tryz.ntmps145
    go_wp2
    refine wp_loop_rounds 3 ?_
    rw [rounds_succ]
    go_wp2_with fail
    refine HN0.out.mono ?_
    rintro e w' ⟨rfl, rfl⟩
    go_wp2_with fail
    refine HC0.out.mono ?_
    rintro e w' ⟨rfl, rfl⟩
    go_wp2
    go_ret
    exact ⟨rfl, rfl⟩

theorem methodRead (h : Value) (w : World) : (Go.method 510 78 h "Read").run Tryz.prog w = .ok (256, h) w := by kernel_rfl
theorem callDR (vs : Array Value) (w : World) : Sem.run Tryz.prog (callFunc 256 vs) w = .ok (.enter 256 vs) w := by simp [go_sem]
/-- Which image is the last. -/
def Best (im : Bool → Option Ig) (i : Ig) : Prop := (im (i.turn % 2 == 1) = some i) ∧ ∀ a, im (!(i.turn % 2 == 1)) = some a → i.turn = nextT a.turn
/-- A slice of names lies in no block that holds something else first. -/
theorem NmAt.ne {w : World} {v : Value} {bs : List Bool} (h : NmAt w v bs) (hb : bs ≠ []) {x : Nat} {u : Value} (hx : w.cell? ⟨x, 0, none⟩ = some u) (hu : ∀ s, u ≠ .string s) : v.ownBlock ≠ some x := by
  obtain ⟨a, c, rfl, h⟩ := h
  rcases h with h | ⟨g, rfl, hc⟩
  · exact absurd h hb
  · intro e
    simp [Value.ownBlock] at e
    subst e
    have := hc 0 (List.length_pos_iff.2 hb)
    rw [hx] at this
    injection this with this
    exact hu _ this
theorem NmAt.lt {w : World} {v : Value} {bs : List Bool} (h : NmAt w v bs) (hb : bs ≠ []) {x : Nat} (hx : v.ownBlock = some x) : x < w.heap.size := by
  obtain ⟨a, c, rfl, h⟩ := h
  rcases h with h | ⟨g, rfl, hc⟩
  · exact absurd h hb
  · simp [Value.ownBlock] at hx
    subst hx
    exact lt_cell (hc 0 (List.length_pos_iff.2 hb))
theorem TabPost.then {a b c : World} {g o : Nat} (h : TabPost a b g o) (h' : TabPost b c g o) : TabPost a c g o :=
  ⟨h'.tab, fun j hj => ⟨(h'.cel j hj).1.trans (h.cel j hj).1, (h'.cel j hj).2.trans (h.cel j hj).2⟩, h.keep.then h'.keep (fun _ _ h => h)⟩
theorem TabPost.of {w w' : World} {g o : Nat} (h : TabOk w g o) (hg : g < w.heap.size) (hk : Keep (fun _ => False) w w') : TabPost w w' g o :=
  ⟨h.block (hk.block g hg (fun h => h)), fun _ _ => ⟨World.cell?_of_block (w := w) (hk.block g hg (fun h => h)), World.frozen?_of_block (w := w) (hk.block g hg (fun h => h))⟩, hk.mono (fun _ h _ => h.elim)⟩
theorem own_disj {w : World} {b1 b2 t1 t2 s1 s2 : Nat} {v1 v2 : Value} {n1 n2 : Nat} {x1 x2 : List Value} (h1 : w.ownsRow b1 t1 s1 v1 n1 x1) (h2 : w.ownsRow b2 t2 s2 v2 n2 x2) (ht : t1 ≠ t2) {x : Nat} (e1 : v1.ownBlock = some x) (e2 : v2.ownBlock = some x) : False := by
  rcases h1.2 with ⟨rfl, _⟩ | ⟨g', cap', cur, rfl, _, hh, _⟩
  · simp [Value.ownBlock] at e1
  · simp [Value.ownBlock] at e1
    subst e1
    rcases h2.2 with ⟨rfl, _⟩ | ⟨g2, cap2, cur2, rfl, _, hh2, _⟩
    · simp [Value.ownBlock] at e2
    · simp [Value.ownBlock] at e2
      subst e2
      rw [hh] at hh2
      injection hh2 with hh2
      injection hh2 with _ hh2 _
      exact ht hh2

/-- Of the images that came the last one is taken. -/
theorem latest149 (base : Nat) (im : Bool → Option Ig) (L : List (Ig × Value)) (vW : Value) (w : World) (hown : w.ownsRow base 169 3 vW L.length (irow L)) (hL : L.map Prod.fst = imgsTo im 2) (hv : ∀ p ∈ L, ∃ a n c, p.2 = .slice a n c) (hok : ∀ b i, im b = some i → i.ok ∧ (i.turn % 2 == 1) = b) (hsome : ∃ b, im b ≠ none) (hrel : ∀ a b, im false = some a → im true = some b → b.turn = nextT a.turn ∨ a.turn = nextT b.turn) :
    Calls Tryz.prog 149 #[vW] w fun e w' => ∃ p ∈ L, Best im p.1 ∧ e = .returned (.agg #[.int .u64 p.1.turn, .int .u64 p.1.time, p.2]) ∧ Below w.heap.size w w' := by
  have one : ∀ (i : Ig) (v : Value), L = [(i, v)] → Best im i → Calls Tryz.prog 149 #[vW] w fun e w' => ∃ p ∈ L, Best im p.1 ∧ e = .returned (.agg #[.int .u64 p.1.turn, .int .u64 p.1.time, p.2]) ∧ Below w.heap.size w w' := fun i v e hB => by
    subst e
    obtain ⟨va, vn, vc, rfl⟩ : ∃ a n c, v = .slice a n c := hv (i, v) (by simp)
    obtain ⟨gb, gc, rfl, _, hlt⟩ := hown.form (by simp)
    have hc : ∀ j, j < 3 → w.cell? ⟨gb, j, none⟩ = ([.int .u64 i.turn, .int .u64 i.time, .slice va vn vc] : List Value)[j]? := fun j hj => hown.cellAt j (by simpa using hj)
    refine (latest_one gb gc i.turn i.time va vn vc w hlt (hc 0 (by omega)) (hc 1 (by omega)) (hc 2 (by omega))).mono ?_
    rintro e w' ⟨rfl, hb⟩
    exact ⟨(i, .slice va vn vc), by simp, hB, rfl, hb⟩
  have hl2 : imgsTo im 2 = (im false).toList ++ (im true).toList := rfl
  rw [hl2] at hL
  cases h0 : im false with
  | none =>
    cases h1 : im true with
    | none =>
      obtain ⟨b, hb⟩ := hsome
      cases b
      · exact absurd h0 hb
      · exact absurd h1 hb
    | some b =>
      rw [h0, h1] at hL
      have hp := (hok true b h1).2
      match L, hL with
      | [(i, v)], hL =>
        have e : i = b := by simpa using hL
        subst e
        exact one i v rfl ⟨by rw [hp]; exact h1, fun a ha => by rw [hp] at ha; rw [show (!true) = false from rfl, h0] at ha; cases ha⟩
  | some a =>
    have hpa := (hok false a h0).2
    cases h1 : im true with
    | none =>
      rw [h0, h1] at hL
      match L, hL with
      | [(i, v)], hL =>
        have e : i = a := by simpa using hL
        subst e
        exact one i v rfl ⟨by rw [hpa]; exact h0, fun x hx => by rw [hpa] at hx; rw [show (!false) = true from rfl, h1] at hx; cases hx⟩
    | some b =>
      have hpb := (hok true b h1).2
      rw [h0, h1] at hL
      match L, hL, hown, hv with
      | [(i, v), (i', v')], hL, hown, hv =>
        obtain ⟨e1, e2⟩ : i = a ∧ i' = b := by simpa using hL
        subst e1 e2
        obtain ⟨va, vn, vc, rfl⟩ : ∃ a n c, v = .slice a n c := hv (i, v) (by simp)
        obtain ⟨ua, un, uc, rfl⟩ : ∃ a n c, v' = .slice a n c := hv (i', v') (by simp)
        obtain ⟨gb, gc, rfl, _, hlt⟩ := hown.form (by simp)
        have hc : ∀ j, j < 6 → w.cell? ⟨gb, j, none⟩ = ([.int .u64 i.turn, .int .u64 i.time, .slice va vn vc, .int .u64 i'.turn, .int .u64 i'.time, .slice ua un uc] : List Value)[j]? := fun j hj => hown.cellAt j (by simpa using hj)
        rcases hrel i i' h0 h1 with h | h
        · refine (latest_two gb gc i.turn i.time i'.turn i'.time va ua vn vc un uc true w hlt (hc 0 (by omega)) (hc 1 (by omega)) (hc 2 (by omega)) (hc 3 (by omega)) (hc 4 (by omega)) (hc 5 (by omega)) (fun w => by rw [h]; exact behind_up i.turn w (hok false i h0).1.turn)).mono ?_
          rintro e w' ⟨rfl, hb⟩
          refine ⟨(i', .slice ua un uc), by simp, ⟨by rw [hpb]; exact h1, fun x hx => ?_⟩, rfl, hb⟩
          rw [hpb, show (!true) = false from rfl, h0] at hx
          cases hx
          exact h
        · refine (latest_two gb gc i.turn i.time i'.turn i'.time va ua vn vc un uc false w hlt (hc 0 (by omega)) (hc 1 (by omega)) (hc 2 (by omega)) (hc 3 (by omega)) (hc 4 (by omega)) (hc 5 (by omega)) (fun w => by rw [h]; exact behind_dn i'.turn w (hok true i' h1).1.turn)).mono ?_
          rintro e w' ⟨rfl, hb⟩
          refine ⟨(i, .slice va vn vc), by simp, ⟨by rw [hpa]; exact h0, fun x hx => ?_⟩, rfl, hb⟩
          rw [hpa, show (!false) = true from rfl, h1] at hx
          cases hx
          exact h
end Go.Proofs.YtnlgndpcddngoaaGreatDoor

namespace Go.Proofs.YtnlgndpcddngoaaGreatDoor
open Go.RowKit Go.Maps
variable [dK] [iK]

/-- A store that has nothing but its disk. -/
theorem storeZero (db : Nat) : ∃ zc : Array Value, zc = Tryz.zeroCells230.setIfInBounds 0 (.iface 78 (.pointer (some ⟨db, 0, none⟩))) ∧ zc[0]? = some (.iface 78 (.pointer (some ⟨db, 0, none⟩))) ∧ zc[1]? = some (.int .u32 0) ∧ zc[2]? = some (.int .i32 0) ∧ (∀ j, j < 256 → zc[1 + 3 + j]? = some (.int .u64 0)) ∧ zc[260]? = some (.int .u64 0) ∧ zc[261]? = some .nilIface := by
  have hz : Tryz.zeroCells230.setIfInBounds 0 (.iface 78 (.pointer (some ⟨db, 0, none⟩))) = (#[(.iface 78 (.pointer (some ⟨db, 0, none⟩))), .int .u32 0, .int .i32 0, .int .u32 0] ++ Array.replicate 256 (.int .u64 0) ++ #[.int .u64 0, .nilIface] : Array Value) := by kernel_rfl
  refine ⟨_, rfl, ?_, ?_, ?_, fun j hj => ?_, ?_, ?_⟩
  · rw [hz]; kernel_rfl
  · rw [hz]; kernel_rfl
  · rw [hz]; kernel_rfl
  · rw [hz, Array.getElem?_append_left (by simp; omega), Array.getElem?_append_right (by simp), Array.getElem?_replicate, if_pos (by simp; omega)]
  · rw [hz]; kernel_rfl
  · rw [hz]; kernel_rfl

set_option maxRecDepth 100000 in
set_option maxHeartbeats 2000000 in
/-- store.Open over a disk with no file. -/
theorem storeopen76 (db nb : Nat) (c0 c2 c3 c4 : Value) (w : World) (hd : w.heap[db]? = some (.cells #[c0, .map (some nb), c2, c3, c4, .bool false] 88)) (hD : DirAt w nb []) :
    Calls Tryz.prog 76 #[.iface 78 (.pointer (some ⟨db, 0, none⟩))] w fun e w' => ∃ g, e = .returned (.tuple #[.pointer (some ⟨g, 0, none⟩), .agg #[.int .u64 0, .int .u64 0, .slice none 0 0], .nilIface]) ∧ w.heap.size ≤ g ∧ StoAt w' g db 0 ∧ Below w.heap.size w w' := by
  have hmf : ∀ (fn : Fn) (first cap : Array Value) (w : World), (Instr.makeFunc fn first cap).run Tryz.prog w = .ok (.func fn first cap) w := fun _ _ _ _ => rfl
  obtain ⟨zc, hzc, z0, z1, z2, z3, z4, z5⟩ := storeZero db
  obtain ⟨V, hV⟩ : ∃ V, V = (((w.alloc (.cells #[.int .u64 0, .int .u64 0, .slice none 0 0] 169)).alloc (.cells zc 230)).alloc (.cells #[.pointer (some ⟨w.heap.size + 1, 0, none⟩)] 122)).alloc (.cells #[.int .u64 0, .int .u64 0, .slice none 0 0] 169) := ⟨_, rfl⟩
  have h0 : V.heap[w.heap.size]? = some (.cells #[.int .u64 0, .int .u64 0, .slice none 0 0] 169) := hV ▸ upB (upB (upB (heapNew _ _) _) _) _
  have h1 : V.heap[w.heap.size + 1]? = some (.cells zc 230) := hV ▸ upB (upB (heapN (by simp)) _) _
  have h2 : V.heap[w.heap.size + 2]? = some (.cells #[.pointer (some ⟨w.heap.size + 1, 0, none⟩)] 122) := hV ▸ upB (heapN (by simp)) _
  have h3 : V.heap[w.heap.size + 3]? = some (.cells #[.int .u64 0, .int .u64 0, .slice none 0 0] 169) := hV ▸ heapN (by simp)
  have hsV : V.heap.size = w.heap.size + 4 := by rw [hV]; simp
  have hB : Below w.heap.size w V := hV ▸ ((((Below.refl _ w).alloc (Nat.le_refl _) _).alloc (by simp) _).alloc (by simp; omega) _).alloc (by simp; omega) _
  have hdV := (hB.block db (ltB hd)).trans hd
  have hDV : DirAt V nb [] := hD.kept (hB.block nb hD.map.lt) (fun p hp => by cases hp)
  have HG := hide (guard116 117 #[.pointer (some ⟨w.heap.size + 2, 0, none⟩), .pointer (some ⟨w.heap.size + 3, 0, none⟩)] callOpenJob V (fun w2 => w2.heap[w.heap.size + 3]? = some (.cells #[.int .u64 0, .int .u64 0, .slice none 0 0] 169) ∧ Keep (fun c => c = w.heap.size + 3) (V.alloc (.cells #[.nilIface] 97)) w2) (by
    refine (openjob117 (w.heap.size + 2) (w.heap.size + 3) (w.heap.size + 1) db nb c0 c2 c3 c4 _ (upB h2 _) (upB h3 _) ((cellB (upB h1 _) 0).trans z0) (upB hdV _) (hDV.kept (heapOld _ _ hDV.map.lt) (fun p hp => by cases hp))).mono ?_
    rintro e w2 ⟨rfl, q1, q2⟩
    refine ⟨rfl, ?_, q1, q2⟩
    exact (q2.block V.heap.size (by simp) (fun e => by omega)).trans (heapNew _ _)))
  have HB := hide hB
  have HSV := hide hsV
  have HZ := hide (And.intro z0 (And.intro z1 (And.intro z2 (And.intro z3 (And.intro z4 z5)))))
  clear hD hDV hd hdV hB hsV z0 z1 z2 z3 z4 z5
  go_enter Tryz.func76, Tryz.ntmps76
  go_upto_region 3 with fail
  rw [← hzc, ← hV]
  clear hV hzc
  go_wp2_with fail
  refine HG.out.mono ?_
  rintro e w1 ⟨rfl, w2, ⟨q1, q2⟩, hb, hw1⟩
  have sV := HSV.out
  have X : ∀ k, k < V.heap.size → k ≠ w.heap.size + 3 → w1.heap[k]? = V.heap[k]? := fun k hk h => by
    rw [hw1, heapSetO (by omega)]
    exact (q2.block k (by simp; omega) h).trans (heapOld _ _ hk)
  have g0 := (X w.heap.size (by omega) (by omega)).trans h0
  have g1 := (X (w.heap.size + 1) (by omega) (by omega)).trans h1
  have g2 := (X (w.heap.size + 2) (by omega) (by omega)).trans h2
  have g3 : w1.heap[w.heap.size + 3]? = some (.cells #[.int .u64 0, .int .u64 0, .slice none 0 0] 169) := by rw [hw1, heapSetO (by omega)]; exact q1
  have hB1 : Below w.heap.size w w1 := by
    rw [hw1]
    refine Below.setCell ?_ (by show w.heap.size ≤ V.heap.size; omega) _
    exact (HB.out.alloc HB.out.size _).trans (q2.below (by simp; omega) (fun k hk => by omega))
  obtain ⟨z0, z1, z2, z3, z4, z5⟩ := HZ.out
  obtain ⟨Y, hY⟩ : ∃ Y, Y = w1.setCell ⟨w.heap.size + 1, 260, none⟩ (.int .u64 0) := ⟨_, rfl⟩
  have hS : StoAt Y (w.heap.size + 1) db 0 := by
    have c := cellB g1
    have f := frozenB g1
    have o : ∀ j, j ≠ 260 → Y.cell? ⟨w.heap.size + 1, j, none⟩ = zc[j]? := fun j hj => by rw [hY]; exact (World.cell?_setCell_other _ _ _ _ (by simp <;> omega)).trans (c j)
    have ff : ∀ j, Y.frozen? ⟨w.heap.size + 1, j, none⟩ = false := fun j => by rw [hY, World.frozen?_setCell]; exact f j
    refine ⟨fun j _ => ff j, (o 0 (by omega)).trans z0, ⟨⟨false, (o 1 (by omega)).trans z1, fun j hj => ⟨0, (o _ (by omega)).trans (z3 j hj), fun h => by cases h⟩⟩, (o 2 (by omega)).trans z2, fun j _ => ff _⟩, ?_, (o 261 (by omega)).trans z5⟩
    rw [hY]
    exact World.cell?_setCell_same _ _ _ ((c 260).trans z4)
  have y0 : Y.heap[w.heap.size]? = _ := hY ▸ (heapSetO (by omega) _ _).trans g0
  have y2 : Y.heap[w.heap.size + 2]? = _ := hY ▸ (heapSetO (by omega) _ _).trans g2
  have y3 : Y.heap[w.heap.size + 3]? = _ := hY ▸ (heapSetO (by omega) _ _).trans g3
  have hBY : Below w.heap.size w Y := hY ▸ hB1.setCell (by show w.heap.size ≤ w.heap.size + 1; omega) _
  have c1 := (cellB g1 260).trans z4
  have c1' := frozenB g1 260
  have c2 := cellB g2
  have c3 := cellB g3
  have HS := hide hS
  have HBY := hide hBY
  clear hb hw1 q1 q2 X hB1 z0 z1 z2 z3 z4 z5 hS hBY h0 h1 h2 h3 sV
  go_upto_region 7 with fail
  rw [← hY]
  clear hY c1 c1' c2 c3 g0 g1 g2 g3
  have d0 := cellB y0
  have d0' := frozenB y0
  have d2 := cellB y2
  have d3 := cellB y3
  go_region
  all_goals go_wp2
  all_goals refine bodyPost_ret (v := .tuple #[.pointer (some ⟨w.heap.size + 1, 0, none⟩), .agg #[.int .u64 0, .int .u64 0, .slice none 0 0], .nilIface]) (by simp [results, Tryz.results76, go_sem, d0]) rfl ?_
  all_goals refine ⟨w.heap.size + 1, rfl, by omega, ?_, ?_⟩
  all_goals first
    | exact HS.out.kept (by simp [heapSetO])
    | (exact HS.out.kept ((heapSetO (by omega) _ _).trans ((heapSetO (by omega) _ _).trans (heapSetO (by omega) _ _))))
    | skip
  all_goals first
    | (exact ((HBY.out.drew.setCell (Nat.le_refl _) _).setCell (Nat.le_refl _) _).setCell (Nat.le_refl _) _)
    | skip

set_option maxRecDepth 100000 in
set_option maxHeartbeats 2000000 in
/-- The book over a disk with no file. -/
theorem openbook50 (db nb : Nat) (c0 c2 c3 c4 : Value) (blk : Int) (w : World) (hd : w.heap[db]? = some (.cells #[c0, .map (some nb), c2, c3, c4, .bool false] 88)) (hD : DirAt w nb []) :
    Calls Tryz.prog 50 #[.iface 78 (.pointer (some ⟨db, 0, none⟩)), .int .u64 blk] w fun e w' => ∃ g mp, e = .returned (.tuple #[.agg #[.int .u64 0, .int .u64 blk, .map (some mp), .pointer (some ⟨g, 0, none⟩)], .nilIface]) ∧ w.heap.size ≤ g ∧ w.heap.size ≤ mp ∧ g ≠ mp ∧ w'.heap[mp]? = some (.map #[] 0) ∧ StoAt w' g db 0 ∧ Below w.heap.size w w' := by
  have hmm := @run_makeMap Tryz.prog
  obtain ⟨V, hV⟩ : ∃ V, V = w.alloc (.cells #[.int .u64 0, .int .u64 0, .map none, .pointer none] 124) := ⟨_, rfl⟩
  have h0 : V.heap[w.heap.size]? = some (.cells #[.int .u64 0, .int .u64 0, .map none, .pointer none] 124) := hV ▸ heapNew _ _
  have hB : Below w.heap.size w V := hV ▸ (Below.refl _ w).alloc (Nat.le_refl _) _
  have hsV : V.heap.size = w.heap.size + 1 := by rw [hV]; simp
  have HO := hide (storeopen76 db nb c0 c2 c3 c4 V ((hB.block db (ltB hd)).trans hd) (hD.kept (hB.block nb hD.map.lt) (fun p hp => by cases hp)))
  have HB := hide hB
  have HSV := hide hsV
  clear hd hD hB hsV
  go_enter Tryz.func50, Tryz.ntmps50
  go_upto_region 1 with fail
  rw [← hV]
  clear hV
  go_wp2_with fail
  refine HO.out.mono ?_
  rintro e w1 ⟨g, rfl, hgl, hS1, hb1⟩
  have sV := HSV.out
  obtain ⟨Y, hY⟩ : ∃ Y, Y = (w1.alloc (.cells #[.int .u64 0, .int .u64 0, .slice none 0 0] 169)).alloc (.map #[] 0) := ⟨_, rfl⟩
  have hs1 := hb1.size
  have g0 := (hb1.block w.heap.size (by omega)).trans h0
  have y0 : Y.heap[w.heap.size]? = _ := hY ▸ upB (upB g0 _) _
  have y1 : Y.heap[w1.heap.size]? = some (.cells #[.int .u64 0, .int .u64 0, .slice none 0 0] 169) := hY ▸ upB (heapNew _ _) _
  have y2 : Y.heap[w1.heap.size + 1]? = some (.map #[] 0) := hY ▸ heapN (by simp)
  have hSY : StoAt Y g db 0 := hS1.kept (by rw [hY, heapOld _ _ (by have := hS1.lt; simp; omega), heapOld _ _ hS1.lt])
  have hBY : Below w.heap.size w Y := hY ▸ ((HB.out.trans (hb1.mono (by omega))).alloc (by omega) _).alloc (by simp; omega) _
  have hgl1 := hS1.lt
  have HS := hide hSY
  have HBY := hide hBY
  have HL := hide (And.intro hgl (And.intro hs1 hgl1))
  clear hS1 hb1 hSY hBY h0 g0 hgl hs1 hgl1 sV
  go_upto_region 5 with fail
  rw [← hY]
  clear hY
  have e1 := cellB y1
  have e0 := cellB y0
  have e0' := frozenB y0
  go_wp2
  refine wp_loop_rounds 1 ?_
  rw [rounds_succ]
  go_wp2
  obtain ⟨l1, l2, l3⟩ := HL.out
  have sV := HSV.out
  refine bodyPost_ret (v := .tuple #[.agg #[.int .u64 0, .int .u64 blk, .map (some (w1.heap.size + 1)), .pointer (some ⟨g, 0, none⟩)], .nilIface]) (by simp [results, Tryz.results50, go_sem, e0]) rfl ⟨g, w1.heap.size + 1, rfl, by omega, by omega, by omega, ?_, ?_, ?_⟩
  · rw [heapSetO (by omega), heapSetO (by omega), heapSetO (by omega), heapSetO (by omega)]
    exact y2
  · exact HS.out.kept ((heapSetO (by omega) _ _).trans ((heapSetO (by omega) _ _).trans ((heapSetO (by omega) _ _).trans (heapSetO (by omega) _ _))))
  · exact (((HBY.out.setCell (Nat.le_refl _) _).setCell (Nat.le_refl _) _).setCell (Nat.le_refl _) _).setCell (Nat.le_refl _) _
end Go.Proofs.YtnlgndpcddngoaaGreatDoor

namespace Go.Proofs.YtnlgndpcddngoaaGreatDoor
open Go.RowKit Go.Maps
variable [dK] [iK]

/-- What a ledger holds: its time, its count, the block, its keys, the turn, the files of its disk. -/
structure Led where
  time : Int
  adm : Int
  blk : Int
  es : Es
  turn : Int
  fsD : Fs
  fsN : Fs
structure Led.ok (c : Led) : Prop where
  time : 0 ≤ c.time ∧ c.time ≤ 18446744073709551615
  adm : 0 ≤ c.adm ∧ c.adm ≤ 18446744073709551615
  blk : 0 ≤ c.blk ∧ c.blk ≤ 18446744073709551615
  turn : 0 ≤ c.turn ∧ c.turn ≤ 18446744073709551615
  nd : (c.es.map Prod.fst).Nodup
  key : ∀ p ∈ c.es, p.1.ok
  qt : ∀ p ∈ c.es, p.2.1.ok
  fit : ∀ p ∈ c.es, p.2.2.fit
  len : c.es.length ≤ 12
  dur : Dur c.time c.blk c.es c.turn c.fsD
/-- Block sb is a ledger's server that stands so; F: the blocks that are its own. -/
structure LedAt (w : World) (st : Int) (sb db k : Nat) (c : Led) (F : Nat → Prop) : Prop where
  mem : ∃ mp g FD, w.heap[sb]? = some (.cells #[.int .i32 st, .int .u32 0, .int .u64 c.time, .int .u64 c.blk, .map (some mp), .pointer (some ⟨g, 0, none⟩), .int .u64 c.adm] 130) ∧ MapE w mp c.es ∧ StoAt w g db c.turn ∧ DskAt w db k c.fsD c.fsN FD ∧ (∀ b, FD b → F b) ∧ F mp ∧ F g ∧ ¬ FD g ∧ ¬ FD mp ∧ mp ≠ g ∧ ¬ FD sb ∧ sb ≠ g ∧ sb ≠ mp
  own : F sb
  lt : ∀ b, F b → b < w.heap.size
theorem LedAt.kept {w w' : World} {st : Int} {sb db k : Nat} {c : Led} {F : Nat → Prop} (h : LedAt w st sb db k c F) (hs : w.heap.size ≤ w'.heap.size) (hb : ∀ b, F b → w'.heap[b]? = w.heap[b]?) : LedAt w' st sb db k c F := by
  obtain ⟨mp, g, FD, h1, h2, h3, h4, h5, h6, h7, h8⟩ := h.mem
  exact ⟨⟨mp, g, FD, (hb sb h.own).trans h1, MapG.kept h2 (hb mp h6), h3.kept (hb g h7), h4.kept hs (fun b hF => hb b (h5 b hF)), h5, h6, h7, h8⟩, h.own, fun b hF => Nat.lt_of_lt_of_le (h.lt b hF) hs⟩
theorem LedAt.below {w w' : World} {st : Int} {sb db k : Nat} {c : Led} {F : Nat → Prop} (h : LedAt w st sb db k c F) {B : Nat} (hb : Below B w w') (hB : w.heap.size ≤ B) : LedAt w' st sb db k c F :=
  h.kept hb.size fun b hF => hb.block b (Nat.lt_of_lt_of_le (h.lt b hF) hB)
theorem LedAt.drew {w : World} {st : Int} {sb db k : Nat} {c : Led} {F : Nat → Prop} (h : LedAt w st sb db k c F) : LedAt w.drew st sb db k c F := h.kept (Nat.le_refl _) fun _ _ => rfl
/-- What a call on a ledger leaves. -/
def OutL (w : World) (st : Int) (sb db k : Nat) (c : Led) (F : Nat → Prop) (w' : World) : Prop :=
  ∃ F', LedAt w' st sb db k c F' ∧ Keep F w w' ∧ ∀ b, F' b → F b ∨ w.heap.size ≤ b
theorem OutL.same {w w' : World} {st : Int} {sb db k : Nat} {c : Led} {F : Nat → Prop} (h : LedAt w st sb db k c F) (hb : Below w.heap.size w w') : OutL w st sb db k c F w' :=
  ⟨F, h.below hb (Nat.le_refl _), Keep.of_below hb, fun _ hF => Or.inl hF⟩
/-- As more is asked less is borne. -/
theorem DskAt.less {w : World} {db k k' : Nat} {fsD fsN : Fs} {F : Nat → Prop} (h : DskAt w db k fsD fsN F) (hk : k' ≤ k) : DskAt w db k' fsD fsN F := by
  obtain ⟨mb, nb, l, f, h1, h2, h3, h4, h5, h6⟩ := h.mem
  exact ⟨⟨mb, nb, l, f, h1, h2, h3, by omega, by omega, h6⟩, h.sD, h.sN, h.own, h.lt⟩
theorem LedAt.less {w : World} {st : Int} {sb db k k' : Nat} {c : Led} {F : Nat → Prop} (h : LedAt w st sb db k c F) (hk : k' ≤ k) : LedAt w st sb db k' c F := by
  obtain ⟨mp, g, FD, h1, h2, h3, h4, h5⟩ := h.mem
  exact ⟨⟨mp, g, FD, h1, h2, h3, h4.less hk, h5⟩, h.own, h.lt⟩

/-- The ledger behind a keeping. -/
def keptL (c : Led) (es : Es) (ks : List Ky) (a d : Nat) : Led := ⟨c.time, c.adm, c.blk, es, nextT c.turn, putG (nextT c.turn % 2 == 1) (a, strOfNums (imgB (nextT c.turn) c.time es ks)) c.fsD, putG (nextT c.turn % 2 == 1) (d, strOfNums (imgB (nextT c.turn) c.time es ks)) c.fsN⟩
def Kept (c c' : Led) (es : Es) : Prop := ∃ ks a d, ks.Perm (es.map Prod.fst) ∧ c' = keptL c es ks a d

theorem callKeep (vs : Array Value) (w : World) : Sem.run Tryz.prog (callFunc 154 vs) w = .ok (.enter 154 vs) w := by simp [go_sem]

set_option maxRecDepth 100000 in
set_option maxHeartbeats 4000000 in
/-- The keys are these as soon as they are durable. -/
theorem keep134 (st : Int) (sb db k mp' : Nat) (c : Led) (F : Nat → Prop) (es' : Es) (rc ra rb : Int) (w : World) (h : LedAt w st sb db (k + 2) c F) (hc : c.ok) (hE : MapE w mp' es') (hF : ¬ F mp') (hnd : (es'.map Prod.fst).Nodup) (hok : ∀ p ∈ es', p.1.ok) (hfit : ∀ p ∈ es', p.2.2.fit) (hsz : es'.length ≤ 12) :
    Calls Tryz.prog 134 #[.pointer (some ⟨sb, 2, none⟩), .map (some mp'), .agg #[.int .u8 rc, .int .u64 ra, .int .u64 rb]] w fun e w' => e = .returned (.agg #[.int .u8 rc, .int .u64 ra, .int .u64 rb]) ∧ ∃ c' F', Kept c c' es' ∧ LedAt w' st sb db k c' F' ∧ Keep F w w' ∧ ∀ b, F' b → F b ∨ w.heap.size ≤ b ∨ b = mp' := by
  obtain ⟨mp, g, FD, s1, s2, s3, s4, s5, s6, s7, s8, s9, s10, s11, s12, s13⟩ := h.mem
  obtain ⟨V, hV⟩ : ∃ V, V = (w.alloc (.cells #[.int .u8 rc, .int .u64 ra, .int .u64 rb] 40)).alloc (.cells #[.int .u8 0, .int .u64 0, .int .u64 0] 40) := ⟨_, rfl⟩
  have hKV : Keep (fun _ => False) w V := hV ▸ ((Keep.refl _ w).alloc _).alloc _
  have hr0 : V.heap[w.heap.size]? = some (.cells #[.int .u8 rc, .int .u64 ra, .int .u64 rb] 40) := hV ▸ upB (heapNew _ _) _
  have hr1 : V.heap[w.heap.size + 1]? = some (.cells #[.int .u8 0, .int .u64 0, .int .u64 0] 40) := hV ▸ heapN (by simp)
  have hsV : V.heap[sb]? = _ := (hKV.block sb (ltB s1) (fun h => h)).trans s1
  have hpre : KpPre w g db mp' k c.turn c.time es' c.fsD c.fsN FD := ⟨hE, hnd, hok, hfit, hsz, hc.turn.1, hc.turn.2, hc.time.1, hc.time.2, s3, s4, s8, fun hh => hF (s5 _ hh), fun e => hF (e ▸ s7)⟩
  have hmf : ∀ (fn : Fn) (first cap : Array Value) (w : World), (Instr.makeFunc fn first cap).run Tryz.prog w = .ok (.func fn first cap) w := fun _ _ _ _ => rfl
  have hlw := h.lt
  have HK := hide (keep154 g db mp' k c.turn c.time es' c.fsD c.fsN FD V.drew ((hpre.to hKV).to ⟨rfl, rfl, rfl, Nat.le_refl _, fun _ _ _ => rfl⟩))
  have HH := hide h
  have HKV := hide hKV
  have a1 := cellB hsV
  have HE := hide hE
  have hml := MapG.lt hE
  clear hpre h hKV hE
  go_enter Tryz.func134, Tryz.ntmps134
  go_upto_region 1 with fail
  rw [← hV]
  have HVV := hide hV
  clear hV
  go_cut [7] (fun s7 wx => ∃ (W : World), W = wx ∧ s7 = .nilIface ∧ KpPost V W g db k c.turn c.time es' c.fsD c.fsN FD)
  case first =>
    go_region_law (refine step_fn (by rfl) 154 callKeep _ _ (by rfl) #[.pointer (some ⟨g, 0, none⟩), .int .u64 c.time, .func (.func 143) #[.map (some mp')] #[]] (by simp only [List.map_toArray, List.map_cons, List.map_nil]; rfl) HK.out ?_; rintro e w2 ⟨rfl, hX⟩; refine ⟨_, rfl, ?_⟩; have HX := hide hX; clear hX)
    all_goals (go_wp2_with fail; go_meet)
    all_goals exact ⟨w2, rfl, rfl, HX.out.from (w := V) ⟨rfl, rfl, rfl, Nat.le_refl _, fun _ _ _ => rfl⟩⟩
  case rest =>
    obtain ⟨w2, rfl, rfl, ks, a, d, F', p1, p2, p3, p4, p5⟩ := hcut
    have sV : V.heap.size = w.heap.size + 2 := by rw [HVV.out]; simp
    have ls := ltB s1
    have hkF : ∀ x, x < V.heap.size → ¬ (x = g ∨ FD x) → w2.heap[x]? = V.heap[x]? := fun x hx hn => p5.block x hx hn
    have hs2 : w2.heap[sb]? = _ := (hkF sb (ltB hsV) (fun h => h.elim s12 s11)).trans hsV
    have lg := hlw g s7
    have hq0 := (hkF w.heap.size (by omega) (fun h => h.elim (fun e => by omega) (fun e => by have := hlw _ (s5 _ e); omega))).trans hr0
    have hq1 := (hkF (w.heap.size + 1) (by omega) (fun h => h.elim (fun e => by omega) (fun e => by have := hlw _ (s5 _ e); omega))).trans hr1
    have c1 := cellB hs2
    have c2 := frozenB hs2
    have d1 := cellB hq0
    have e1 := cellB hq1
    have e2 := frozenB hq1
    have HPP := hide (And.intro p1 (And.intro p2 (And.intro p3 (And.intro p4 p5))))
    have n1 : ¬ w.heap.size = sb := by omega
    have n2 : ¬ sb = w.heap.size := by omega
    have n3 : ¬ w.heap.size + 1 = sb := by omega
    have n4 : ¬ sb = w.heap.size + 1 := by omega
    clear p1 p2 p3 p4 p5 a1 hkF
    go_wp2
    obtain ⟨p1, p2, p3, p4, p5⟩ := HPP.out
    have hmp1 : mp' ≠ sb := MapG.ne HE.out s1
    have hmp2 : mp' ≠ g := fun e => hF (e ▸ s7)
    have hmp3 : ¬ FD mp' := fun e => hF (s5 _ e)
    have hF'g : ¬ F' g := fun e => (p4 g e).elim s8 (fun e => by omega)
    have hF'm : ¬ F' mp' := fun e => (p4 mp' e).elim hmp3 (fun e => by omega)
    have hF's : ¬ F' sb := fun e => (p4 sb e).elim s11 (fun e => by omega)
    have hF'r : ¬ F' (w.heap.size + 1) := fun e => (p4 _ e).elim (fun e => by have := hlw _ (s5 _ e); omega) (fun e => by omega)
    have sz2 := p5.size
    obtain ⟨w3, hw3⟩ : ∃ w3, w3 = (((w2.setCell ⟨sb, 4, none⟩ (.map (some mp'))).setCell ⟨w.heap.size + 1, 0, none⟩ (.int .u8 rc)).setCell ⟨w.heap.size + 1, 1, none⟩ (.int .u64 ra)).setCell ⟨w.heap.size + 1, 2, none⟩ (.int .u64 rb) := ⟨_, rfl⟩
    have hX : ∀ x, x ≠ sb → x ≠ w.heap.size + 1 → w3.heap[x]? = w2.heap[x]? := fun x h1 h2 => by rw [hw3, heapSetO h2, heapSetO h2, heapSetO h2, heapSetO h1]
    have hsz3 : w3.heap.size = w2.heap.size := by rw [hw3]; simp
    refine bodyPost_ret (v := .agg #[.int .u8 rc, .int .u64 ra, .int .u64 rb]) (by simp [results, Tryz.results134, go_sem, e1]) rfl ⟨rfl, ?_⟩
    rw [← hw3]
    refine ⟨keptL c es' ks a d, fun x => x = sb ∨ x = mp' ∨ x = g ∨ F' x, ⟨ks, a, d, p1, rfl⟩, ⟨⟨mp', g, F', ?_, ?_, p2.kept (hX g (fun e => s12 e.symm) (by omega)), p3.kept (by omega) (fun x hx => hX x (fun e => hF's (e ▸ hx)) (fun e => hF'r (e ▸ hx))), fun x hx => Or.inr (Or.inr (Or.inr hx)), Or.inr (Or.inl rfl), Or.inr (Or.inr (Or.inl rfl)), hF'g, hF'm, hmp2, hF's, s12, fun e => hmp1 e.symm⟩, Or.inl rfl, fun x hx => ?_⟩, ?_, fun x hx => ?_⟩
    · rw [hw3, heapSetO n4, heapSetO n4, heapSetO n4]
      show (w2.setCell ⟨sb, 4, none⟩ (.map (some mp'))).heap[sb]? = some (.cells #[.int .i32 st, .int .u32 0, .int .u64 c.time, .int .u64 c.blk, .map (some mp'), .pointer (some ⟨g, 0, none⟩), .int .u64 c.adm] 130)
      simpa using heapSet hs2 4 (.map (some mp'))
    · exact MapG.kept HE.out (((hX mp' hmp1 (by omega)).trans (p5.block mp' (by omega) (fun h => h.elim hmp2 hmp3))).trans (HKV.out.block mp' hml (fun h => h)))
    · rw [hsz3]
      rcases hx with h | h | h | h
      · rw [h]; omega
      · rw [h]; omega
      · rw [h]; omega
      · exact p3.lt x h
    · have k0 : Keep F w w2 := (HKV.out.mono (fun _ h _ => h.elim)).then p5 (fun i hi h => h.elim (fun e => e ▸ s7) (s5 i))
      rw [hw3]
      exact (((k0.set (Or.inl HH.out.own) _ _).set (Or.inr (by omega)) _ _).set (Or.inr (by omega)) _ _).set (Or.inr (by omega)) _ _
    · rcases hx with h | h | h | h
      · exact Or.inl (h ▸ HH.out.own)
      · exact Or.inr (Or.inr h)
      · exact Or.inl (h ▸ s7)
      · rcases p4 x h with h | h
        · exact Or.inl (s5 x h)
        · exact Or.inr (Or.inl (by omega))
end Go.Proofs.YtnlgndpcddngoaaGreatDoor

namespace Go.Proofs.YtnlgndpcddngoaaGreatDoor
open Go.RowKit Go.Maps
variable [dK] [iK]

theorem aheadM_res (q : Qt) (blk : Int) (hq : q.ok) (hb : 0 ≤ blk) (hle : q.kd ≠ 1 → q.lv ≤ q.x) : Res blk q (aheadM q blk) := by
  have hk := aheadM_ok q blk hq hb
  have hlv := hq.lv
  have hxx := hq.x
  have e : q.lv ≤ orNever (q.lv + blk) ∧ orNever (q.lv + blk) ≤ q.lv + blk := by unfold orNever; split <;> omega
  refine ⟨hk, ?_, ?_, ?_, ?_, ?_, ?_⟩ <;> unfold aheadM <;> split <;> first | rfl | skip
  · exact e.1
  · rename_i hkd
    have := hle hkd
    show q.lv ≤ if orNever (q.lv + blk) < q.x then orNever (q.lv + blk) else q.x
    split <;> omega
  · exact e.2
  · show (if orNever (q.lv + blk) < q.x then orNever (q.lv + blk) else q.x) ≤ q.lv + blk
    split <;> omega
/-- What is let in turns a quota so. -/
theorem admQ_facts (z : Qt) (now n : Int) (hz : z.ok) (hn : 0 ≤ n) (h2 : (admQ z now n).2.c = 2) : (admQ z now n).1.kd = z.kd ∧ (admQ z now n).1.x = z.x ∧ (admQ z now n).1.y = z.y ∧ ((admQ z now n).1.kd ≠ 1 → (admQ z now n).1.lv ≤ (admQ z now n).1.x) ∧ ((admQ z now n).1.wn = z.wn → z.lv ≤ (admQ z now n).1.lv) ∧ (z.kd ≠ 1 → (admQ z now n).1.wn = now / z.y) := by
  have hx := hz.x
  unfold admQ at h2 ⊢
  by_cases hk : z.kd = 1
  · rw [if_pos hk] at h2 ⊢
    unfold admS at h2 ⊢
    split at h2
    · rename_i h0
      rw [if_pos h0]
      exact ⟨rfl, rfl, rfl, fun h => absurd hk h, fun _ => Int.le_refl _, fun h => absurd hk h⟩
    · rename_i h0
      rw [if_neg h0]
      split at h2
      · simp at h2
      · rename_i h1
        rw [if_neg h1]
        split at h2
        · simp at h2
        · rename_i h3
          rw [if_neg h3]
          split at h2
          · simp at h2
          · rename_i h4
            rw [if_neg h4]
            refine ⟨rfl, rfl, rfl, fun h => absurd hk h, fun _ => ?_, fun h => absurd hk h⟩
            show z.lv ≤ startM z now + n * z.x
            have h5 : z.lv ≤ startM z now := by unfold startM; split <;> omega
            have h6 : 0 ≤ n * z.x := Int.mul_nonneg hn hx.1
            omega
  · rw [if_neg hk] at h2 ⊢
    have hT : (turnM z now).kd = z.kd ∧ (turnM z now).x = z.x ∧ (turnM z now).y = z.y ∧ ((turnM z now).wn = z.wn → (turnM z now).lv = z.lv) ∧ (turnM z now).wn = now / z.y := by
      unfold turnM
      rw [if_neg hk]
      split
      · rename_i h
        exact ⟨rfl, rfl, rfl, fun _ => rfl, h.symm⟩
      · rename_i h
        exact ⟨rfl, rfl, rfl, fun e => absurd e h, rfl⟩
    unfold admW at h2 ⊢
    split at h2
    · rename_i h0
      rw [if_pos h0]
      refine ⟨hT.1, hT.2.1, hT.2.2.1, fun _ => h0, fun e => ?_, fun _ => hT.2.2.2.2⟩
      have := hT.2.2.2.1 e
      show z.lv ≤ (turnM z now).lv + n
      omega
    · split at h2 <;> simp at h2
end Go.Proofs.YtnlgndpcddngoaaGreatDoor

namespace Go.Proofs.YtnlgndpcddngoaaGreatDoor
open Go.RowKit Go.Maps
variable [dK] [iK]

/-- What was let in: when, and how many. -/
abbrev Lt := List (Int × Int)
def sumN : Lt → Int
  | [] => 0
  | p :: r => p.2 + sumN r
/-- What was let in within a window. -/
def sumW (y w : Int) : Lt → Int
  | [] => 0
  | p :: r => (if p.1 / y = w then p.2 else 0) + sumW y w r
theorem sumN_app : ∀ (a b : Lt), sumN (a ++ b) = sumN a + sumN b
  | [], b => by simp [sumN]
  | p :: r, b => by simp only [List.cons_append, sumN]; rw [sumN_app r b]; omega
theorem sumW_app (y w : Int) : ∀ (a b : Lt), sumW y w (a ++ b) = sumW y w a + sumW y w b
  | [], b => by simp [sumW]
  | p :: r, b => by simp only [List.cons_append, sumW]; rw [sumW_app y w r b]; omega
theorem sumN_pos : ∀ (l : Lt), (∀ p ∈ l, 0 ≤ p.2) → 0 ≤ sumN l
  | [], _ => by simp [sumN]
  | p :: r, h => by
    have h1 := h p (by simp)
    have h2 := sumN_pos r (fun q hq => h q (by simp [hq]))
    simp only [sumN]
    omega
theorem sumW_pos (y w : Int) : ∀ (l : Lt), (∀ p ∈ l, 0 ≤ p.2) → 0 ≤ sumW y w l
  | [], _ => by simp [sumW]
  | p :: r, h => by
    have h1 := h p (by simp)
    have h2 := sumW_pos y w r (fun q hq => h q (by simp [hq]))
    simp only [sumW]
    split <;> omega
theorem sumW_drop (y w : Int) (l : Lt) (h : ∀ p ∈ l, 0 ≤ p.2) (i : Nat) : sumW y w (l.drop i) ≤ sumW y w l := by
  have e : sumW y w l = sumW y w (l.take i) + sumW y w (l.drop i) := by rw [← sumW_app, List.take_append_drop]
  have := sumW_pos y w (l.take i) (fun p hp => h p (List.mem_of_mem_take hp))
  omega

/-- How a key stands that let these in. -/
structure Bnd (kd x y : Int) (l : Lt) (T : Int) (z : Qt) : Prop where
  ok : z.ok
  ekd : z.kd = kd
  ex : z.x = x
  ey : z.y = y
  pos : ∀ p ∈ l, 0 < p.2
  wlo : kd = 2 → z.wn ≤ T / y
  wlv : kd = 2 → sumW y z.wn l ≤ z.lv
  wx : kd = 2 → ∀ w, sumW y w l ≤ x
  wup : kd = 2 → ∀ w, z.wn < w → sumW y w l = 0
  slo : kd = 1 → ∀ i, i < l.length → (l.getD i (0, 0)).1 + x * sumN (l.drop i) ≤ z.lv
  sx : kd = 1 → ∀ i k, i ≤ k → k < l.length → x * sumN ((l.drop i).take (k + 1 - i)) ≤ (l.getD k (0, 0)).1 - (l.getD i (0, 0)).1 + y + x
theorem Bnd.start {kd x y : Int} (h : (⟨kd, x, y, 0, 0⟩ : Qt).ok) (hx : 0 ≤ x) (T : Int) (hT : 0 ≤ T) (hy : kd = 2 → 0 < y) : Bnd kd x y [] T ⟨kd, x, y, 0, 0⟩ := by
  refine ⟨h, rfl, rfl, rfl, fun p hp => (by cases hp), fun hk => ?_, fun _ => by simp [sumW], fun _ w => by simpa [sumW] using hx, fun _ w _ => by simp [sumW], fun _ i hi => by simp at hi, fun _ i k _ hk => by simp at hk⟩
  exact Int.ediv_nonneg hT (by have := hy hk; omega)
/-- Time goes on. -/
theorem Bnd.pass {kd x y : Int} {l : Lt} {T T' : Int} {z : Qt} (h : Bnd kd x y l T z) (ht : T ≤ T') (hy : kd = 2 → 0 < y) : Bnd kd x y l T' z :=
  ⟨h.ok, h.ekd, h.ex, h.ey, h.pos, fun hk => Int.le_trans (h.wlo hk) (Int.ediv_le_ediv (hy hk) ht), h.wlv, h.wx, h.wup, h.slo, h.sx⟩
/-- The power fails. -/
theorem Bnd.lose {kd x y blk : Int} {l : Lt} {T T' : Int} {z hd : Qt} (h : Bnd kd x y l T z) (hr : Res blk z hd) (hw : hd.kd = 2 → hd.wn ≤ T' / hd.y) (_hb : 0 ≤ blk) : Bnd kd x y l T' hd := by
  have hlo := hr.lo
  refine ⟨hr.ok, hr.kd.trans h.ekd, hr.x.trans h.ex, hr.y.trans h.ey, h.pos, fun hk => ?_, fun hk => ?_, h.wx, fun hk w hw' => ?_, fun hk i hi => Int.le_trans (h.slo hk i hi) hlo, h.sx⟩
  · have e : hd.y = y := hr.y.trans h.ey
    have := hw ((hr.kd.trans h.ekd).trans hk)
    rw [e] at this
    exact this
  · rw [hr.wn]
    exact Int.le_trans (h.wlv hk) hlo
  · exact h.wup hk w (by rw [hr.wn] at hw'; exact hw')
/-- Something is let in. -/
theorem Bnd.adm_ {kd x y : Int} {l : Lt} {T n : Int} {z : Qt} (h : Bnd kd x y l T z) (hT : 0 ≤ T ∧ T ≤ 18446744073709551615) (hn : 0 < n) (h2 : (admQ z T n).2.c = 2) : Bnd kd x y (l ++ [(T, n)]) T (admQ z T n).1 := by
  have hf := admQ_facts z T n h.ok (by omega) h2
  obtain ⟨f1, f2, f3, f4, f5, f6⟩ := hf
  have hok := (admQ_ok z T n h.ok hT.1 hT.2 (by omega)).1
  have hpos : ∀ p ∈ l ++ [(T, n)], 0 < p.2 := fun p hp => by
    rcases List.mem_append.1 hp with h' | h'
    · exact h.pos p h'
    · rw [List.mem_singleton.1 h']; exact hn
  have hkd : (admQ z T n).1.kd = kd := f1.trans h.ekd
  by_cases hk : kd = 1
  · have hz1 : z.kd = 1 := h.ekd.trans hk
    have hk2 : kd ≠ 2 := by omega
    have hx0 := h.ok.x.1
    have hnz : ¬ n = 0 := by omega
    obtain ⟨st, hst⟩ : ∃ st, st = startM z T := ⟨_, rfl⟩
    have s1 : z.lv ≤ st ∧ T ≤ st := by rw [hst]; unfold startM; split <;> omega
    have hlv : (admQ z T n).1.lv = st + n * x ∧ st + (n - 1) * x ≤ T + y := by
      rw [hst, ← h.ex, ← h.ey]
      unfold admQ at h2 ⊢
      rw [if_pos hz1] at h2 ⊢
      unfold admS at h2 ⊢
      rw [if_neg hnz] at h2 ⊢
      split at h2
      · simp at h2
      · rename_i g1
        rw [if_neg g1]
        split at h2
        · simp at h2
        · rename_i g2
          rw [if_neg g2]
          split at h2
          · simp at h2
          · rename_i g3
            rw [if_neg g3]
            refine ⟨rfl, ?_⟩
            have : orNever (T + z.y) ≤ T + z.y := by unfold orNever; split <;> omega
            omega
    have hnx : n * x = (n - 1) * x + x := by rw [Int.sub_mul]; omega
    have hxm : x * n = n * x := Int.mul_comm _ _
    have hlast : ∀ i, i < (l ++ [(T, n)]).length → ((l ++ [(T, n)]).getD i (0, 0)).1 + x * sumN ((l ++ [(T, n)]).drop i) ≤ st + n * x := fun i hi => by
      rw [List.length_append] at hi
      by_cases hil : i < l.length
      · have h1 := h.slo hk i hil
        have e1 : (l ++ [(T, n)]).getD i (0, 0) = l.getD i (0, 0) := by simp [List.getD, List.getElem?_append_left hil]
        have e2 : (l ++ [(T, n)]).drop i = l.drop i ++ [(T, n)] := List.drop_append_of_le_length (by omega)
        rw [e1, e2, sumN_app, Int.mul_add]
        show _ + (_ + x * (n + 0)) ≤ _
        rw [Int.add_zero]
        omega
      · have e : i = l.length := by simp at hi; omega
        subst e
        have e1 : (l ++ [(T, n)]).getD l.length (0, 0) = (T, n) := by simp [List.getD]
        have e2 : (l ++ [(T, n)]).drop l.length = [(T, n)] := by simp
        rw [e1, e2]
        show T + x * (n + 0) ≤ _
        rw [Int.add_zero]
        omega
    refine ⟨hok, hkd, f2.trans h.ex, f3.trans h.ey, hpos, fun h' => absurd h' hk2, fun h' => absurd h' hk2, fun h' => absurd h' hk2, fun h' => absurd h' hk2, fun _ i hi => by rw [hlv.1]; exact hlast i hi, fun _ i k hik hkl => ?_⟩
    rw [List.length_append] at hkl
    by_cases hkl' : k < l.length
    · have h1 := h.sx hk i k hik hkl'
      have e1 : (l ++ [(T, n)]).getD i (0, 0) = l.getD i (0, 0) := by simp [List.getD, List.getElem?_append_left (show i < l.length by omega)]
      have e3 : (l ++ [(T, n)]).getD k (0, 0) = l.getD k (0, 0) := by simp [List.getD, List.getElem?_append_left hkl']
      have e2 : ((l ++ [(T, n)]).drop i).take (k + 1 - i) = (l.drop i).take (k + 1 - i) := by
        rw [List.drop_append_of_le_length (by omega), List.take_append_of_le_length (by simp; omega)]
      rw [e1, e2, e3]
      exact h1
    · have e : k = l.length := by simp at hkl; omega
      subst e
      have h1 := hlast i (by rw [List.length_append]; simp; omega)
      have e3 : (l ++ [(T, n)]).getD l.length (0, 0) = (T, n) := by simp [List.getD]
      have e2 : ((l ++ [(T, n)]).drop i).take (l.length + 1 - i) = (l ++ [(T, n)]).drop i := List.take_of_length_le (by simp)
      rw [e3, e2]
      have := hlv.2
      show x * sumN ((l ++ [(T, n)]).drop i) ≤ T - _ + y + x
      omega
  · have hk2 : z.kd ≠ 1 := by rw [h.ekd]; exact hk
    have hwn := f6 hk2
    rw [h.ey] at hwn
    have hkk : ∀ p : Prop, (kd = 2 → p) → kd = 2 → p := fun _ h => h
    have hlvx := f4 (by rw [f1]; exact hk2)
    have hlv : (admQ z T n).1.lv = (turnM z T).lv + n := by
      unfold admQ at h2 ⊢
      rw [if_neg hk2] at h2 ⊢
      unfold admW at h2 ⊢
      split at h2
      · rename_i g
        rw [if_pos g]
      · split at h2 <;> simp at h2
    have hsw : ∀ w, sumW y w (l ++ [(T, n)]) = sumW y w l + if T / y = w then n else 0 := fun w => by
      rw [sumW_app]
      simp only [sumW]
      omega
    have hS : kd = 2 → sumW y (T / y) l ≤ (turnM z T).lv := fun h' => by
      unfold turnM
      rw [if_neg hk2, h.ey]
      split
      · rename_i g
        rw [g]
        exact h.wlv h'
      · rename_i g
        have := h.wlo h'
        rw [h.wup h' (T / y) (by omega)]
        exact Int.le_refl _
    have hlv2 : kd = 2 → sumW y (T / y) (l ++ [(T, n)]) ≤ (admQ z T n).1.lv := fun h' => by
      have := hS h'
      rw [hsw, if_pos rfl, hlv]
      omega
    refine ⟨hok, hkd, f2.trans h.ex, f3.trans h.ey, hpos, fun h' => by rw [hwn]; exact Int.le_refl _, fun h' => by rw [hwn]; exact hlv2 h', fun h' w => ?_, fun h' w hw => ?_, fun h' => absurd h' hk, fun h' => absurd h' hk⟩
    · by_cases e : T / y = w
      · subst e
        have h1 := hlv2 h'
        rw [f2, h.ex] at hlvx
        omega
      · rw [hsw, if_neg e]
        have := h.wx h' w
        omega
    · rw [hwn] at hw
      have := h.wlo h'
      rw [hsw, if_neg (by omega), h.wup h' w (by omega)]
      rfl
end Go.Proofs.YtnlgndpcddngoaaGreatDoor

namespace Go.Proofs.YtnlgndpcddngoaaGreatDoor
open Go.RowKit Go.Maps
variable [dK] [iK]

def qClk : Rq := ⟨6, 0, 0, 0, 0, 0, 0, 0, 0, 0, 0, 0, 0⟩
theorem reads_clk : Reads qClk := by
  intro t
  have e : Rq.enc qClk = [1, 6] := rfl
  have eE : rdErr (Rq.enc qClk ++ t) = 0 := by
    rw [e]; simp [rdErr, reqLen]; omega
  have eQ := rdQ_5 (Rq.enc qClk ++ t) eE (by rw [e]; exact Or.inr rfl)
  refine ⟨eE, ?_, ?_⟩
  · unfold rdN; rw [if_pos eE, e]; simp
  · rw [eQ, e]; rfl
theorem do_clk (L : Ld) : doM L qClk = (L, ⟨1, L.time, 0⟩) := by
  unfold doM qClk
  rw [if_neg (by simp), if_neg (by simp), if_neg (by simp), if_neg (by simp), if_pos rfl]
/-- What a ledger with that key says to an Admit, and what time it has then. -/
theorem play_reckon (T A at_ n : Int) (z : Qt) (hn : 0 ≤ n ∧ n ≤ 18446744073709551615) :
    feedM ⟨T, A, [(kK, z)]⟩ ⟨[], false⟩ at_ (encQs [qAdm n, qClk]) = (⟨if T < at_ then at_ else T, if (admM z (if T < at_ then at_ else T) n).2.c = 2 then (A + n) % 18446744073709551616 else A, [(kK, (admM z (if T < at_ then at_ else T) n).1)]⟩, ⟨[], false⟩, [(admM z (if T < at_ then at_ else T) n).2, ⟨1, if T < at_ then at_ else T, 0⟩]) := by
  have e : encQs [qAdm n, qClk] = (qAdm n).enc ++ (qClk.enc ++ []) := by simp [encQs]
  have hp : passM ⟨T, A, [(kK, z)]⟩ at_ = ⟨if T < at_ then at_ else T, A, [(kK, z)]⟩ := rfl
  rw [feedM_good _ _ _ _ rfl, List.nil_append, e, hp, runL_enc _ (qAdm n) (reads_adm 107 n hn), do_adm, runL_enc _ qClk reads_clk, do_clk, runL_nil]
  rfl
/-- A ledger that has one key, and no other. -/
theorem one_key {L : Ld} (hL : L.ok) {h : Qt} (h1 : fnd kK L.ks = some h) (h2 : ∀ k, k ≠ kK → fnd k L.ks = none) : L.ks = [(kK, h)] := by
  have hall : ∀ p ∈ L.ks, p.1 = kK := fun p hp => by
    by_cases e : p.1 = kK
    · exact e
    · have := h2 p.1 e
      have h3 : ∀ (l : List (Ky × Qt)), p ∈ l → fnd p.1 l ≠ none := fun l => by
        induction l with
        | nil => intro h; cases h
        | cons a r ih =>
          intro hm
          unfold fnd
          by_cases e' : a.1 = p.1
          · rw [if_pos e']; simp
          · rw [if_neg e']
            rcases List.mem_cons.1 hm with h' | h'
            · rw [h'] at e'; exact absurd rfl e'
            · exact ih h'
      exact absurd this (h3 _ hp)
  have hnd := hL.nd
  match hk : L.ks with
  | [] => rw [hk] at h1; simp [fnd] at h1
  | [(k, q)] =>
    have e := hall (k, q) (by rw [hk]; simp)
    simp at e
    subst e
    rw [hk] at h1
    simp [fnd] at h1
    rw [h1]
  | p :: p' :: r =>
    have e1 := hall p (by rw [hk]; simp)
    have e2 := hall p' (by rw [hk]; simp)
    rw [hk] at hnd
    simp [e1, e2] at hnd
/-- What is let in at an ask, or nothing. -/
def letM (z : Qt) (T n : Int) : Lt := if (admM z T n).2.c = 2 ∧ 0 < n then [(T, n)] else []
theorem Bnd.ask {kd x y : Int} {l : Lt} {T n : Int} {z : Qt} (h : Bnd kd x y l T z) (hT : 0 ≤ T ∧ T ≤ 18446744073709551615) (hn : 0 ≤ n) : Bnd kd x y (l ++ letM z T n) T (admM z T n).1 := by
  unfold letM
  by_cases h2 : (admQ z T n).2.c = 2 ∧ n ≠ 0
  · have e : (admM z T n).1 = (admQ z T n).1 := by unfold admM; rw [if_pos h2]
    have e2 : (admM z T n).2 = (admQ z T n).2 := rfl
    rw [e, e2, if_pos ⟨h2.1, by omega⟩]
    exact h.adm_ hT (by omega) h2.1
  · have e : (admM z T n).1 = z := by unfold admM; rw [if_neg h2]
    have e2 : (admM z T n).2 = (admQ z T n).2 := rfl
    rw [e, e2, if_neg (fun h' => h2 ⟨h'.1, by omega⟩), List.append_nil]
    exact h
end Go.Proofs.YtnlgndpcddngoaaGreatDoor

namespace Go.Proofs.YtnlgndpcddngoaaGreatDoor
open Go.RowKit
variable [dK] [iK]

/-- A reply with more behind it, read. -/
theorem rp_back (r : Rp) (h1 : 1 ≤ r.c) (h9 : r.c ≤ 9) (ha : 0 ≤ r.a ∧ r.a ≤ 18446744073709551615) (hb : 0 ≤ r.b ∧ r.b ≤ 18446744073709551615) (t : List Int) :
    rpErr (encRep r.c r.a r.b ++ t) = 0 ∧ rpN (encRep r.c r.a r.b ++ t) = 18 ∧ rpQ (encRep r.c r.a r.b ++ t) = r := by
  have e0 : encRep r.c r.a r.b ++ t = 17 :: r.c :: (be8 r.a ++ (be8 r.b ++ t)) := by simp [encRep]
  have hl : (encRep r.c r.a r.b ++ t).length = 18 + t.length := by rw [List.length_append]; rfl
  have hE : rpErr (encRep r.c r.a r.b ++ t) = 0 := by
    rw [e0]
    simp only [rpErr]
    rw [if_neg (by omega), if_pos (by unfold repLen; rw [if_neg (by omega)]), if_neg]
    rw [← e0, hl]; omega
  refine ⟨hE, by unfold rpN; rw [if_pos hE], ?_⟩
  unfold rpQ
  rw [if_pos hE]
  have hc : (encRep r.c r.a r.b ++ t).getD 1 0 = r.c := by rw [e0]; rfl
  have hA : num8 (encRep r.c r.a r.b ++ t) 2 = r.a := by
    rw [e0]
    refine Eq.trans ?_ (rd_be8 r.a ha.1 ha.2)
    unfold num8
    simp [rdTo, be8, List.getD]
  have hB : num8 (encRep r.c r.a r.b ++ t) 10 = r.b := by
    rw [e0]
    refine Eq.trans ?_ (rd_be8 r.b hb.1 hb.2)
    unfold num8
    simp [rdTo, be8, List.getD]
  rw [hc, hA, hB]
end Go.Proofs.YtnlgndpcddngoaaGreatDoor

namespace Go.Proofs.YtnlgndpcddngoaaGreatDoor
open Go.RowKit
variable [dK] [iK]

theorem Tryz.info40 : (Tryz.prog.info? 40).map (fun i => (i.zero, i.size, i.bytes)) = some (some (.agg #[.int .u8 0, .int .u64 0, .int .u64 0]), 3, 24) := by kernel_rfl
def rpc (r : Rp) : List Value := [.int .u8 r.c, .int .u64 r.a, .int .u64 r.b]
def rpcs (rs : List Rp) : List Value := rs.flatMap rpc
structure Rp.told (r : Rp) : Prop where
  c1 : 1 ≤ r.c
  c9 : r.c ≤ 9
  a : 0 ≤ r.a ∧ r.a ≤ 18446744073709551615
  b : 0 ≤ r.b ∧ r.b ≤ 18446744073709551615
theorem encs_bytes (rs : List Rp) (h : ∀ r ∈ rs, r.told) : Bytes (encs rs) := by
  intro x hx
  unfold encs at hx
  obtain ⟨r, hr, hx⟩ := List.mem_flatMap.1 hx
  have ht := h r hr
  have hb : ∀ (v : Int) x, x ∈ be8 v → 0 ≤ x ∧ x ≤ 255 := by
    intro v x hx
    simp only [be8, List.mem_cons, List.not_mem_nil, or_false] at hx
    rcases hx with rfl | rfl | rfl | rfl | rfl | rfl | rfl | rfl <;> exact nb_range v _
  simp only [encRep, List.mem_append, List.mem_cons, List.not_mem_nil, or_false] at hx
  have := ht.c1
  have := ht.c9
  rcases hx with (hx | hx) | hx
  · omega
  · exact hb _ _ hx
  · exact hb _ _ hx

set_option maxRecDepth 100000 in
set_option maxHeartbeats 4000000 in
theorem replies23 (s : ByteArray) (rs : List Rp) (w : World) (hs : numsOf s = encs rs) (hok : ∀ r ∈ rs, r.told) (hlen : rs.length ≤ 1000) (hgl : w.cell? ⟨0, 0, none⟩ = some (.iface 236 (.agg #[.pointer (some ⟨5, 97, none⟩)]))) :
    Calls Tryz.prog 27 #[.string s] w fun e w' => ∃ v, e = .returned (.tuple #[v, .bool true]) ∧ w'.ownsRow w.heap.size 40 3 v rs.length (rpcs rs) ∧ Below w.heap.size w w' := by
  have hbs := fun (w : World) (s : ByteArray) => run_bytes_of_string (P := Tryz.prog) w 9 76 5 s Tryz.underlying9 Tryz.underlying76 Tryz.underlying5
  obtain ⟨i0, hi, hz0, hz1, hz2⟩ := info_parts Tryz.info40
  have hlt0 : 0 < w.heap.size := by
    rcases Nat.eq_zero_or_pos w.heap.size with h0 | h
    · simp [World.cell?, h0] at hgl
    · exact h
  have HG := hide hgl
  have HS := hide hs
  have HOK := hide hok
  clear hgl hs hok
  go_enter Tryz.func27, Tryz.ntmps27
  go_wp2
  have hcap := grownCap_ge w s.size 0 5
  go_loopw [4, 5, 6, 7, 8] (fun s4 s5 _ _ _ wr => ∃ i : Nat, i ≤ rs.length ∧ Sl wr s5 (encs (rs.drop i)) ∧ wr.ownsRow w.heap.size 40 3 s4 i (rpcs (rs.take i)) ∧ Below w.heap.size w wr ∧ (∀ g o n c, s5 = .slice (some ⟨g, o, none⟩) n c → g < wr.heap.size ∧ s4.ownBlock ≠ some g)) (fun _ s5 _ _ _ _ => sliceLen s5)
  case atStart =>
    refine ⟨0, Nat.zero_le _, ?_, World.ownsRow_nil _ _ _ _, ((Below.refl _ w).alloc (Nat.le_refl _) _).drew, fun g o n c h => ⟨?_, by simp [Value.ownBlock]⟩⟩
    · rw [List.drop_zero, ← HS.out]
      exact Sl.of_bytes w s _ (by simpa using hcap)
    · injection h with h1 _ _; injection h1 with h1; injection h1 with h1 _; subst h1; simp
  case round =>
    obtain ⟨i, hi', hsl, hown, hb, hg4⟩ := hrel
    have hwr := hb.size
    by_cases hlt : i < rs.length
    · obtain ⟨r, hr⟩ : ∃ r, r = rs[i] := ⟨_, rfl⟩
      have htold : r.told := hr ▸ HOK.out _ (List.getElem_mem hlt)
      have hdr : encs (rs.drop i) = encRep r.c r.a r.b ++ encs (rs.drop (i + 1)) := by
        rw [List.drop_eq_getElem_cons hlt, ← hr]; rfl
      obtain ⟨bk1, bk2, bk3⟩ := rp_back r htold.c1 htold.c9 htold.a htold.b (encs (rs.drop (i + 1)))
      rw [← hdr] at bk1 bk2 bk3
      have hle : (encs (rs.drop i)).length = 18 + (encs (rs.drop (i + 1))).length := by rw [hdr, List.length_append]; rfl
      have hle2 : (encs (rs.drop i)).length ≤ 18000 := by rw [encs_length, List.length_drop]; omega
      have hbt : Bytes (encs (rs.drop i)) := encs_bytes _ (fun x hx => HOK.out x (List.mem_of_mem_drop hx))
      rcases hsl with ⟨hnil, _⟩ | ⟨hp, g, o, c, hv, hc, hg, hcell⟩
      · rw [hnil] at hle; simp at hle; omega
      subst hv
      have hg4' := hg4 g o _ c rfl
      have hsrc : Src wr (.slice (some ⟨g, o, none⟩) (encs (rs.drop i)).length c) (encs (rs.drop i)) := Sl.src (Or.inr ⟨hp, g, o, c, rfl, hc, hg, hcell⟩)
      have h39 := read17 _ (encs (rs.drop i)) wr hsrc (by omega) hbt.getD r bk3.symm 18 0 bk2.symm bk1.symm ((hb.cell (p := ⟨0, 0, none⟩) hlt0).trans HG.out)
      obtain ⟨n, hn⟩ : ∃ n, n = (encs (rs.drop i)).length := ⟨_, rfl⟩
      rw [← hn] at h39 hle hle2 hp hc ⊢
      have HN := hide hn
      have HD := hide hdr
      have HR := hide hr
      have HCE := hide hcell
      have hn18 : 18 ≤ n := by omega
      have hn18' : (18 : Int) ≤ (n : Int) := by omega
      have hnpos : 0 < n := by omega
      have hnposI : (0 : Int) < (n : Int) := by omega
      have H39 := hide h39
      have HLE := hide hle
      have hn2 : (n : Int) ≤ 18000 := by omega
      clear hle hle2
      have HO := hide hown
      have HSR := hide hsrc
      clear hn hdr hr bk1 bk2 bk3 hbt h39 hown hsrc hg4 hcell
      go_wp2_with fail
      refine H39.out.mono ?_
      rintro e w2 ⟨rfl, hb2⟩
      have hs2 := hb2.size
      clear hbs
      obtain ⟨W, hW⟩ : ∃ W, W = (w2.alloc (.cells #[.int .u8 r.c, .int .u64 r.a, .int .u64 r.b] 40)).alloc (.cells #[.int .u8 r.c, .int .u64 r.a, .int .u64 r.b] 40) := ⟨_, rfl⟩
      have hWk : ∀ z, z < w2.heap.size → W.heap[z]? = w2.heap[z]? := fun z hz => by rw [hW, heapOld _ _ (by simp; omega), heapOld _ _ hz]
      have hWs : W.heap.size = w2.heap.size + 2 := by rw [hW]; simp
      have HOW : Hid (W.ownsRow w.heap.size 40 3 u4 i (rpcs (rs.take i))) := hide (own_keptE HO.out (fun z hz => (hWk z (Nat.lt_of_lt_of_le (own_ltE HO.out hz).2 hs2)).trans (hb2.block z (own_ltE HO.out hz).2)))
      have HCL : Hid (∀ j u, (rpc r)[j]? = some u → W.cell? ((⟨w2.heap.size + 1, 0, none⟩ : Addr).add j) = some u) := hide (fun j u hj => by
        rw [Addr.add_lit, Nat.zero_add, hW, cellB (heapN (by simp)) j, ← hj]
        simp [rpc])
      have HBW : Hid (Below w.heap.size w W) := hide (by rw [hW]; exact ((hb.trans (hb2.mono hwr)).alloc (by omega) _).alloc (by simp; omega) _)
      have HWK := hide hWk
      have HWS := hide hWs
      clear hWk hWs
      go_wp2_with (at_builtin; (rw [← hW]; refine wpList_append_own_at _ rfl _ _ 73 rfl w.heap.size 40 i0 (.agg #[.int .u8 0, .int .u64 0, .int .u64 0]) 3 24 Tryz.underlying73 hi hz0 hz1 hz2 rfl (by decide) u4 i (rpcs (rs.take i)) rfl HOW.out ⟨w2.heap.size + 1, 0, none⟩ 1 1 (rpc r) rfl rfl HCL.out (by simp [rpc, Value.oneCell']) (by unfold maxLen; omega) (by omega) HBW.out.size ?_; intro v5 w4 hown4 hgr4 hnil4 hloc4; clear hW))
      have hgl4 : g < w2.heap.size := Nat.lt_of_lt_of_le hg4'.1 hs2
      have hk4 : w4.heap[g]? = wr.heap[g]? := (hgr4.block g (by rw [HWS.out]; omega) (fun e => hg4'.2 e.symm)).trans ((HWK.out g hgl4).trans (hb2.block g hg4'.1))
      have hwl := HBW.out.size
      have hwl4 := hgr4.size
      have hB4 : Below w.heap.size w w4 := ⟨hgr4.os.trans HBW.out.os, hgr4.tape.trans HBW.out.tape, hgr4.output.trans HBW.out.output, Nat.le_trans hwl hwl4, fun k hk => (hgr4.block k (by omega) (fun e => by have := (own_ltE HO.out e.symm).1; omega)).trans (HBW.out.block k hk)⟩
      have hnl : n - 18 = (encs (rs.drop (i + 1))).length := by have := HLE.out; omega
      go_roundw
      case rel =>
        refine ⟨i + 1, hlt, ?_, ?_, hB4, fun g' o' n' c' h => ?_⟩
        · by_cases h0 : n - 18 = 0
          · refine Or.inl ⟨List.length_eq_zero_iff.1 (hnl.symm.trans h0), Or.inr ?_⟩
            rw [h0]
            split
            · exact ⟨_, _, _, rfl⟩
            · exact ⟨_, _, _, rfl⟩
          · rw [if_neg (by omega)]
            refine Or.inr ⟨by omega, g, o + 18, c - 18, by rw [hnl], by omega, by rw [HWS.out] at hwl4; omega, fun j hj => ?_⟩
            have hj2 : 18 + j < (encs (rs.drop i)).length := by have := HN.out; omega
            rw [World.cell?_of_block (w := wr) hk4, Nat.add_assoc, HCE.out (18 + j) hj2, HD.out]
            congr 2
            simp only [List.getD]
            rw [List.getElem?_append_right (by simp [encRep, be8])]
            simp [encRep, be8]
        · have ht : rpcs (rs.take (i + 1)) = rpcs (rs.take i) ++ rpc r := by
            have htk : rs.take (i + 1) = rs.take i ++ [rs[i]] := by rw [List.take_add_one, List.getElem?_eq_getElem hlt]; rfl
            rw [htk, HR.out]
            unfold rpcs
            rw [List.flatMap_append]
            simp only [List.flatMap_cons, List.flatMap_nil, List.append_nil]
          rw [ht]
          exact hown4
        · have e : g' = g := by
            split at h <;> (injection h with h1 _ _; injection h1 with h1; injection h1 with h1 _; exact h1.symm)
          subst e
          refine ⟨by rw [HWS.out] at hwl4; omega, fun e => ?_⟩
          rcases hloc4 with h4 | h4
          · exact hg4'.2 (h4 ▸ e)
          · rw [h4, HWS.out] at e
            injection e with e
            omega
      case measure =>
        simp only [sliceLen]
        omega
    · obtain rfl : i = rs.length := by omega
      rw [List.drop_of_length_le (Nat.le_refl _)] at hsl
      rw [List.take_of_length_le (Nat.le_refl _)] at hown
      have HO := hide hown
      obtain ⟨ya, yc, hyw⟩ := own_sliceE hown
      subst hyw
      clear hbs hown hg4
      rcases hsl with ⟨_, rfl | ⟨g, o, c, rfl⟩⟩ | ⟨hp, _⟩
      · go_wp2
        go_ret2
        exact ⟨_, rfl, HO.out, hb⟩
      · go_wp2
        go_ret2
        exact ⟨_, rfl, HO.out, hb⟩
      · simp [encs] at hp
end Go.Proofs.YtnlgndpcddngoaaGreatDoor
