import Derived.Test.YtlcnkcgmjnfbiaaGreatDoorZd30
import Derived.Test.YtlcnkcgmjnfbiaaGreatDoorZd26
import Derived.Test.YtlcnkcgmjnfbiaaGreatDoorZd29
import Derived.Deep.DeepCutAuto
set_option linter.unusedSectionVars false
namespace Go.Proofs.YtlcnkcgmjnfbiaaGreatDoor
open Go.RowKit Go.Maps
variable [dK] [iK]

set_option maxRecDepth 100000 in
set_option maxHeartbeats 1000000 in
/-- Sync, with nothing pending. -/
theorem sync258e (db : Nat) (m0 m1 : Value) (l f : Int) (w : World) (hd : w.heap[db]? = some (.cells #[m0, m1, .slice none 0 0, .int .i64 l, .int .i64 f, .bool false] 84)) (hl : -9223372036854775808 < l ∧ l < 0) (hf : -9223372036854775808 < f ∧ f < 0) :
    Calls Tryz.prog 276 #[.pointer (some ⟨db, 0, none⟩)] w fun e w' => e = .returned .nilIface ∧ w'.heap[db]? = some (.cells #[m0, m1, .slice none 0 0, .int .i64 (l - 1), .int .i64 (f - 1), .bool false] 84) ∧ Keep (fun c => c = db) w w' := by
  have HW := hide (writes262 db _ _ _ l f w hd hl hf)
  clear hl hf
  go_enter Tryz.func276, Tryz.ntmps276
  go_wp2_with fail
  refine HW.out.mono ?_
  rintro e w1 ⟨rfl, hd1, hk1⟩
  have a1 := cellB hd1
  have a2 := frozenB hd1
  have HK1 := hide hk1
  clear hk1
  go_wp2_with fail
  refine wp_loop_rounds 1 ?_
  rw [rounds_succ]
  go_wp2
  go_ret
  exact ⟨rfl, by simpa using heapSet hd1 2 (.slice none 0 0), Keep.set (S := fun c => c = db) (b := db) HK1.out (Or.inl rfl) _ _⟩

set_option maxRecDepth 100000 in
set_option maxHeartbeats 1000000 in
/-- A file is read. -/
theorem read256 (db nb : Nat) (c0 c2 c3 c4 : Value) (fs : Fs) (b : Bool) (p : Nat × ByteArray) (w : World) (hd : w.heap[db]? = some (.cells #[c0, .map (some nb), c2, c3, c4, .bool false] 84)) (hD : DirAt w nb fs) (hf : fndG b fs = some p) :
    Calls Tryz.prog 274 #[.pointer (some ⟨db, 0, none⟩), .string (nameB b)] w fun e w' => ∃ cap, e = .returned (.tuple #[.slice (some ⟨w.heap.size, 0, none⟩) p.2.size cap, .nilIface]) ∧ Sl w' (.slice (some ⟨w.heap.size, 0, none⟩) p.2.size cap) (numsOf p.2) ∧ p.2.size ≤ cap ∧ w.heap.size < w'.heap.size ∧ Below w.heap.size w w' := by
  have hbs := fun (w : World) (s : ByteArray) => run_bytes_of_string (P := Tryz.prog) w 9 48 5 s Tryz.underlying9 Tryz.underlying48 Tryz.underlying5
  have hlk : (Instr.lookup 81 (.map (some nb)) (.string (nameB b)) true).run Tryz.prog w = .ok (.tuple #[.pointer (some ⟨p.1, 0, none⟩), .bool true]) w := by
    have := MapG.look mname (w := w) hD.map (k := b) trivial Tryz.underlying81 (zeroP _)
    rw [hf] at this
    exact this
  have hs := hD.str _ (fndG_mem hf)
  have c1 := cellB hs
  have a1 := cellB hd
  obtain ⟨s, hse⟩ : ∃ s, s = p.2 := ⟨_, rfl⟩
  obtain ⟨x, hx⟩ : ∃ x, x = p.1 := ⟨_, rfl⟩
  rw [← hx] at hlk c1
  rw [← hse] at c1 ⊢
  clear hD hf hs hse hx
  go_enter Tryz.func274, Tryz.ntmps274
  go_wp2
  obtain ⟨D, hD⟩ : ∃ D, D = grownCap w s.size 0 5 := ⟨_, rfl⟩
  have hDs : s.size ≤ D := by rw [hD]; simpa using grownCap_ge w s.size 0 5
  rw [← hD]
  go_ret2
  exact ⟨D, rfl, Sl.of_bytes w s D hDs, hDs, by simp, ((Below.refl _ w).alloc (Nat.le_refl _) _).drew⟩

set_option maxRecDepth 100000 in
theorem behind_up (o : Int) (w : World) (_h0 : 0 ≤ o ∧ o ≤ 18446744073709551615) : Calls Tryz.prog 176 #[.int .u64 (nextT o), .int .u64 o] w fun e w' => e = .returned (.bool true) ∧ w' = w := by
  have u1 : IntKind.u64.wrap (nextT o - o) = 1 := by unfold nextT; rw [IntKind.wrap_u64]; omega
  obtain ⟨t, ht⟩ : ∃ t, t = nextT o := ⟨_, rfl⟩
  rw [← ht] at u1 ⊢
  clear ht _h0
  go_enter Tryz.func176, Tryz.ntmps176
  go_wp2
  go_ret
  exact ⟨rfl, rfl⟩
set_option maxRecDepth 100000 in
theorem behind_dn (o : Int) (w : World) (_h0 : 0 ≤ o ∧ o ≤ 18446744073709551615) : Calls Tryz.prog 176 #[.int .u64 o, .int .u64 (nextT o)] w fun e w' => e = .returned (.bool false) ∧ w' = w := by
  have u1 : IntKind.u64.wrap (o - nextT o) = 18446744073709551615 := by unfold nextT; rw [IntKind.wrap_u64]; omega
  obtain ⟨t, ht⟩ : ∃ t, t = nextT o := ⟨_, rfl⟩
  rw [← ht] at u1 ⊢
  clear ht _h0
  go_enter Tryz.func176, Tryz.ntmps176
  go_wp2
  go_ret
  exact ⟨by kernel_rfl, rfl⟩

set_option maxRecDepth 100000 in
set_option maxHeartbeats 1000000 in
theorem latest_one (g c : Nat) (t m : Int) (va : Option Addr) (vn vc : Nat) (w : World) (hg : g < w.heap.size) (h0 : w.cell? ⟨g, 0, none⟩ = some (.int .u64 t)) (h1 : w.cell? ⟨g, 1, none⟩ = some (.int .u64 m)) (h2 : w.cell? ⟨g, 2, none⟩ = some (.slice va vn vc)) :
    Calls Tryz.prog 152 #[.slice (some ⟨g, 0, none⟩) 1 c] w fun e w' => e = .returned (.agg #[.int .u64 t, .int .u64 m, .slice va vn vc]) ∧ Below w.heap.size w w' := by
  go_enter Tryz.func152, Tryz.ntmps152
  go_wp2
  refine wp_loop_rounds 2 ?_
  rw [rounds_succ]
  go_wp2
  rw [rounds_succ]
  go_wp2
  refine bodyPost_ret (v := .agg #[.int .u64 t, .int .u64 m, .slice va vn vc]) (by simp [results, Tryz.results152, go_sem]) rfl ⟨rfl, ?_⟩
  exact (((Below.refl _ w).alloc (Nat.le_refl _) _).alloc (by simp) _).alloc (by simp; omega) _

set_option maxRecDepth 100000 in
set_option maxHeartbeats 1000000 in
theorem latest_two (g c : Nat) (t m t1 m1 : Int) (va ua : Option Addr) (vn vc un uc : Nat) (b : Bool) (w : World) (hg : g < w.heap.size) (h0 : w.cell? ⟨g, 0, none⟩ = some (.int .u64 t)) (h1 : w.cell? ⟨g, 1, none⟩ = some (.int .u64 m)) (h2 : w.cell? ⟨g, 2, none⟩ = some (.slice va vn vc)) (h3 : w.cell? ⟨g, 3, none⟩ = some (.int .u64 t1)) (h4 : w.cell? ⟨g, 4, none⟩ = some (.int .u64 m1)) (h5 : w.cell? ⟨g, 5, none⟩ = some (.slice ua un uc))
    (hb : ∀ w, Calls Tryz.prog 176 #[.int .u64 t1, .int .u64 t] w fun e w' => e = .returned (.bool b) ∧ w' = w) :
    Calls Tryz.prog 152 #[.slice (some ⟨g, 0, none⟩) 2 c] w fun e w' => e = .returned (if b then .agg #[.int .u64 t1, .int .u64 m1, .slice ua un uc] else .agg #[.int .u64 t, .int .u64 m, .slice va vn vc]) ∧ Below w.heap.size w w' := by
  have HB := hide hb
  clear hb
  have hg1 : g < w.heap.size + 1 := by omega
  have hg2 : g < w.heap.size + 1 + 1 := by omega
  have hg3 : g < w.heap.size + 1 + 1 + 1 := by omega
  cases b
  · go_enter Tryz.func152, Tryz.ntmps152
    go_wp2
    refine wp_loop_rounds 3 ?_
    rw [rounds_succ]
    go_wp2
    rw [rounds_succ]
    go_wp2_with (go_at_call 176; refine (HB.out _).mono ?_; rintro e w' ⟨rfl, rfl⟩)
    rw [rounds_succ]
    go_wp2
    refine bodyPost_ret (v := .agg #[.int .u64 t, .int .u64 m, .slice va vn vc]) (by simp [results, Tryz.results152, go_sem]) rfl ⟨rfl, ?_⟩
    exact ((((Below.refl _ w).alloc (Nat.le_refl _) _).alloc (by simp) _).alloc (by simp; omega) _).alloc (by simp; omega) _
  · go_enter Tryz.func152, Tryz.ntmps152
    go_wp2
    refine wp_loop_rounds 3 ?_
    rw [rounds_succ]
    go_wp2
    rw [rounds_succ]
    go_wp2_with (go_at_call 176; refine (HB.out _).mono ?_; rintro e w' ⟨rfl, rfl⟩)
    rw [rounds_succ]
    go_wp2
    refine bodyPost_ret (v := .agg #[.int .u64 t1, .int .u64 m1, .slice ua un uc]) (by simp [results, Tryz.results152, go_sem]) rfl ⟨rfl, ?_⟩
    exact ((((Below.refl _ w).alloc (Nat.le_refl _) _).alloc (by simp) _).alloc (by simp; omega) _).alloc (by simp; omega) _
end Go.Proofs.YtlcnkcgmjnfbiaaGreatDoor

namespace Go.Proofs.YtlcnkcgmjnfbiaaGreatDoor
open Go.RowKit Go.Maps
variable [dK] [iK]

/-- The files are these images. -/
def Files (fs : Fs) (im : Bool → Option Ig) : Prop := ∀ b, (fndG b fs).map Prod.snd = (im b).map (fun i => strOfNums i.bytes) ∧ ∀ i, im b = some i → i.ok ∧ (i.turn % 2 == 1) = b
/-- The images of the first so many names. -/
def imgsTo (im : Bool → Option Ig) : Nat → List Ig
  | 0 => []
  | 1 => (im false).toList
  | _ => (im false).toList ++ (im true).toList
theorem imgsTo_succ (im : Bool → Option Ig) (j : Nat) (hj : j < 2) (b : Bool) (hb : b = ((j : Int) % 2 == 1)) : imgsTo im (j + 1) = imgsTo im j ++ (im b).toList := by
  match j, hj with
  | 0, _ => subst hb; rfl
  | 1, _ => subst hb; rfl
theorem imgsTo_len (im : Bool → Option Ig) (j : Nat) : (imgsTo im j).length ≤ 2 := by
  match j with
  | 0 => simp [imgsTo]
  | 1 => cases h : im false <;> simp [imgsTo, h]
  | n + 2 => cases h : im false <;> cases h' : im true <;> simp [imgsTo, h, h']
def irow (l : List (Ig × Value)) : List Value := l.flatMap fun p => [.int .u64 p.1.turn, .int .u64 p.1.time, p.2]
theorem irow_snoc (l : List (Ig × Value)) (p : Ig × Value) : irow (l ++ [p]) = irow l ++ [.int .u64 p.1.turn, .int .u64 p.1.time, p.2] := by
  unfold irow
  rw [List.flatMap_append]
  simp
theorem Tryz.infoImg : (Tryz.prog.info? 167).map (fun i => (i.zero, i.size, i.bytes)) = some (some (.agg #[.int .u64 0, .int .u64 0, .slice none 0 0]), 3, 40) := by kernel_rfl
theorem cells3i_new (w : World) (a b c : Value) (t : TypeId) : ∀ j u, ([a, b, c] : List Value)[j]? = some u → (w.alloc (.cells #[a, b, c] t)).cell? ((⟨w.heap.size, 0, none⟩ : Addr).add j) = some u := by
  intro j u hj
  rw [Addr.add_lit, Nat.zero_add, World.cell?_alloc_at _ _ _ _ rfl]
  match j, hj with
  | 0, hj => exact hj
  | 1, hj => exact hj
  | 2, hj => exact hj
  | j + 3, hj => simp at hj
theorem NmAt.kept {w w' : World} {v : Value} {bs : List Bool} (h : NmAt w v bs) (hk : ∀ g, v.ownBlock = some g → w'.heap[g]? = w.heap[g]?) : NmAt w' v bs := by
  obtain ⟨a, c, rfl, h⟩ := h
  refine ⟨a, c, rfl, h.imp id ?_⟩
  rintro ⟨g, rfl, hc⟩
  exact ⟨g, rfl, fun j hj => (World.cell?_of_block (w := w) (hk g rfl)).trans (hc j hj)⟩

/-- While the files are read: those that came, as images. -/
structure LsI (w w1 wr : World) (g : Nat) (im : Bool → Option Ig) (j : Nat) (vW : Value) (l : List (Ig × Value)) : Prop where
  lst : l.map Prod.fst = imgsTo im j
  own : wr.ownsRow w1.heap.size 167 3 vW l.length (irow l)
  rcs : ∀ p ∈ l, ∃ a c, p.2 = .slice a p.1.ks.length c ∧ wr.ownsRow w.heap.size 173 13 p.2 p.1.ks.length (rrow p.1.es p.1.ks)
  tab : TabPost w1 wr g 1
end Go.Proofs.YtlcnkcgmjnfbiaaGreatDoor

namespace Go.Proofs.YtlcnkcgmjnfbiaaGreatDoor
open Go.RowKit Go.Maps
variable [dK] [iK]

theorem any_mem (bs : List Bool) (b : Bool) : (bs.any fun y => b == y) = true ↔ b ∈ bs := by
  rw [List.any_eq_true]
  constructor
  · rintro ⟨y, hy, h⟩
    have : b = y := by simpa using h
    exact this ▸ hy
  · intro h
    exact ⟨b, h, by simp⟩

set_option maxRecDepth 100000 in
theorem hasours_some (v : Value) (bs : List Bool) (w : World) (h : NmAt w v bs) (hl : bs.length ≤ 2) (hne : bs ≠ []) : Calls Tryz.prog 148 #[v] w fun e w' => e = .returned (.bool true) ∧ w' = w := by
  have HN0 := hide (name_any 0 w (by omega) (by omega))
  have HN1 := hide (name_any 1 w (by omega) (by omega))
  have C0 := contains146 v bs false w h hl
  have C1 := contains146 v bs true w h hl
  obtain ⟨r0, h0⟩ : ∃ r, r = bs.any (fun y => false == y) := ⟨_, rfl⟩
  obtain ⟨r1, h1⟩ : ∃ r, r = bs.any (fun y => true == y) := ⟨_, rfl⟩
  have h01 : r0 = false → r1 = true := fun e => by
    rw [h1, any_mem]
    rw [e] at h0
    cases bs with
    | nil => exact absurd rfl hne
    | cons x r =>
      cases x
      · exact absurd ((any_mem (false :: r) false).2 (by simp)) (by rw [← h0]; simp)
      · simp
  rw [← h0] at C0
  rw [← h1] at C1
  have HC0 := hide C0
  have HC1 := hide C1
  obtain ⟨a, c, rfl, _⟩ := h
  clear C0 C1 h0 h1 hl hne
  cases r0
  · obtain rfl := h01 rfl
    clear h01
    go_enter Tryz.func148, Tryz.ntmps148
    go_wp2
    refine wp_loop_rounds 3 ?_
    rw [rounds_succ]
    go_wp2_with fail
    refine HN0.out.mono ?_
    rintro e w' ⟨rfl, rfl⟩
    go_wp2_with fail
    refine HC0.out.mono ?_
    rintro e w' ⟨rfl, rfl⟩
    go_wp2_with fail
    rw [rounds_succ]
    go_wp2_with fail
    refine HN1.out.mono ?_
    rintro e w' ⟨rfl, rfl⟩
    go_wp2_with fail
    refine HC1.out.mono ?_
    rintro e w' ⟨rfl, rfl⟩
    go_wp2
    go_ret
    exact ⟨rfl, rfl⟩
  · clear h01
    go_enter Tryz.func148, Tryz.ntmps148
    go_wp2
    refine wp_loop_rounds 3 ?_
    rw [rounds_succ]
    go_wp2_with fail
    refine HN0.out.mono ?_
    rintro e w' ⟨rfl, rfl⟩
    go_wp2_with fail
    refine HC0.out.mono ?_
    rintro e w' ⟨rfl, rfl⟩
    go_wp2
    go_ret
    exact ⟨rfl, rfl⟩

theorem methodRead (h : Value) (w : World) : (Go.method 518 80 h "Read").run Tryz.prog w = .ok (274, h) w := by kernel_rfl
theorem callDR (vs : Array Value) (w : World) : Sem.run Tryz.prog (callFunc 274 vs) w = .ok (.enter 274 vs) w := by simp [go_sem]
/-- Which image is the last. -/
def Best (im : Bool → Option Ig) (i : Ig) : Prop := (im (i.turn % 2 == 1) = some i) ∧ ∀ a, im (!(i.turn % 2 == 1)) = some a → i.turn = nextT a.turn
/-- A slice of names lies in no block that holds something else first. -/
theorem NmAt.ne {w : World} {v : Value} {bs : List Bool} (h : NmAt w v bs) (hb : bs ≠ []) {x : Nat} {u : Value} (hx : w.cell? ⟨x, 0, none⟩ = some u) (hu : ∀ s, u ≠ .string s) : v.ownBlock ≠ some x := by
  obtain ⟨a, c, rfl, h⟩ := h
  rcases h with h | ⟨g, rfl, hc⟩
  · exact absurd h hb
  · intro e
    simp [Value.ownBlock] at e
    subst e
    have := hc 0 (List.length_pos_iff.2 hb)
    rw [hx] at this
    injection this with this
    exact hu _ this
theorem NmAt.lt {w : World} {v : Value} {bs : List Bool} (h : NmAt w v bs) (hb : bs ≠ []) {x : Nat} (hx : v.ownBlock = some x) : x < w.heap.size := by
  obtain ⟨a, c, rfl, h⟩ := h
  rcases h with h | ⟨g, rfl, hc⟩
  · exact absurd h hb
  · simp [Value.ownBlock] at hx
    subst hx
    exact lt_cell (hc 0 (List.length_pos_iff.2 hb))
theorem TabPost.then {a b c : World} {g o : Nat} (h : TabPost a b g o) (h' : TabPost b c g o) : TabPost a c g o :=
  ⟨h'.tab, fun j hj => ⟨(h'.cel j hj).1.trans (h.cel j hj).1, (h'.cel j hj).2.trans (h.cel j hj).2⟩, h.keep.then h'.keep (fun _ _ h => h)⟩
theorem TabPost.of {w w' : World} {g o : Nat} (h : TabOk w g o) (hg : g < w.heap.size) (hk : Keep (fun _ => False) w w') : TabPost w w' g o :=
  ⟨h.block (hk.block g hg (fun h => h)), fun _ _ => ⟨World.cell?_of_block (w := w) (hk.block g hg (fun h => h)), World.frozen?_of_block (w := w) (hk.block g hg (fun h => h))⟩, hk.mono (fun _ h _ => h.elim)⟩
theorem own_disj {w : World} {b1 b2 t1 t2 s1 s2 : Nat} {v1 v2 : Value} {n1 n2 : Nat} {x1 x2 : List Value} (h1 : w.ownsRow b1 t1 s1 v1 n1 x1) (h2 : w.ownsRow b2 t2 s2 v2 n2 x2) (ht : t1 ≠ t2) {x : Nat} (e1 : v1.ownBlock = some x) (e2 : v2.ownBlock = some x) : False := by
  rcases h1.2 with ⟨rfl, _⟩ | ⟨g', cap', cur, rfl, _, hh, _⟩
  · simp [Value.ownBlock] at e1
  · simp [Value.ownBlock] at e1
    subst e1
    rcases h2.2 with ⟨rfl, _⟩ | ⟨g2, cap2, cur2, rfl, _, hh2, _⟩
    · simp [Value.ownBlock] at e2
    · simp [Value.ownBlock] at e2
      subst e2
      rw [hh] at hh2
      injection hh2 with hh2
      injection hh2 with _ hh2 _
      exact ht hh2

/-- Of the images that came the last one is taken. -/
theorem latest149 (base : Nat) (im : Bool → Option Ig) (L : List (Ig × Value)) (vW : Value) (w : World) (hown : w.ownsRow base 167 3 vW L.length (irow L)) (hL : L.map Prod.fst = imgsTo im 2) (hv : ∀ p ∈ L, ∃ a n c, p.2 = .slice a n c) (hok : ∀ b i, im b = some i → i.ok ∧ (i.turn % 2 == 1) = b) (hsome : ∃ b, im b ≠ none) (hrel : ∀ a b, im false = some a → im true = some b → b.turn = nextT a.turn ∨ a.turn = nextT b.turn) :
    Calls Tryz.prog 152 #[vW] w fun e w' => ∃ p ∈ L, Best im p.1 ∧ e = .returned (.agg #[.int .u64 p.1.turn, .int .u64 p.1.time, p.2]) ∧ Below w.heap.size w w' := by
  have one : ∀ (i : Ig) (v : Value), L = [(i, v)] → Best im i → Calls Tryz.prog 152 #[vW] w fun e w' => ∃ p ∈ L, Best im p.1 ∧ e = .returned (.agg #[.int .u64 p.1.turn, .int .u64 p.1.time, p.2]) ∧ Below w.heap.size w w' := fun i v e hB => by
    subst e
    obtain ⟨va, vn, vc, rfl⟩ : ∃ a n c, v = .slice a n c := hv (i, v) (by simp)
    obtain ⟨gb, gc, rfl, _, hlt⟩ := hown.form (by simp)
    have hc : ∀ j, j < 3 → w.cell? ⟨gb, j, none⟩ = ([.int .u64 i.turn, .int .u64 i.time, .slice va vn vc] : List Value)[j]? := fun j hj => hown.cellAt j (by simpa using hj)
    refine (latest_one gb gc i.turn i.time va vn vc w hlt (hc 0 (by omega)) (hc 1 (by omega)) (hc 2 (by omega))).mono ?_
    rintro e w' ⟨rfl, hb⟩
    exact ⟨(i, .slice va vn vc), by simp, hB, rfl, hb⟩
  have hl2 : imgsTo im 2 = (im false).toList ++ (im true).toList := rfl
  rw [hl2] at hL
  cases h0 : im false with
  | none =>
    cases h1 : im true with
    | none =>
      obtain ⟨b, hb⟩ := hsome
      cases b
      · exact absurd h0 hb
      · exact absurd h1 hb
    | some b =>
      rw [h0, h1] at hL
      have hp := (hok true b h1).2
      match L, hL with
      | [(i, v)], hL =>
        have e : i = b := by simpa using hL
        subst e
        exact one i v rfl ⟨by rw [hp]; exact h1, fun a ha => by rw [hp] at ha; rw [show (!true) = false from rfl, h0] at ha; cases ha⟩
  | some a =>
    have hpa := (hok false a h0).2
    cases h1 : im true with
    | none =>
      rw [h0, h1] at hL
      match L, hL with
      | [(i, v)], hL =>
        have e : i = a := by simpa using hL
        subst e
        exact one i v rfl ⟨by rw [hpa]; exact h0, fun x hx => by rw [hpa] at hx; rw [show (!false) = true from rfl, h1] at hx; cases hx⟩
    | some b =>
      have hpb := (hok true b h1).2
      rw [h0, h1] at hL
      match L, hL, hown, hv with
      | [(i, v), (i', v')], hL, hown, hv =>
        obtain ⟨e1, e2⟩ : i = a ∧ i' = b := by simpa using hL
        subst e1 e2
        obtain ⟨va, vn, vc, rfl⟩ : ∃ a n c, v = .slice a n c := hv (i, v) (by simp)
        obtain ⟨ua, un, uc, rfl⟩ : ∃ a n c, v' = .slice a n c := hv (i', v') (by simp)
        obtain ⟨gb, gc, rfl, _, hlt⟩ := hown.form (by simp)
        have hc : ∀ j, j < 6 → w.cell? ⟨gb, j, none⟩ = ([.int .u64 i.turn, .int .u64 i.time, .slice va vn vc, .int .u64 i'.turn, .int .u64 i'.time, .slice ua un uc] : List Value)[j]? := fun j hj => hown.cellAt j (by simpa using hj)
        rcases hrel i i' h0 h1 with h | h
        · refine (latest_two gb gc i.turn i.time i'.turn i'.time va ua vn vc un uc true w hlt (hc 0 (by omega)) (hc 1 (by omega)) (hc 2 (by omega)) (hc 3 (by omega)) (hc 4 (by omega)) (hc 5 (by omega)) (fun w => by rw [h]; exact behind_up i.turn w (hok false i h0).1.turn)).mono ?_
          rintro e w' ⟨rfl, hb⟩
          refine ⟨(i', .slice ua un uc), by simp, ⟨by rw [hpb]; exact h1, fun x hx => ?_⟩, rfl, hb⟩
          rw [hpb, show (!true) = false from rfl, h0] at hx
          cases hx
          exact h
        · refine (latest_two gb gc i.turn i.time i'.turn i'.time va ua vn vc un uc false w hlt (hc 0 (by omega)) (hc 1 (by omega)) (hc 2 (by omega)) (hc 3 (by omega)) (hc 4 (by omega)) (hc 5 (by omega)) (fun w => by rw [h]; exact behind_dn i'.turn w (hok true i' h1).1.turn)).mono ?_
          rintro e w' ⟨rfl, hb⟩
          refine ⟨(i, .slice va vn vc), by simp, ⟨by rw [hpa]; exact h0, fun x hx => ?_⟩, rfl, hb⟩
          rw [hpa, show (!false) = true from rfl, h1] at hx
          cases hx
          exact h
end Go.Proofs.YtlcnkcgmjnfbiaaGreatDoor
