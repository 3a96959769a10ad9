import Derived.Test.YtlamgpeiolfffaaGreatDoorZy46
set_option linter.unusedSectionVars false
namespace Go.Proofs.YtlamgpeiolfffaaGreatDoor
open Go.ChangeShapes Go.WideShapes Go.ChangeAt Go.RowKit
open Go.WideMaps Go.WideElems
section
variable [dK] [iK]

set_option maxRecDepth 100000 in
theorem counted_contract (H : Type) (enc : TypeId × Value → H) (W : World) (base : Nat) (args : Array Value) (ds gs : List (DataW H)) (before : List MemPlace)
    (hval : ∀ (j : Nat) t v, Tryz.f3.params[j]? = some t → args[j]? = some v → Value.okWide Tryz.prog W .any base t v)
    (hW : DataW.Whole enc Tryz.prog Tryz.f3.params.toList Rows.countedSpec.vars false W args.toList ds gs before) (hk : Rows.uptoSmall H (ds ++ gs) = true) :
    Calls Tryz.prog 3 args W fun e W' => ∃ v, e = .returned v ∧ Rows.countedSpec.post enc Tryz.prog Tryz.f3 false true false false W args v W' := by
  have hW' := hW
  obtain ⟨p, q, hA0, hV, rfl, hfz, hnd⟩ := hW
  have hA : DataW.TrodAll enc Tryz.prog W 0 (fun _ => true) true Tryz.f3.params.toList args.toList ds p := hA0
  rw [Tryz.params3] at hA hval
  obtain ⟨v0, v1, d0, d1, p0, p1, rfl, rfl, rfl, h0, h1⟩ := trodAll_two hA
  obtain ⟨rfl, rfl⟩ := trodVars_none hV
  obtain ⟨ao, n, cap, rfl, hnc, hnb, sps, hsl, hsp, hsc⟩ := open_steps (hval 0 22 v0 rfl rfl) h0
  obtain ⟨k1, rfl, rfl, rfl, w1⟩ := open_int Tryz.underlying23 (hval 1 23 v1 rfl rfl) h1
  have hbk : Rows.uptoBulk d0 ≤ 1048576 := by
    have h2 := of_decide_eq_true hk
    have h3 := bulk_mem (d := d0) (l := [d0, .lit (.int .u64 k1)] ++ []) (by simp)
    exact Nat.le_trans h3 h2
  clear hA0
  simp only [List.append_nil] at hW'
  have hlt : ∀ x ∈ p0, x.block < W.heap.size := fun x hx => by simpa using hW'.lt x (by simp [hx])
  refine (counted3 ao n cap sps k1 W hsl hnc (by omega) (fun p hp => ⟨by have := (hsp p hp).2.1; omega, by have := (hsp p hp).2.2; omega⟩) (fun p hp => (hsp p hp).1) hsc).mono fun e W' ⟨he, hbe⟩ => ?_
  subst he
  have e1 : Rows.countedSpec.fn H ([d0, .lit (.int .u64 k1)] ++ []) = { results := [.lit (.bool true)], args := [d0, .lit (.int .u64 k1)] } := by simp [Rows.countedSpec]
  refine ⟨_, rfl, _, _, _, [], p0 ++ ([] ++ []), [], hW', ?_, ?_, ?_, hbe.frame _, fun h => by cases h⟩
  · rw [e1]; exact trodAll_mk1 (shut_bool Tryz.underlying4 true)
  · rw [e1]; exact trodAll_mk2 (Below.trod Tryz.laidOut (by kernel_rfl) (of_decide_eq_true (by kernel_rfl)) h0 hbe hlt) (shut_int Tryz.underlying23 w1)
  · rw [e1]; rfl

set_option maxRecDepth 100000 in
/-- There is an input that fits: the settled world, the variable's cell laid. -/
theorem counted_fits (os : Os) (H : Type) (enc : TypeId × Value → H) : ∃ w0 : World, w0.os = os ∧ (w0.forCall (fun _ _ => 0) ⟨#[], #[.slice none 0 0, .int .u64 0], []⟩).variablesB Tryz.prog = true ∧
    ((w0.forCall (fun _ _ => 0) ⟨#[], #[.slice none 0 0, .int .u64 0], []⟩).heap.toList.drop Tryz.prog.globals.size).take ((begin Tryz.prog (fun _ _ => 0) default).world.heap.size - Tryz.prog.globals.size) = (begin Tryz.prog (fun _ _ => 0) default).world.heap.toList.drop Tryz.prog.globals.size ∧
    Input.okWideB Tryz.prog (w0.forCall (fun _ _ => 0) ⟨#[], #[.slice none 0 0, .int .u64 0], []⟩) 3 ⟨#[], #[.slice none 0 0, .int .u64 0], []⟩ = true ∧
    (Rows.OpenSpec.upto Rows.countedSpec).preRow enc Tryz.prog Tryz.f3 Rows.countedUptoRow.domain false Rows.countedUptoRow.laid (w0.forCall (fun _ _ => 0) ⟨#[], #[.slice none 0 0, .int .u64 0], []⟩).memory #[.slice none 0 0, .int .u64 0] := by
  refine ⟨{ World.holding Tryz.prog os ⟨#[], #[], []⟩ with heap := (World.holding Tryz.prog os ⟨#[], #[], []⟩).heap.modify 0 fun | .cells _ t frozen => .cells #[.iface 201 (.agg #[.pointer (some ⟨1, 88, none⟩)])] t frozen | o => o }, rfl, by kernel_rfl, by kernel_rfl, by kernel_rfl, ?_⟩
  exact OpenSpec.preRow_of_cond 8 (x := ([.nil, .lit (.int .u64 0)], [], []))
    (by kernel_rfl) (by kernel_rfl) (fun k hk => by cases hk; kernel_rfl) (by kernel_rfl) (laidMetH_of_parts (laidMet_nil _ _) (by kernel_rfl))

set_option maxRecDepth 100000 in
theorem counted_lifted (os : Os) (started : os.Started) (H : Type) (enc : TypeId × Value → H) (F : Stop.Interp) :
    ReturnsInHanded {} Tryz.checked os 3 .any ((Rows.OpenSpec.upto Rows.countedSpec).preRow enc Tryz.prog Tryz.f3 Rows.countedUptoRow.domain false Rows.countedUptoRow.laid) (((Rows.OpenSpec.upto Rows.countedSpec).at F).post enc Tryz.prog Tryz.f3 false true false false) := by
  obtain ⟨w0, f1, f2, f3, f4, f5⟩ := counted_fits os H enc
  refine returnsInHanded_of_row (C := Tryz.checked) (s := Rows.OpenSpec.upto Rows.countedSpec) Tryz.own started (by kernel_rfl) Tryz.func3 (witness_row_at (enc := enc) (C := Tryz.checked) false w0 #[.slice none 0 0, .int .u64 0] f1 f2 f3 f4 f5) ?_
  intro W base args ds gs before hval hW _ hcond _ _ _ _
  exact counted_contract H enc W base args ds gs before hval hW (hcond _ rfl)

theorem counted_said : Rows.CountedUptoSaid :=
  OpenClaim.holds_of_cond 3 Tryz.f3 rfl rfl rfl rfl rfl rfl rfl ⟨rfl, rfl, rfl, rfl, rfl⟩ rfl rfl rfl rfl rfl (by kernel_rfl) Tryz.func3 (by kernel_rfl)
    (of_decide_eq_true (by kernel_rfl)) (by unfold Func.isWrapper; rw [if_neg (of_decide_eq_false (by kernel_rfl))]; exact ⟨rfl, rfl⟩)
    (fun os started H enc _ F => by rw [OpenClaim.pre_eq_preRow]; exact counted_lifted os started H enc F)

theorem counted_plain (f : FuncId) (fn : Func) (hf : Tryz.pinned.checked.prog.funcNamed Rows.countedUptoRow.func = some f) (hfn : Tryz.pinned.checked.prog.funcs[f]? = some fn) :
    true = Tryz.pinned.checked.prog.looks [] ∧ ∀ (j : Nat) t, fn.params[j]? = some t → Tryz.pinned.checked.prog.wantsStandIn t = false := by
  obtain rfl : f = 3 := Option.some.inj ((show Tryz.prog.funcNamed Rows.countedUptoRow.func = some 3 by kernel_rfl).symm.trans hf) |>.symm
  obtain rfl : fn = Tryz.f3 := (Option.some.inj (Tryz.func3.symm.trans hfn)).symm
  refine ⟨by kernel_rfl, fun j t ht => ?_⟩
  rw [Tryz.params3] at ht
  have hm : t = 22 ∨ t = 23 := by simpa using Array.mem_of_getElem? ht
  rcases hm with rfl | rfl
  · exact (show Tryz.prog.wantsStandIn 22 = false by kernel_rfl)
  · exact (show Tryz.prog.wantsStandIn 23 = false by kernel_rfl)

theorem counted_card0 : Rows.CountedUptoCardSaid :=
  Claim7.holds_tied_plain_at .later [] _ _ _ _ counted_said (fun _ h => by cases h) (by kernel_rfl) (fun _ h => by cases h) countedUpto_row_tie rfl ⟨rfl, rfl⟩ (by kernel_rfl) rfl counted_plain (by kernel_rfl)
end
def kyDec (a b : Ky) : Decidable (a = b) := decidable_of_iff (a.k0 = b.k0 ∧ a.k1 = b.k1 ∧ a.k2 = b.k2 ∧ a.k3 = b.k3 ∧ a.k4 = b.k4 ∧ a.k5 = b.k5 ∧ a.k6 = b.k6 ∧ a.k7 = b.k7) (by cases a; cases b; simp)
theorem counted_card : Rows.CountedUptoCardSaid := @counted_card0 kyDec ⟨⟨0, 0, 0, 0, 0, 0, 0, 0⟩⟩
#print axioms counted_card
end Go.Proofs.YtlamgpeiolfffaaGreatDoor
