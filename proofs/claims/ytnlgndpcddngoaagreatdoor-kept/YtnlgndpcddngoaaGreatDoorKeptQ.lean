import Derived.Test.YtnlgndpcddngoaaGreatDoorKeptP
import Derived.Test.YtnlgndpcddngoaaGreatDoorKeptR
set_option linter.all false
set_option maxRecDepth 100000
namespace Go.Proofs.YtnlgndpcddngoaaGreatDoor
open Go.Proofs.Tryz
open Go.ChangeShapes Go.WideShapes Go.ChangeAt Go.RowKit
open Go.WideMaps Go.WideElems
section
variable [dK] [iK]
theorem kept_said:Rows.KeptSaid:=
 OpenClaim.holds_of_cond 4 Tryz.f4 rfl rfl rfl rfl rfl rfl rfl ⟨rfl,rfl,rfl,rfl,rfl⟩ rfl rfl rfl rfl rfl (by kernel_rfl) func4 kept_closed
  (of_decide_eq_true (by kernel_rfl)) (by unfold Func.isWrapper;rw [if_neg (of_decide_eq_false (by kernel_rfl))];exact⟨rfl,rfl⟩)
  (fun d e b c _ a=>by rw [OpenClaim.pre_eq_preRow];exact kept_lifted d e b c a)
theorem kept_plain (f:FuncId)(a:Func)(d:Tryz.pinned.checked.prog.funcNamed Rows.keptRow.func=some f)(e:Tryz.pinned.checked.prog.funcs[f]?=some a) :
  true=Tryz.pinned.checked.prog.looks []/\∀ (c:Nat) t,a.params[c]?=some t->Tryz.pinned.checked.prog.wantsStandIn t=false:=by
 obtain rfl:f=4:=Option.some.inj ((show prog.funcNamed Rows.keptRow.func=some 4 by kernel_rfl).symm.trans d) |>.symm;obtain rfl:a=Tryz.f4:=(Option.some.inj (func4.symm.trans e)).symm;refine⟨by kernel_rfl,fun c t b=>?_⟩
 rw [params4] at b;have g:t=22\/t=23:=by simpa using Array.mem_of_getElem? b
 rcases g with rfl | rfl
 ·exact (show prog.wantsStandIn 22=false by kernel_rfl)
 ·exact (show prog.wantsStandIn 23=false by kernel_rfl)
theorem kept_card0:Rows.KeptCardSaid:=
 Claim7.holds_tied_plain_at .later [] _ _ _ _ kept_said (fun _ a=>by cases a) (by kernel_rfl) (fun _ a=>by cases a) kept_row_tie rfl ⟨rfl,rfl⟩ (by kernel_rfl) rfl kept_plain (by kernel_rfl)
end
def jgf (a b:Ky):Decidable (a=b):=decidable_of_iff (a.k0=b.k0/\a.k1=b.k1/\a.k2=b.k2/\a.k3=b.k3/\a.k4=b.k4/\a.k5=b.k5/\a.k6=b.k6/\a.k7=b.k7) (by cases a;cases b;simp)
theorem kept_card:Rows.KeptCardSaid:=@kept_card0 jgf ⟨⟨0,0,0,0,0,0,0,0⟩⟩
#print axioms kept_card
end Go.Proofs.YtnlgndpcddngoaaGreatDoor
