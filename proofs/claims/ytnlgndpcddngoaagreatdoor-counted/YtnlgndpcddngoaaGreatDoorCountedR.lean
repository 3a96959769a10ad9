import Derived.Test.YtnlgndpcddngoaaGreatDoorZ24
set_option linter.all false
set_option maxRecDepth 100000
namespace Go.Proofs.YtnlgndpcddngoaaGreatDoor
open Go.Proofs.Tryz
open Go.ChangeShapes Go.WideShapes Go.ChangeAt Go.RowKit
open Go.WideMaps Go.WideElems
variable [dK] [iK]
theorem counted_k10:(Rows.countedRow.inPlace==Tryz.pinned.checked.prog.inPlace 3)=true:=by kernel_rfl
theorem counted_k11:(Rows.countedRow.unfollowed==Tryz.pinned.checked.prog.unfollowed 3)=true:=by kernel_rfl
theorem counted_k12:(Rows.countedRow.recurses==Tryz.pinned.checked.prog.recurses 3)=true:=by kernel_rfl
theorem counted_k13:(Rows.countedRow.named==Tryz.pinned.checked.prog.varsNamed 3)=true:=by kernel_rfl
theorem counted_closed:joinedFacts Tryz.pinned.checked.prog 3 Tryz.f3 (OpenSpec.ofChange Rows.countedSpec).bare Rows.countedRow=true:=by
 unfold joinedFacts;rw [counted_k10,counted_k11,counted_k12,counted_k13];kernel_rfl
end Go.Proofs.YtnlgndpcddngoaaGreatDoor
