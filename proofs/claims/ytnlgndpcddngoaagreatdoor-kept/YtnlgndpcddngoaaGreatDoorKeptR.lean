import Derived.Test.YtnlgndpcddngoaaGreatDoorZ24
set_option linter.all false
set_option maxRecDepth 100000
namespace Go.Proofs.YtnlgndpcddngoaaGreatDoor
open Go.Proofs.Tryz
open Go.ChangeShapes Go.WideShapes Go.ChangeAt Go.RowKit
open Go.WideMaps Go.WideElems
variable [dK] [iK]
theorem kept_k10:(Rows.keptRow.inPlace==Tryz.pinned.checked.prog.inPlace 4)=true:=by kernel_rfl
theorem kept_k11:(Rows.keptRow.unfollowed==Tryz.pinned.checked.prog.unfollowed 4)=true:=by kernel_rfl
theorem kept_k12:(Rows.keptRow.recurses==Tryz.pinned.checked.prog.recurses 4)=true:=by kernel_rfl
theorem kept_k13:(Rows.keptRow.named==Tryz.pinned.checked.prog.varsNamed 4)=true:=by kernel_rfl
theorem kept_closed:joinedFacts Tryz.pinned.checked.prog 4 Tryz.f4 (OpenSpec.ofChange Rows.keptSpec).bare Rows.keptRow=true:=by
 unfold joinedFacts;rw [kept_k10,kept_k11,kept_k12,kept_k13];kernel_rfl
end Go.Proofs.YtnlgndpcddngoaaGreatDoor
