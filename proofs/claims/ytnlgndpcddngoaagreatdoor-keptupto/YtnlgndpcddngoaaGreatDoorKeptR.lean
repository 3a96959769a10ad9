import Derived.Test.YtnlgndpcddngoaaGreatDoorZd00
set_option linter.unusedVariables false
set_option linter.unusedSimpArgs false
set_option maxRecDepth 100000
namespace Go.Proofs.YtnlgndpcddngoaaGreatDoor
open Go.ChangeShapes Go.WideShapes Go.ChangeAt Go.RowKit
open Go.WideMaps Go.WideElems
theorem jiq:(Rows.keptUptoRow.inPlace==Tryz.pinned.checked.prog.inPlace 4)=true:=by kernel_rfl
theorem jii:(Rows.keptUptoRow.unfollowed==Tryz.pinned.checked.prog.unfollowed 4)=true:=by kernel_rfl
theorem jiP:(Rows.keptUptoRow.recurses==Tryz.pinned.checked.prog.recurses 4)=true:=by kernel_rfl
theorem jiY:(Rows.keptUptoRow.named==Tryz.pinned.checked.prog.varsNamed 4)=true:=by kernel_rfl
theorem jeg:joinedFacts Tryz.pinned.checked.prog 4 Tryz.f4 (Rows.OpenSpec.upto Rows.keptSpec).bare Rows.keptUptoRow=true:=by
 unfold joinedFacts
 rw [jiq,jii,jiP,jiY]
 kernel_rfl
end Go.Proofs.YtnlgndpcddngoaaGreatDoor
