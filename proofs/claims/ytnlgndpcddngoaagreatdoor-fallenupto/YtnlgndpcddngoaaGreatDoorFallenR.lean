import Derived.Test.YtnlgndpcddngoaaGreatDoorZ24
set_option linter.all false
set_option maxRecDepth 100000
namespace Go.Proofs.YtnlgndpcddngoaaGreatDoor
open Go.Proofs.Tryz
open Go.ChangeShapes Go.WideShapes Go.ChangeAt Go.RowKit
open Go.WideMaps Go.WideElems
variable [dK] [iK]
theorem sI:(Rows.fallenUptoRow.inPlace==Tryz.pinned.checked.prog.inPlace 5)=true:=by kernel_rfl
theorem sJ:(Rows.fallenUptoRow.unfollowed==Tryz.pinned.checked.prog.unfollowed 5)=true:=by kernel_rfl
theorem sL:(Rows.fallenUptoRow.recurses==Tryz.pinned.checked.prog.recurses 5)=true:=by kernel_rfl
theorem sM:(Rows.fallenUptoRow.named==Tryz.pinned.checked.prog.varsNamed 5)=true:=by kernel_rfl
theorem mx:joinedFacts Tryz.pinned.checked.prog 5 Tryz.f5 (Rows.OpenSpec.upto Rows.fallenSpec).bare Rows.fallenUptoRow=true:=by
 unfold joinedFacts;rw [sI,sJ,sL,sM];kernel_rfl
end Go.Proofs.YtnlgndpcddngoaaGreatDoor
