import Derived.Test.YtnlgndpcddngoaaGreatDoorZ24
set_option linter.all false
set_option maxRecDepth 100000
namespace Go.Proofs.YtnlgndpcddngoaaGreatDoor
open Go.Proofs.Tryz
open Go.ChangeShapes Go.WideShapes Go.ChangeAt Go.RowKit
open Go.WideMaps Go.WideElems
variable [dK] [iK]
theorem sI:(Rows.fallenRow.inPlace==Tryz.pinned.checked.prog.inPlace 5)=true:=by kernel_rfl
theorem sJ:(Rows.fallenRow.unfollowed==Tryz.pinned.checked.prog.unfollowed 5)=true:=by kernel_rfl
theorem sL:(Rows.fallenRow.recurses==Tryz.pinned.checked.prog.recurses 5)=true:=by kernel_rfl
theorem sM:(Rows.fallenRow.named==Tryz.pinned.checked.prog.varsNamed 5)=true:=by kernel_rfl
theorem mx:joinedFacts Tryz.pinned.checked.prog 5 Tryz.f5 (OpenSpec.ofChange Rows.fallenSpec).bare Rows.fallenRow=true:=by
 unfold joinedFacts;rw [sI,sJ,sL,sM];kernel_rfl
end Go.Proofs.YtnlgndpcddngoaaGreatDoor
