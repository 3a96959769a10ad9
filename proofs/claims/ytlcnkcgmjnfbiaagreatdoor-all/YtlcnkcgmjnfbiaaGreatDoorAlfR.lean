import Derived.Test.YtlcnkcgmjnfbiaaGreatDoorZ24
set_option linter.all false
set_option maxRecDepth 100000
namespace Go.Proofs.YtlcnkcgmjnfbiaaGreatDoor
open Go.Proofs.Tryz
open Go.ChangeShapes Go.WideShapes Go.ChangeAt Go.RowKit
open Go.WideMaps Go.WideElems
variable [dK] [iK]
theorem alf_k10:(Rows.allRow.inPlace==Tryz.pinned.checked.prog.inPlace 4)=true:=by kernel_rfl
theorem alf_k11:(Rows.allRow.unfollowed==Tryz.pinned.checked.prog.unfollowed 4)=true:=by kernel_rfl
theorem alf_k12:(Rows.allRow.recurses==Tryz.pinned.checked.prog.recurses 4)=true:=by kernel_rfl
theorem alf_k13:(Rows.allRow.named==Tryz.pinned.checked.prog.varsNamed 4)=true:=by kernel_rfl
theorem alf_closed:joinedFacts Tryz.pinned.checked.prog 4 Tryz.f4 (OpenSpec.ofChange Rows.allSpec).bare Rows.allRow=true:=by
 unfold joinedFacts;rw [alf_k10,alf_k11,alf_k12,alf_k13];kernel_rfl
end Go.Proofs.YtlcnkcgmjnfbiaaGreatDoor
