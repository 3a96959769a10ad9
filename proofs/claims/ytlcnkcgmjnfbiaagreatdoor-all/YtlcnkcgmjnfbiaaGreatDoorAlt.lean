import Derived.Test.YtlcnkcgmjnfbiaaGreatDoorZ45
set_option linter.all false
set_option maxRecDepth 100000
set_option maxHeartbeats 2000000
namespace Go.Proofs.YtlcnkcgmjnfbiaaGreatDoor
open Go.Proofs.Tryz Go.RowKit Go.Maps
variable [dK] [iK]
theorem gS.up {w w':World}{v:Value}{d:List Rq}(i:gS w v d)(c:B7 w w'):gS w' v d:=by
 obtain⟨e,f,j,k,l⟩:=i;refine⟨e,f,j,k,fun q=>?_⟩
 obtain⟨a,t,g,b,m⟩:=l q;exact⟨a,t,g,ll b c.size,fun r n s o=>(c.cell (p:=⟨a,_,none⟩) b).trans (m r n s o)⟩
end Go.Proofs.YtlcnkcgmjnfbiaaGreatDoor
