import Derived.Test.YtlcnkcgmjnfbiaaGreatDoorAlt
import Derived.Test.YtlcnkcgmjnfbiaaGreatDoorPlw
set_option linter.all false
set_option maxRecDepth 100000
set_option maxHeartbeats 2000000
namespace Go.Proofs.YtlcnkcgmjnfbiaaGreatDoor
open Go.Proofs.Tryz Go.RowKit
variable [dK] [iK]
theorem all3w (k:Option Addr)(n l:Nat)(c:List Sp)(blk:Int)(w:World)(B:c.length=n)(N:n<=l)(Q:n<=140737488355328)(D:∀ p∈c,p.qs.length<=140737488355328/\p.raw.size<=140737488355328)(C:∀ p∈c,p.ok)(u:U7 blk)(r:mi w)
  (y:0<n->∃ b o,k=some ⟨b,o,none⟩/\b<w.heap.size/\∀ i (d:i<c.length),∃ v,(∀ x,x<10->w.cell? ⟨b,o+i * 10+x,none⟩=(pP c[i] v)[x]?)/\gS w v c[i].qs) :
  Calls prog 4 #[.slice k n l,.int .u64 blk] w fun e w'=>e=.returned (.bool true)/\B7 w w':=by
 have K:=bU r;obtain⟨a,f⟩:∃ a,a=w.alloc (.cells #[.int .i64 1,.int .i64 2,.int .i64 3] 3):=⟨_,rfl⟩;have g:B7 w a:=by rw [f];exact ba w
 have t:∀ j (d:j<[(1:Int),2,3].length),a.cell? ⟨w.heap.size,j,none⟩=some (.int .i64 [(1:Int),2,3][j]):=by
  rw [f];intro j d;match j,d with
  | 0,_=>exact ab (ag _ _) 0
  | 1,_=>exact ab (ag _ _) 1
  | 2,_=>exact ab (ag _ _) 2
 have m:a.heap.size=w.heap.size+1:=by rw [f];simp
 have z:0<n->∃ b o,k=some ⟨b,o,none⟩/\b<a.heap.size/\∀ i (d:i<c.length),∃ v,(∀ x,x<10->a.cell? ⟨b,o+i * 10+x,none⟩=(pP c[i] v)[x]?)/\gS a v c[i].qs:=fun O=>by
  obtain⟨b,o,e,J,d⟩:=y O;refine⟨b,o,e,by omega,fun i M=>?_⟩
  obtain⟨v,H,I⟩:=d i M;exact⟨v,fun x P=>(g.cell (p:=⟨b,o+i * 10+x,none⟩) J).trans (H x P),I.up g⟩
 have A:mi a:=bH r K g;have E:=aa (playsJw k n l c blk w.heap.size 3 [1,2,3] (fun q s w=>JX a.heap.size blk q s w/\mi w) (fun q s w=>KX a.heap.size blk q s w/\mi w) a (jf2 a.heap.size blk a (by omega) A (ag_c a.heap.size blk u.1 (by omega))) (by simp) rfl (by omega) B N (by omega) D C t (by omega) u z);have F:=aa g;have G:=aa m;clear t z A r y D C B g m;go_enter func4,ntmps4
 go_wp2_with fail
 rw [<-f];clear f;refine E.out.mono ?_
 rintro e R ⟨rfl,L⟩;go_wp2
 go_ret
 have m:=G.out;exact⟨rfl,F.out.trans (L.mono (by omega))⟩
end Go.Proofs.YtlcnkcgmjnfbiaaGreatDoor
