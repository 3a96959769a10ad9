import Derived.Test.YtlcnkcgmjnfbiaaGreatDoorZ10
set_option linter.all false
set_option maxRecDepth 100000
set_option maxHeartbeats 2000000
namespace Go.Proofs.YtlcnkcgmjnfbiaaGreatDoor
open Go.Proofs.Tryz Go.RowKit
variable [dK] [iK]
theorem small14w (v:Option Addr)(n x:Nat)(d rs:Nat->Nat)(w:World)(U:n<=x)(T:n<=140737488355328)(B:∀ i,i<n->d i<=140737488355328)(C:∀ i,i<n->rs i<=140737488355328)
  (z:0<n->∃ c o,v=some ⟨c,o,none⟩/\c<w.heap.size/\∀ i,i<n->(∃ r s,w.cell? ⟨c,o+i * 10+3,none⟩=some (.slice r (d i) s))/\∃ f:ByteArray,w.cell? ⟨c,o+i * 10+4,none⟩=some (.string f)/\f.size=rs i) :
  Calls prog 41 #[.slice v n x] w fun e w'=>je1 n d rs e/\B7 w w':=by
 have F:=aa z;have H:=aa B;have I:=aa C;clear z B C;go_enter func41,ntmps41
 go_wp2
 go_loopw [3,4] (fun P t wr=>∃ i:Nat,i<=n/\t=.int .i64 i/\P=.int .i64 ((n+lY d rs i:Nat):Int)/\n+lY d rs i<=40000000000000000/\B7 w wr) (fun _ t _=>n - (intOf t).toNat)
 case atStart=>exact⟨0,by omega,rfl,by simp [lY],by simp [lY];omega,Below.refl _ _⟩
 case round=>
  obtain⟨i,R,rfl,rfl,O,g⟩:=hrel;obtain⟨a,l⟩:∃ a,a=n+lY d rs i:=⟨_,rfl⟩;rw [<-l] at O ⊢;have u:=aa l;clear l;by_cases m:i<n
  ·by_cases W:a<=16384
   ·obtain⟨c,o,rfl,y,A⟩:=F.out (by omega);obtain⟨⟨r,s,D⟩,f,E,q⟩:=A i m;have K:wr.cell? ⟨c,o+i * 10+3,none⟩=some (.slice r (d i) s):=(g.cell (p:=⟨c,o+i * 10+3,none⟩) y).trans D;have Q:wr.cell? ⟨c,o+i * 10+4,none⟩=some (.string f):=(g.cell (p:=⟨c,o+i * 10+4,none⟩) y).trans E;obtain⟨b,j⟩:∃ b,b=d i:=⟨_,rfl⟩;rw [<-j] at K;have X:b<=140737488355328:=j▸H.out i m;have V:f.size<=140737488355328:=q▸I.out i m;have J:=aa j;have G:=aa q;have M:(i:Int)<(n:Int):=by omega
    have S:(0:Int)<=(i:Int):=by omega
    have N:(a:Int)<=16384:=by omega
    have Y:IntKind.i64.wrap (26 * (b:Int))=26 * (b:Int):=by rw [IntKind.wrap_i64];omega
    have Z:IntKind.i64.wrap ((a:Int)+26 * (b:Int))=(a:Int)+26 * (b:Int):=by rw [IntKind.wrap_i64];omega
    have ad:IntKind.i64.wrap ((a:Int)+26 * (b:Int)+(f.size:Int))=(a:Int)+26 * (b:Int)+(f.size:Int):=by rw [IntKind.wrap_i64];omega
    clear D E A j q;go_upto_region 5 with fail
    go_region
    all_goals go_wp2
    all_goals go_roundw
    ·have L:n+lY d rs (i+1)=a+26 * b+f.size:=by
      have:=u.out;have:=J.out;have:=G.out;unfold lY;omega
     refine⟨i+1,by omega,by go_num,?_,by omega,g.drew⟩
     rw [L];simp
    ·simp [intOf];omega
   ·have N:¬(a:Int)<=16384:=by omega
    have M:(i:Int)<(n:Int):=by omega
    go_wp2
    go_ret
    exact⟨⟨false,rfl,fun k=>by simp at k⟩,g⟩
  ·obtain rfl:i=n:=by omega
   go_wp2
   go_ret
   refine⟨⟨_,rfl,fun k=>?_⟩,g⟩
   have:=u.out;simp at k;omega
end Go.Proofs.YtlcnkcgmjnfbiaaGreatDoor
