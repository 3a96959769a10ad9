import Derived.Test.YtlcnkcgmjnfbiaaGreatDoorZ24
set_option linter.all false
set_option maxRecDepth 100000
namespace Go.Proofs.YtlcnkcgmjnfbiaaGreatDoor
open Go.Proofs.Tryz
open Go.ChangeShapes Go.WideShapes Go.ChangeAt Go.RowKit
variable [dK] [iK]
section
variable {H:Type}{enc:TypeId×Value->H}{P:Program}{w:World}{base:Nat}{spare:Nat->Bool}{held:Bool}
theorem je0 {t u x y z A:TypeId}{args:Array Value}{s:List (DataW H)}{ps:List MemPlace}(B:DataW.TrodAll enc P w base spare held [t,u,x,y,z,A] args.toList s ps) :
  ∃ v m n o q r d a b c e f p g i j k l,args=#[v,m,n,o,q,r]/\s=[d,a,b,c,e,f]/\ps=p ++ g ++ i ++ j ++ k ++ l/\DataW.Trod enc P w base spare held t v d p/\DataW.Trod enc P w base spare held u m a g/\DataW.Trod enc P w base spare held x n b i/\DataW.Trod enc P w base spare held y o c j/\DataW.Trod enc P w base spare held z q e k/\DataW.Trod enc P w base spare held A r f l:=by
 obtain⟨v,a0,d,Q,p,X,W,rfl,rfl,C,J⟩:=trodAll_cons B;obtain⟨m,a1,a,R,g,Y,rfl,rfl,rfl,D,K⟩:=trodAll_cons J;obtain⟨n,a2,b,S,i,Z,rfl,rfl,rfl,E,L⟩:=trodAll_cons K;obtain⟨o,a3,c,T,j,ad,rfl,rfl,rfl,F,M⟩:=trodAll_cons L;obtain⟨q,a4,e,U,k,ao,rfl,rfl,rfl,G,N⟩:=trodAll_cons M;obtain⟨r,a5,f,V,l,av,rfl,rfl,rfl,I,O⟩:=trodAll_cons N;obtain⟨rfl,rfl,rfl⟩:=trodAll_nil O;exact⟨v,m,n,o,q,r,d,a,b,c,e,f,p,g,i,j,k,l,by cases args;simp_all,rfl,by simp,C,D,E,F,G,I⟩
theorem jeZ {t m n o q r:TypeId}{v s u x y z:Value}{d g i j k l:DataW H}{p a b c e f:List MemPlace}(A:DataW.Trod enc P w base spare held t v d p)(B:DataW.Trod enc P w base spare held m s g a)
  (C:DataW.Trod enc P w base spare held n u i b) (D:DataW.Trod enc P w base spare held o x j c) (E:DataW.Trod enc P w base spare held q y k e) (F:DataW.Trod enc P w base spare held r z l f):DataW.TrodAll enc P w base spare held [t,m,n,o,q,r] [v,s,u,x,y,z] [d,g,i,j,k,l] (p ++ (a ++ (b ++ (c ++ (e ++ f))))):=⟨p,a ++ (b ++ (c ++ (e ++ f))),A,rB B C D E F,rfl⟩
end
theorem jT (d:Looks){p:Pinned}{s:OpenSpec}{c:OpenClaim}(e:List LaidKind)(g:Bool)(a:Bool×String)(b:Bool)
  (n:c.holds p s) (y:c.wfByText s=true) (x:c.laidByTextAt d p e g)
  (w:c.start=.entering) (v:c.noBlocks=false/\c.again=false) (r:p.checked.prog.mainIs=some (a.1,a.2.toList)) (u:(!a.1 && a.2.isEmpty && !b)=false)
  (q:∀ f i,p.checked.prog.funcNamed c.func=some f->p.checked.prog.funcs[f]?=some i->b=p.checked.prog.looks []/\∀ (z:Nat) t,i.params[z]?=some t->p.checked.prog.wantsStandIn t=false)
  (o:true=c.goesBy p.checked.prog) :
  Claim7.holds p (.plain s) { stood:={ row:=c,standIns:=[],harness:=a,looks:=b },kinds:=[],alts:=[],goes:=true,laidByText:=true,laidKinds:=e,laidTests:=g,laidLooks:=d }:=by
 have l:∀ j:OpenClaim,Claim7.isSixth { stood:={ row:=j,standIns:=[],harness:=a,looks:=b },kinds:=[] }=false:=fun j=>by simpa [Claim7.isSixth] using u
 exact⟨Claim7.tied_new_at d e g (Claim7.new_of_sixth n a b w v r (l c) q) y,fun A m=>(by cases m),x,(fun k=>by cases k),o⟩
end Go.Proofs.YtlcnkcgmjnfbiaaGreatDoor
