import Derived.Test.YtnlgndpcddngoaaGreatDoorZ36
import Derived.Test.YtnlgndpcddngoaaGreatDoorZ42
set_option linter.all false
set_option maxRecDepth 100000
namespace Go.Proofs.YtnlgndpcddngoaaGreatDoor
open Go.Proofs.Tryz Go.RowKit Go.Maps
variable [dK] [iK]
theorem vM (c:Rq)(d e:Int)(l:Ln)(b:Int):cD l b<=mH true c d e l b:=by
 unfold mH;split
 ·rename_i a
  exact Int.le_of_lt a.2.2.2.2
 ·exact Int.le_refl _
theorem iI.h {blk T:Int}{l:Ln}{a b:Int}(d:iI blk T l a b)(j:Rq)(k m:Int):gY true j k m blk T l a b:=by
 have n:=vM j k m l b;unfold iI at d;unfold gY;by_cases f:l.kd=2
 ·rw [if_pos f] at d ⊢;obtain⟨g,i⟩:=d;by_cases e:l.in_=b
  ·rw [if_pos e] at i;have c:cD l b=l.at_:=by unfold cD;rw [if_neg (fun c=>c.2 e)]
   exact⟨g,by omega,by omega⟩
  ·rw [if_neg e] at i;have c:cD l b=0:=by unfold cD;rw [if_pos ⟨f,e⟩]
   exact⟨g,by omega,by omega⟩
 ·rw [if_neg f] at d ⊢;have c:cD l b=l.at_:=by unfold cD;rw [if_neg (fun c=>f c.1)]
  exact⟨d.1,by omega,by omega⟩
theorem jfS {blk T c d:Int}{z a z':Qt}{l:Ln}{j:Rq}(g:cd T d z l)(w:z.ok)(H:a.kd=z.kd)(x:a.y=z.y)(M:z.wn<=a.wn)(v:z.wn=a.wn->z.lv<=a.lv)(J:0<=a.lv)(m:gL blk a z')(I:0<=blk)(D:z'.kd=2->z'.wn<=c / z'.y)(C:a.kd=1->a.wn=0)(u:j.op=2)(s:j.key=l.k):gY true j a.lv a.wn blk c l (aG z' c).lv (aG z' c).wn:=by
 have N:=m.lo;have O:=m.up;have F:=m.wn;have P:=m.kd;have G:=m.y;have U:=w.lv.1;unfold gY;by_cases q:z.kd=1
 ·have k:l.kd=1:=by rw [<-g.kd];exact q
  obtain⟨Q,R⟩:=g.s q;have K:=C (by omega);rw [if_neg (by omega)];have f:∀ i,cD l i=l.at_:=fun i=>by unfold cD;rw [if_neg (fun f=>by omega)]
  unfold aG;rw [if_pos (by omega)];have n:∀ i,a.lv<=mH true j a.lv a.wn l i:=fun i=>by
   unfold mH;split
   ·exact Int.le_refl _
   ·rename_i e
    rw [f i] at e ⊢;by_cases r:l.at_<a.lv
    ·exact absurd ⟨rfl,u,s,il k,r⟩ e
    ·omega
  have p:=v (by omega);refine⟨by omega,by rw [f];omega,ir ?_⟩
  have:=n z'.wn;omega
 ·have B:z.kd=2:=by rcases w.kd with g | g <;> omega
  have k:l.kd=2:=by rw [<-g.kd];exact B
  have E:=D (by omega);obtain⟨o,S⟩:=g.w q;have y:z'.y=l.y:=(G.trans x).trans g.y;rw [if_pos k];unfold aG;rw [if_neg (by omega)];rw [y] at E ⊢;by_cases n:c / l.y=z'.wn
  ·rw [if_pos n];have L:a.lv<=mH true j a.lv a.wn l z'.wn:=by
    unfold mH;split
    ·exact Int.le_refl _
    ·rename_i e
     by_cases r:cD l z'.wn<a.lv
     ·exact absurd ⟨rfl,u,s,ir F.symm,r⟩ e
     ·omega
   have t:cD l z'.wn<=z'.lv:=by
    unfold cD;split
    ·omega
    ·rename_i e
     have A:l.in_=z'.wn:=Decidable.byContradiction fun f=>e ⟨k,f⟩;rcases o with ⟨b,p⟩ | ⟨b,p⟩ | ⟨b,p⟩
     ·have:=v (by omega);omega
     ·omega
     ·omega
   refine⟨⟨n.symm,?_⟩,t,ir (by omega)⟩
   rcases o with b | b | b <;> omega
  ·rw [if_neg n];dsimp only;have t:cD l (c / l.y)=0:=by
    unfold cD;split
    ·rfl
    ·rename_i e
     have A:l.in_=c / l.y:=Decidable.byContradiction fun f=>e ⟨k,f⟩;rcases o with b | b | b <;> omega
   have:=vM j a.lv a.wn l (c / l.y);refine⟨⟨rfl,?_⟩,by omega,il (by omega)⟩
   rcases o with b | b | b <;> omega
theorem rn (T:Int)(b:List (Ky×Qt)):∀ (ks:List (Ky×Qt)) (a:List Ln),ks.length=a.length->(∀ i (d:i<ks.length) (e:i<a.length),aZ a[i].k b=some ks[i].2)->bZ T b a=List.zipWith (lnR T) ks a
 | [],[],_,_=>rfl
 | [],_ :: _,h,_=>by simp at h
 | _ :: _,[],h,_=>by simp at h
 | p :: r,l :: s,h,hf=>by
  have c:=hf 0 (by simp) (by simp);have f:=rn T b r s (by simpa using h) (fun i d e=>hf (i+1) (by simpa using d) (by simpa using e));simp only [List.getElem_cons_zero] at c;unfold bZ at f ⊢;rw [List.filterMap_cons,c,f];rfl
end Go.Proofs.YtnlgndpcddngoaaGreatDoor
