import Derived.Test.YtnlgndpcddngoaaGreatDoorZ06
set_option linter.all false
set_option maxRecDepth 100000
set_option maxHeartbeats 2000000
namespace Go.Proofs.YtnlgndpcddngoaaGreatDoor
open Go.Proofs.Tryz Go.RowKit
variable [dK] [iK]
theorem jaZ (bu:Nat)(b4:Value)(T:Int)(l:Ln)(n:Int)(w:World)(bg:w.heap[bu]?=some (ur b4 T))(bk:l.ok)(b9:1<=l.x)(cb:U7 n)(bv:U7 T) :
  Calls prog 122 #[pO bu 0,oC l,.int .u64 n] w fun e w'=>e=.returned (.tuple #[.int .u64 (cN T l n).1,.bool (cN T l n).2.1,.int .u64 (cN T l n).2.2])/\B7 w w':=by
 have ci:=bk.x;have a2:=bk.y;have b8:=bk.at_;by_cases bj:n=0
 ·subst bj;have e:cN T l 0=(l.at_,true,0):=by unfold cN;rw [if_pos rfl]
  rw [e];clear e;go_enter func122,ntmps122
  go_wp2
  exact bodyPost_ret (v:=.tuple #[.int .u64 l.at_,.bool true,.int .u64 0]) (by simp [results,results122,go_sem]) rfl ⟨rfl,ba w⟩
 ·have ch:(n==0)=false:=by simpa using bj
  obtain⟨m,a1⟩:∃ m,m=if l.at_<T then T else l.at_:=⟨_,rfl⟩;have U:0<=m/\m<=18446744073709551615/\T<=m/\(m=T\/m=l.at_):=by rw [a1];split <;> omega
  have cc:IntKind.u64.wrap (n - 1)=n - 1:=by rw [IntKind.wrap_u64];omega
  obtain⟨b,W⟩:∃ b,b=(n - 1) * l.x:=⟨_,rfl⟩;obtain⟨g,a0⟩:∃ g,g=n * l.x:=⟨_,rfl⟩;have b7:0<=b:=by rw [W];exact Int.mul_nonneg (by omega) (by omega)
  have S:g=b+l.x:=by rw [W,a0,Int.sub_mul];omega
  have a8:=lY (n - 1) l.x;have a9:=lY n l.x;rw [<-W] at a8;rw [<-a0] at a9;have bz:cN T l n=if 18446744073709551615<m+g\/l.y<b then (0,false,18446744073709551615) else if m+b<=al (T+l.y) then (m+g,true,0) else (0,false,l.at_ - (l.y - b)):=by
   unfold cN;rw [if_neg bj,<-a1,<-W,<-a0]
  have J:=aa bz;have bo:=aa a8;have bs:=aa a9;have av:=aa a1;have b5:=aa bg;have b6:=ce bg (oy l) 1;clear bz a8 a9 a1 W a0 bg;by_cases bw:l.at_<T
  ·obtain rfl:T=m:=by
    have:=av.out;rw [if_pos bw] at this;exact this.symm
   clear av;go_enter func122,ntmps122
   go_wp2_with fail
   refine (bo.out _ (by omega) (by omega)).mono ?_
   rintro e x ⟨rfl,rfl⟩;go_wp2_with fail
   refine (bs.out _ (by omega) (by omega)).mono ?_
   rintro e x ⟨rfl,rfl⟩;obtain⟨a,F⟩:∃ a,a=al b:=⟨_,rfl⟩;obtain⟨f,G⟩:∃ f,f=al g:=⟨_,rfl⟩;have bb:U7 a:=by rw [F];unfold al;split <;> omega
   have bd:U7 f:=by rw [G];unfold al;split <;> omega
   obtain⟨c,r⟩:∃ c,c=decide (b<=18446744073709551615):=⟨_,rfl⟩;obtain⟨d,s⟩:∃ d,d=decide (g<=18446744073709551615):=⟨_,rfl⟩;rw [<-r,<-s,<-F,<-G];have y:=aa F;have z:=aa G;have A:=aa r;have B:=aa s;clear F G r s;go_wp2_with fail
   refine (eU T a _ (by omega) bb).mono ?_
   rintro e x ⟨rfl,rfl⟩;go_wp2_with fail
   refine (eU T f _ (by omega) bd).mono ?_
   rintro e x ⟨rfl,rfl⟩;obtain⟨o,N⟩:∃ o,o=al (T+a):=⟨_,rfl⟩;obtain⟨E,O⟩:∃ E,E=al (T+f):=⟨_,rfl⟩;obtain⟨i,t⟩:∃ i,i=decide (T+a<=18446744073709551615):=⟨_,rfl⟩;obtain⟨k,u⟩:∃ k,k=decide (T+f<=18446744073709551615):=⟨_,rfl⟩;rw [<-t,<-u,<-N,<-O];have L:=aa N;have M:=aa O;have C:=aa t;have D:=aa u;clear N O t u;by_cases q:18446744073709551615<T+g\/l.y<b
   ·have e:=J.out;rw [if_pos q] at e;have j:=aa e;have bi:c=false\/(c=true/\d=false)\/(c=true/\d=true/\i=false)\/(c=true/\d=true/\i=true/\k=false)\/(c=true/\d=true/\i=true/\k=true/\l.y<a):=by
     have a3:=A.out;have a5:=B.out;have bF:=C.out;have a7:=D.out;have ad:=y.out;have ao:=z.out;cases c
     ·exact il rfl
     ·cases d
      ·exact ir (il ⟨rfl,rfl⟩)
      ·cases i
       ·exact ir (ir (il ⟨rfl,rfl,rfl⟩))
       ·cases k
        ·exact ir (ir (ir (il ⟨rfl,rfl,rfl,rfl⟩)))
        ·refine ir (ir (ir (ir ⟨rfl,rfl,rfl,rfl,?_⟩)))
         have a4:=of_decide_eq_true a3.symm;have a6:=of_decide_eq_true a5.symm;have bK:=of_decide_eq_true a7.symm;unfold al at ad ao;rw [if_pos a4] at ad;rw [if_pos a6] at ao;omega
    clear e q A B C D L M y z J S U;rcases bi with rfl | ⟨rfl,rfl⟩ | ⟨rfl,rfl,rfl⟩ | ⟨rfl,rfl,rfl,rfl⟩ | ⟨rfl,rfl,rfl,rfl,b0⟩
    all_goals go_wp2
    all_goals exact bodyPost_ret (v:=.tuple #[.int .u64 0,.bool false,.int .u64 18446744073709551615]) (by simp [results,results122,go_sem]) rfl ⟨by rw [j.out],ba w⟩
   ·have e:=J.out;rw [if_neg q] at e;have p:a=b:=by rw [y.out];unfold al;rw [if_pos (by omega)]
    have H:f=g:=by rw [z.out];unfold al;rw [if_pos (by omega)]
    have X:o=T+b:=by rw [L.out,p];unfold al;rw [if_pos (by omega)]
    have P:E=T+g:=by rw [M.out,H];unfold al;rw [if_pos (by omega)]
    have r:c=true:=by rw [A.out];simp;omega
    have s:d=true:=by rw [B.out];simp;omega
    have t:i=true:=by rw [C.out,p];simp;omega
    have u:k=true:=by rw [D.out,H];simp;omega
    have b1:¬l.y<a:=by omega
    have R:=eU T l.y;obtain⟨h,Q⟩:∃ h,h=al (T+l.y):=⟨_,rfl⟩;rw [<-Q] at R e;have V:=aa R;have j:=aa e;have Y:T+l.y<=h\/h=18446744073709551615:=by rw [Q];unfold al;split <;> omega
    subst r s t u;clear A B C D y z L M J R e Q;have Z:U7 T:=bv;by_cases I:T+b<=h
    ·have e:=j.out;rw [if_pos I,<-P] at e;have K:=aa e;have bl:o<=h:=by omega
     clear e j I p H X P U Y S q;go_wp2_with fail
     go_region_with (go_at_call 151;refine (V.out _ Z a2).mono ?_;rintro e x ⟨rfl,rfl⟩)
     all_goals go_wp2
     all_goals exact bodyPost_ret (v:=.tuple #[.int .u64 E,.bool true,.int .u64 0]) (by simp [results,results122,go_sem]) rfl ⟨by rw [K.out],(ba w).drew⟩
    ·have e:=j.out;rw [if_neg I,<-p] at e;have K:=aa e;have bl:¬o<=h:=by omega
     have b2:IntKind.u64.wrap (l.y - a)=l.y - a:=by rw [IntKind.wrap_u64];omega
     have b3:IntKind.u64.wrap (l.at_ - (l.y - a))=l.at_ - (l.y - a):=by rw [IntKind.wrap_u64];omega
     clear e j I p H X P U Y S q;go_wp2_with fail
     go_region_with (go_at_call 151;refine (V.out _ Z a2).mono ?_;rintro e x ⟨rfl,rfl⟩)
     all_goals go_wp2_with fail
     all_goals go_region
     all_goals go_wp2
     all_goals exact bodyPost_ret (v:=.tuple #[.int .u64 0,.bool false,.int .u64 (l.at_ - (l.y - a))]) (by simp [results,results122,go_sem]) rfl ⟨by rw [K.out],(ba w).drew.drew⟩
  ·obtain rfl:m=l.at_:=by
    have:=av.out;rw [if_neg bw] at this;exact this
   clear av;go_enter func122,ntmps122
   go_wp2_with fail
   refine (bo.out _ (by omega) (by omega)).mono ?_
   rintro e x ⟨rfl,rfl⟩;go_wp2_with fail
   refine (bs.out _ (by omega) (by omega)).mono ?_
   rintro e x ⟨rfl,rfl⟩;obtain⟨a,F⟩:∃ a,a=al b:=⟨_,rfl⟩;obtain⟨f,G⟩:∃ f,f=al g:=⟨_,rfl⟩;have bb:U7 a:=by rw [F];unfold al;split <;> omega
   have bd:U7 f:=by rw [G];unfold al;split <;> omega
   obtain⟨c,r⟩:∃ c,c=decide (b<=18446744073709551615):=⟨_,rfl⟩;obtain⟨d,s⟩:∃ d,d=decide (g<=18446744073709551615):=⟨_,rfl⟩;rw [<-r,<-s,<-F,<-G];have y:=aa F;have z:=aa G;have A:=aa r;have B:=aa s;clear F G r s;go_wp2_with fail
   refine (eU l.at_ a _ (by omega) bb).mono ?_
   rintro e x ⟨rfl,rfl⟩;go_wp2_with fail
   refine (eU l.at_ f _ (by omega) bd).mono ?_
   rintro e x ⟨rfl,rfl⟩;obtain⟨o,N⟩:∃ o,o=al (l.at_+a):=⟨_,rfl⟩;obtain⟨E,O⟩:∃ E,E=al (l.at_+f):=⟨_,rfl⟩;obtain⟨i,t⟩:∃ i,i=decide (l.at_+a<=18446744073709551615):=⟨_,rfl⟩;obtain⟨k,u⟩:∃ k,k=decide (l.at_+f<=18446744073709551615):=⟨_,rfl⟩;rw [<-t,<-u,<-N,<-O];have L:=aa N;have M:=aa O;have C:=aa t;have D:=aa u;clear N O t u;by_cases q:18446744073709551615<l.at_+g\/l.y<b
   ·have e:=J.out;rw [if_pos q] at e;have j:=aa e;have bi:c=false\/(c=true/\d=false)\/(c=true/\d=true/\i=false)\/(c=true/\d=true/\i=true/\k=false)\/(c=true/\d=true/\i=true/\k=true/\l.y<a):=by
     have a3:=A.out;have a5:=B.out;have bF:=C.out;have a7:=D.out;have ad:=y.out;have ao:=z.out;cases c
     ·exact il rfl
     ·cases d
      ·exact ir (il ⟨rfl,rfl⟩)
      ·cases i
       ·exact ir (ir (il ⟨rfl,rfl,rfl⟩))
       ·cases k
        ·exact ir (ir (ir (il ⟨rfl,rfl,rfl,rfl⟩)))
        ·refine ir (ir (ir (ir ⟨rfl,rfl,rfl,rfl,?_⟩)))
         have a4:=of_decide_eq_true a3.symm;have a6:=of_decide_eq_true a5.symm;have bK:=of_decide_eq_true a7.symm;unfold al at ad ao;rw [if_pos a4] at ad;rw [if_pos a6] at ao;omega
    clear e q A B C D L M y z J S U;rcases bi with rfl | ⟨rfl,rfl⟩ | ⟨rfl,rfl,rfl⟩ | ⟨rfl,rfl,rfl,rfl⟩ | ⟨rfl,rfl,rfl,rfl,b0⟩
    all_goals go_wp2
    all_goals exact bodyPost_ret (v:=.tuple #[.int .u64 0,.bool false,.int .u64 18446744073709551615]) (by simp [results,results122,go_sem]) rfl ⟨by rw [j.out],ba w⟩
   ·have e:=J.out;rw [if_neg q] at e;have p:a=b:=by rw [y.out];unfold al;rw [if_pos (by omega)]
    have H:f=g:=by rw [z.out];unfold al;rw [if_pos (by omega)]
    have X:o=l.at_+b:=by rw [L.out,p];unfold al;rw [if_pos (by omega)]
    have P:E=l.at_+g:=by rw [M.out,H];unfold al;rw [if_pos (by omega)]
    have r:c=true:=by rw [A.out];simp;omega
    have s:d=true:=by rw [B.out];simp;omega
    have t:i=true:=by rw [C.out,p];simp;omega
    have u:k=true:=by rw [D.out,H];simp;omega
    have b1:¬l.y<a:=by omega
    have R:=eU T l.y;obtain⟨h,Q⟩:∃ h,h=al (T+l.y):=⟨_,rfl⟩;rw [<-Q] at R e;have V:=aa R;have j:=aa e;have Y:T+l.y<=h\/h=18446744073709551615:=by rw [Q];unfold al;split <;> omega
    subst r s t u;clear A B C D y z L M J R e Q;have Z:U7 T:=bv;by_cases I:l.at_+b<=h
    ·have e:=j.out;rw [if_pos I,<-P] at e;have K:=aa e;have bl:o<=h:=by omega
     clear e j I p H X P U Y S q;go_wp2_with fail
     go_region_with (go_at_call 151;refine (V.out _ Z a2).mono ?_;rintro e x ⟨rfl,rfl⟩)
     all_goals go_wp2
     all_goals exact bodyPost_ret (v:=.tuple #[.int .u64 E,.bool true,.int .u64 0]) (by simp [results,results122,go_sem]) rfl ⟨by rw [K.out],(ba w).drew⟩
    ·have e:=j.out;rw [if_neg I,<-p] at e;have K:=aa e;have bl:¬o<=h:=by omega
     have b2:IntKind.u64.wrap (l.y - a)=l.y - a:=by rw [IntKind.wrap_u64];omega
     have b3:IntKind.u64.wrap (l.at_ - (l.y - a))=l.at_ - (l.y - a):=by rw [IntKind.wrap_u64];omega
     clear e j I p H X P U Y S q;go_wp2_with fail
     go_region_with (go_at_call 151;refine (V.out _ Z a2).mono ?_;rintro e x ⟨rfl,rfl⟩)
     all_goals go_wp2_with fail
     all_goals go_region
     all_goals go_wp2
     all_goals exact bodyPost_ret (v:=.tuple #[.int .u64 0,.bool false,.int .u64 (l.at_ - (l.y - a))]) (by simp [results,results122,go_sem]) rfl ⟨by rw [K.out],(ba w).drew.drew⟩
end Go.Proofs.YtnlgndpcddngoaaGreatDoor
