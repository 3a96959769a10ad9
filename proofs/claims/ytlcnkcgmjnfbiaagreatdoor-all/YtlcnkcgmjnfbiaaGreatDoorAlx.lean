import Derived.Test.YtlcnkcgmjnfbiaaGreatDoorZ10
import Derived.Test.YtlcnkcgmjnfbiaaGreatDoorZ38
import Derived.Test.YtlcnkcgmjnfbiaaGreatDoorZ45
set_option linter.all false
set_option maxRecDepth 100000
set_option maxHeartbeats 16000000
namespace Go.Proofs.YtlcnkcgmjnfbiaaGreatDoor
open Go.Proofs.Tryz Go.RowKit
variable [dK] [iK]
theorem small14w (v:Option Addr)(n x:Nat)(d rs:Nat->Nat)(w:World)(U:n<=x)(T:n<=140737488355328)(B:∀ i,i<n->d i<=140737488355328)(C:∀ i,i<n->rs i<=140737488355328)
  (z:0<n->∃ c o,v=some ⟨c,o,none⟩/\c<w.heap.size/\∀ i,i<n->(∃ r s,w.cell? ⟨c,o+i * 10+3,none⟩=some (.slice r (d i) s))/\∃ f:ByteArray,w.cell? ⟨c,o+i * 10+4,none⟩=some (.string f)/\f.size=rs i) :
  Calls prog 41 #[.slice v n x] w fun e w'=>je1 n d rs e/\B7 w w':=by
 have F:=aa z;have H:=aa B;have I:=aa C;clear z B C;go_enter func41,ntmps41
 go_wp2
 go_loopw [3,4] (fun P t wr=>∃ i:Nat,i<=n/\t=.int .i64 i/\P=.int .i64 ((n+lY d rs i:Nat):Int)/\n+lY d rs i<=40000000000000000/\B7 w wr) (fun _ t _=>n - (intOf t).toNat)
 case atStart=>exact⟨0,by omega,rfl,by simp [lY],by simp [lY];omega,Below.refl _ _⟩
 case round=>
  obtain⟨i,R,rfl,rfl,O,g⟩:=hrel;obtain⟨a,l⟩:∃ a,a=n+lY d rs i:=⟨_,rfl⟩;rw [<-l] at O ⊢;have u:=aa l;clear l;by_cases m:i<n
  ·by_cases W:a<=16384
   ·obtain⟨c,o,rfl,y,A⟩:=F.out (by omega);obtain⟨⟨r,s,D⟩,f,E,q⟩:=A i m;have K:wr.cell? ⟨c,o+i * 10+3,none⟩=some (.slice r (d i) s):=(g.cell (p:=⟨c,o+i * 10+3,none⟩) y).trans D;have Q:wr.cell? ⟨c,o+i * 10+4,none⟩=some (.string f):=(g.cell (p:=⟨c,o+i * 10+4,none⟩) y).trans E;obtain⟨b,j⟩:∃ b,b=d i:=⟨_,rfl⟩;rw [<-j] at K;have X:b<=140737488355328:=j▸H.out i m;have V:f.size<=140737488355328:=q▸I.out i m;have J:=aa j;have G:=aa q;have M:(i:Int)<(n:Int):=by omega
    have S:(0:Int)<=(i:Int):=by omega
    have N:(a:Int)<=16384:=by omega
    have Y:IntKind.i64.wrap (26 * (b:Int))=26 * (b:Int):=by rw [IntKind.wrap_i64];omega
    have Z:IntKind.i64.wrap ((a:Int)+26 * (b:Int))=(a:Int)+26 * (b:Int):=by rw [IntKind.wrap_i64];omega
    have ad:IntKind.i64.wrap ((a:Int)+26 * (b:Int)+(f.size:Int))=(a:Int)+26 * (b:Int)+(f.size:Int):=by rw [IntKind.wrap_i64];omega
    clear D E A j q;go_upto_region 5 with fail
    go_region
    all_goals go_wp2
    all_goals go_roundw
    ·have L:n+lY d rs (i+1)=a+26 * b+f.size:=by
      have:=u.out;have:=J.out;have:=G.out;unfold lY;omega
     refine⟨i+1,by omega,by go_num,?_,by omega,g.drew⟩
     rw [L];simp
    ·simp [intOf];omega
   ·have N:¬(a:Int)<=16384:=by omega
    have M:(i:Int)<(n:Int):=by omega
    go_wp2
    go_ret
    exact⟨⟨false,rfl,fun k=>by simp at k⟩,g⟩
  ·obtain rfl:i=n:=by omega
   go_wp2
   go_ret
   refine⟨⟨_,rfl,fun k=>?_⟩,g⟩
   have:=u.out;simp at k;omega
end Go.Proofs.YtlcnkcgmjnfbiaaGreatDoor
namespace Go.Proofs.YtlcnkcgmjnfbiaaGreatDoor
open Go.Proofs.Tryz Go.RowKit
variable [dK] [iK]
theorem playsJw (b2:Option Addr)(n b3:Nat)(c:List Sp)(blk:Int)(z H:Nat)(ks:List Int)(di dk:Nat->Nat->World->Prop)(w:World)(dl:jeL w.heap.size blk w ks di dk)(d7:∀ k∈ks,k=1\/k=2\/k=3)(eb:ks.length=H)(hq:H<=3)(d9:c.length=n)(gc:n<=b3)(hp:n<=140737488355328)(V:∀ p∈c,p.qs.length<=140737488355328/\p.raw.size<=140737488355328)(ef:∀ p∈c,p.ok)(dt:∀ b (a:b<ks.length),w.cell? ⟨z,b,none⟩=some (.int .i64 ks[b]))(hd:z<w.heap.size)(f3:U7 blk)
  (cl:0<n->∃ I o,b2=some ⟨I,o,none⟩/\I<w.heap.size/\∀ i (a:i<c.length),∃ v,(∀ x,x<10->w.cell? ⟨I,o+i * 10+x,none⟩=(pP c[i] v)[x]?)/\gS w v c[i].qs) :
  Calls prog 18 #[.slice b2 n b3,.int .u64 blk,.slice (some ⟨z,0,none⟩) H H] w fun e w'=>e=.returned (.bool true)/\Below w.heap.size w w':=by
 have e2:=aa (small14w b2 n b3 (rlM c) (rsM c) w gc (by omega) (fun i U=>by rw [tB c i (by omega)];have:=(V _ (List.getElem_mem (show i<c.length by omega))).1;omega) (fun i U=>by rw [tF c i (by omega)];have:=(V _ (List.getElem_mem (show i<c.length by omega))).2;omega) (fun a=>by
   obtain⟨I,o,e,dn,bl⟩:=cl a;refine⟨I,o,e,dn,fun i U=>?_⟩
   have N:i<c.length:=by omega
   obtain⟨v,es,gv,gF,rfl,_⟩:=bl i N;exact⟨⟨gv,gF,by rw [es 3 (by omega),tB c i N];rfl⟩,c[i].raw,by rw [es 4 (by omega)];rfl,(tF c i N).symm⟩))
 have e6:=aa cl;have fd:=aa d9;have ff:=aa ef;have e8:=aa dt;have D:=aa dl;have e9:=aa d7;have c3:=aa eb;clear cl d9 ef dt V dl d7 eb;go_enter func18,ntmps18
 go_wp2_with fail
 refine e2.out.mono ?_
 rintro e cG ⟨⟨d,rfl,W⟩,ch⟩;have c9:=aa W;have cX:=aa ch;have go:=ch.size;clear W ch;cases d with
 | false=>
  go_wp2
  go_ret
  exact⟨rfl,cX.out⟩
 | true=>
  have W:=c9.out rfl;have fo:=aa W;clear W c9;go_wp2_with fail
  refine (jap blk _).mono ?_
  rintro e eX ⟨nb,rfl,b7,T,a6,b9,f0,dm⟩;obtain⟨f,b5⟩:∃ f,f=cG.heap.size+2:=⟨_,rfl⟩;obtain⟨ad,b4⟩:∃ ad,ad=cG.heap.size+1:=⟨_,rfl⟩;obtain⟨av,b6⟩:∃ av,av=cG.heap.size:=⟨_,rfl⟩;rw [<-b4,<-b6] at T;rw [<-b5,<-b4] at b7;rw [<-b6] at a6;have O:=aa (cX.out.trans (dm.mono go));have db:Hid (w.heap.size<=av/\av<ad/\ad<f/\f<nb/\nb<eX.heap.size):=aa ⟨by omega,by omega,by omega,by omega,an b9⟩;rw [<-b5];clear b5 b4 b6 f0 dm;go_wp2_with fail
  refine (sC f ad nb av _ _ blk _ _ eX f3 b7 T a6 b9 (by have:=db.out;omega)).mono ?_
  rintro e a1 ⟨eV,e1,rfl,gt,et,cx,ey,ez,ev⟩;have g:=db.out;have c0:Hid (Below w.heap.size w a1):=aa (O.out.trans (ev.below (by omega) (fun k m=>by omega)));have cU:cM a1 f ad nb eV (some av) blk ⟨0,true⟩ ⟨0,0,[]⟩ e1 w.heap.size (.slice none 0 0) 0 (fun _=>0) (fun _=>⟨[],false⟩):=by
   refine⟨et,cx.dskF,cx,fun i U=>absurd U (Nat.not_lt_zero _),fun i b U=>absurd U (Nat.not_lt_zero _),World.ownsRow_nil _ _ _ _,fun hc f7 f1=>?_,fun d d0=>?_,fun _ _=>rfl⟩
   ·rcases f7 with a | a | a
    ·exact ez (a▸f1)
    ·exact a
    ·simp [Value.ownBlock] at a
   ·rcases d0 with a | a | a | a | ⟨i,U,a⟩
    ·omega
    ·omega
    ·rcases ey d a with a | a | a | a <;> omega
    ·simp [Value.ownBlock] at a
    ·omega
  have bw:=aa cU;clear b7 T a6 b9 gt et cx ev ey ez cU g;go_wp2_with fail
  refine (is17 f eV _ _ _ a1 bw.out.hh).mono ?_
  rintro e hD ⟨rfl,d4⟩;rw [d4];clear d4;go_wp2_with fail
  obtain⟨bi,ci⟩:∃ bi,bi=a1.heap.size:=⟨_,rfl⟩;obtain⟨y,bo⟩:∃ y,y=a1.heap.size+1:=⟨_,rfl⟩;obtain⟨a5,F⟩:∃ a5,a5=(a1.alloc (uZ)).alloc (Oe f bi blk):=⟨_,rfl⟩;rw [<-bo];rw [<-ci];rw [<-F];have dR:a5.heap[y]?=some (Oe f bi blk):=by rw [F,bo];exact aD (by simp)
  refine (sQ y _ _ _ _ _ _ _ _ _ _ _ _ _ _ _ _ _ _ _ _ _ _ _ a5 dR).mono ?_
  rintro e g9 ⟨rfl,v,hC,S⟩;have gp:=c0.out.size;obtain⟨hr,kc,cV⟩:=jfZ bw.out gp a5 ci bo (by rw [F]) S;have cb:Below w.heap.size w g9:=c0.out.trans ⟨S.keep.os.trans (by rw [F];rfl),S.keep.tape.trans (by rw [F];rfl),S.keep.output.trans (by rw [F];rfl),by have:=S.keep.size;rw [F] at this;simp at this;omega,fun d d0=>(S.keep.block d (by rw [F];simp;omega) (by omega)).trans (by rw [F];exact (ah _ _ (by rw [World.size_alloc];omega)).trans (ah _ _ (by omega)))⟩;have e5:=aa (D.out.j0 _ _ _ _ _ _ _ _ _ _ _ _ cV cb);have c1:=aa cb;clear cV cb S dR F ci bo bw;obtain⟨L,d1⟩:∃ L,L=w.heap.size:=⟨_,rfl⟩;rw [<-d1] at c1 D;have e4:=aa d1;go_wp2_with fail
  go_loopw [12] (fun cz wr=>∃ i:Nat,i<=n/\cz=.int .i64 i/\di f y wr/\Below L w wr) (fun cz _=>n - (intOf cz).toNat)
  case atStart=>exact⟨0,Nat.zero_le _,rfl,e5.out,c1.out⟩
  case round=>
   obtain⟨i,hj,rfl,c2,ck⟩:=hrel;obtain⟨l,rfl⟩:∃ l,l=wr:=⟨_,rfl⟩;have bK:=aa c2;have J:=aa ck;have hh:=ck.size;clear c2 ck;by_cases d8:i<n
   ·have gb:(i:Int)<(n:Int):=by omega
    have hi:(0:Int)<=(i:Int):=by omega
    have N:i<c.length:=by rw [fd.out];exact d8
    obtain⟨I,o,rfl,dn,bl⟩:=e6.out (by omega);obtain⟨v,cn,eo⟩:=bl i N;obtain⟨p,bb⟩:∃ p,p=c[i]:=⟨_,rfl⟩;rw [<-bb] at cn eo;have ei:p.ok:=bb▸ff.out _ (List.getElem_mem N);have er:=vO (rlM c) (rsM c) n i d8;rw [tB c i N,tF c i N,<-bb] at er;have W:=fo.out;have V:p.qs.length<=1000:=by omega
    have el:p.raw.size<=20000:=by omega
    obtain⟨t,u,rfl,em,en⟩:=eo;have m:∀ x,x<10->l.cell? ⟨I,o+i * 10+x,none⟩=(pP p (.slice t p.qs.length u))[x]?:=fun x gs=>(J.out.cell (p:=⟨I,o+i * 10+x,none⟩) (by show I<L;omega)).trans (cn x gs);have cy:=m 0 (by omega);have eA:=m 1 (by omega);have eB:=m 2 (by omega);have eD:=m 3 (by omega);have eE:=m 4 (by omega);have eF:=m 5 (by omega);have eL:=m 6 (by omega);have eN:=m 7 (by omega);have eQ:=m 8 (by omega);have eS:=m 9 (by omega);rw [Nat.add_zero] at cy;have cw:gS l (.slice t p.qs.length u) p.qs:=⟨t,u,rfl,em,fun a=>by
      obtain⟨Y,bd,e,ds,T⟩:=en a;exact⟨Y,bd,e,by omega,fun k m b cp=>(J.out.cell (p:=⟨Y,bd+k * 13+b,none⟩) (by show Y<L;omega)).trans (T k m b cp)⟩⟩
    obtain⟨C,cv⟩:∃ C,C=p.qs.length:=⟨_,rfl⟩;rw [<-cv] at cw cy eA eB eD eE eF eL eN eQ eS V;have fn:=aa cw;have Q:=aa ei;have fl:=aa cv;have hb:=aa bb;have c7:=aa el;have fm:=aa V;clear m cn en bl cw ei er W bb em cv el V;go_wp2_with fail
    obtain⟨s,a7⟩:∃ s,s=l.heap.size:=⟨_,rfl⟩;obtain⟨K,a8⟩:∃ K,K=l.alloc (oJ p.kind p.conn p.now (.slice t C u) p.raw p.cut p.left p.full p.kept p.part):=⟨_,rfl⟩;rw [<-a7,<-a8];have cc:Below l.heap.size l K:=by rw [a8];exact ba l
    have dN:K.heap[s]?=some (oJ p.kind p.conn p.now (.slice t C u) p.raw p.cut p.left p.full p.kept p.part):=by rw [a8,a7];exact ag _ _
    have he:K.heap.size=s+1:=by rw [a8,a7];simp
    have dv:∀ b (a:b<ks.length),K.cell? ⟨z,b,none⟩=some (.int .i64 ks[b]):=fun b a=>(cc.cell (p:=⟨z,b,none⟩) (by show z<l.heap.size;omega)).trans ((J.out.cell (p:=⟨z,b,none⟩) (by show z<L;omega)).trans (e8.out b a));have f2:z<K.heap.size:=by omega
    have fr:=aa cc;have fs:=aa dN;have fa:=aa dv;have c6:=aa a7;clear a8 cc dN dv cy eA eB eD eE eF eL eN eQ eS a7;go_loopw [14,15] (fun g7 cF j=>∃ (b:Nat) (Z:Bool),b<=H/\cF=.int .i64 b/\g7=.bool Z/\(Z=true↔p.kind∈ks.take b)/\Below K.heap.size K j) (fun _ cF _=>H - (intOf cF).toNat)
    case atStart=>exact⟨0,false,by omega,rfl,rfl,by simp,Below.refl _ _⟩
    case round=>
     obtain⟨b,Z,hl,rfl,rfl,d2,bk⟩:=hrel;obtain⟨j,rfl⟩:∃ j,j=wr:=⟨_,rfl⟩;have q:=(bk.block s (by omega)).trans fs.out;have gN:=ab q 0;have hg:=bk.size;have a4:=aa bk;have bv:=aa d2;clear bk d2;by_cases f8:b<H
     ·have a9:b<ks.length:=by rw [c3.out];exact f8
      obtain⟨X,cr⟩:∃ X,X=ks[b]:=⟨_,rfl⟩;have hf:j.cell? ⟨z,b,none⟩=some (.int .i64 X):=(a4.out.cell (p:=⟨z,b,none⟩) f2).trans (by rw [cr];exact fa.out b a9);have eq:∀ d:Bool,(d=true↔(p.kind∈ks.take b\/p.kind=X))->(d=true↔p.kind∈ks.take (b+1)):=fun d a=>by
       rw [a,List.take_add_one,List.getElem?_eq_getElem a9,<-cr];simp only [Option.toList,List.mem_append,List.mem_singleton]
      have b0:=aa eq;have dd:=aa q;have hk:(b:Int)<(H:Int):=by omega
      have hn:(0:Int)<=(b:Int):=by omega
      clear q eq cr;cases Z with
      | true=>
       have O:Hid (∀ d:Bool,d=true->(d=true↔p.kind∈ks.take (b+1))):=aa (fun d f=>b0.out d ⟨fun _=>il (bv.out.1 rfl),fun _=>f⟩);go_upto_region 19 with fail
       go_region
       all_goals go_wp2
       all_goals go_roundw
       all_goals first
        | exact⟨b+1,true,by omega,by go_num,rfl,O.out true rfl,a4.out.drew⟩
        | (simp [intOf];omega)
      | false=>
       have ct:¬p.kind∈ks.take b:=fun a=>by have:=bv.out.2 a;cases this
       by_cases G:p.kind=X
       ·have O:Hid (true=true↔p.kind∈ks.take (b+1)):=aa (b0.out true ⟨fun _=>ir G,fun _=>rfl⟩);have gg:(p.kind==X)=true:=by simp [G]
        clear G ct;go_upto_region 19 with fail
        go_region
        all_goals go_wp2
        all_goals go_roundw
        all_goals first
         | exact⟨b+1,true,by omega,by go_num,rfl,O.out,a4.out.drew⟩
         | (simp [intOf];omega)
       ·have O:Hid (false=true↔p.kind∈ks.take (b+1)):=aa (b0.out false ⟨(fun a=>absurd a (by simp)),fun a=>a.elim (fun a=>absurd a ct) (fun a=>absurd a G)⟩);have gg:(p.kind==X)=false:=by simp [G]
        clear G ct;go_upto_region 19 with fail
        go_region
        all_goals go_wp2
        all_goals go_roundw
        all_goals first
         | exact⟨b+1,false,by omega,by go_num,rfl,O.out,a4.out.drew⟩
         | (simp [intOf];omega)
     ·have a9:b=H:=by omega
      have cq:Z=true↔p.kind∈ks:=by
       have a:=bv.out;rw [a9,List.take_of_length_le (by rw [c3.out];omega)] at a;exact a
      have hm:¬(b:Int)<(H:Int):=by omega
      have E:Hid (Below l.heap.size l j):=aa (fr.out.trans (a4.out.mono (by have:=c6.out;omega)));have a3:=aa (D.out.js _ _ _ _ bK.out E.out);have df:Hid (l.heap.size<=s/\s<j.heap.size):=aa ⟨by have:=c6.out;omega,by omega⟩;have dd:=aa q;have d3:L<=l.heap.size:=(D.out.jb _ _ _ bK.out).1;have a2:=aa d3;clear a9 d3;cases Z with
      | false=>
       clear q cq;go_wp2
       go_roundw
       case rel=>exact⟨i+1,by omega,by go_num,a3.out,J.out.trans (E.out.mono a2.out)⟩
       case measure=>simp [intOf];omega
      | true=>
       have cs:=cq.1 rfl;have bz:=aa cs;have f5:=e9.out _ cs;have gR:=ab q 1;have gV:=ab q 2;have g0:=ab q 3;have g1:=ab q 4;have g2:=ab q 5;have g3:=ab q 6;have g4:=ab q 7;have g5:=ab q 8;have g6:=ab q 9;have ek:gS j (.slice t C u) p.qs:=by
        obtain⟨fv,fz,fD,f4,T⟩:=fn.out;refine⟨fv,fz,fD,f4,fun a=>?_⟩
        obtain⟨Y,bd,fN,ds,a6⟩:=T a;exact⟨Y,bd,fN,by have:=E.out.size;omega,fun k m b cp=>(E.out.cell (p:=⟨Y,bd+k * 13+b,none⟩) ds).trans (a6 k m b cp)⟩
       have c8:=aa ek;have ej:p.qs.length<=1000:=by have:=fm.out;have:=fl.out;omega
       have c5:=aa ej;clear ek q cq cs ej;rcases f5 with r | r | r
       ·have bs:=aa (D.out.one (by rw [<-r];exact bz.out) f y j p (.slice t C u) a3.out c8.out Q.out c5.out c7.out);have d6:(p.kind==1)=true:=by simp [r]
        clear r;go_wp2_with fail
        refine bs.out.mono ?_
        rintro e e0 ⟨rfl,B,A⟩;have R:=aa B;have P:=aa A;clear B A;go_wp2
        go_roundw
        case rel=>exact⟨i+1,by omega,by go_num,R.out,(J.out.trans (E.out.mono a2.out)).trans P.out⟩
        case measure=>simp [intOf];omega
       ·have bs:=aa (D.out.two (by rw [<-r];exact bz.out) f y j p (.slice t C u) a3.out c8.out Q.out c5.out c7.out);have d6:(p.kind==1)=false:=by simp [r]
        have f9:(p.kind==2)=true:=by simp [r]
        clear r;go_wp2_with fail
        refine bs.out.mono ?_
        rintro e e0 ⟨rfl,B,A⟩;have R:=aa B;have P:=aa A;clear B A;go_wp2
        go_roundw
        case rel=>exact⟨i+1,by omega,by go_num,R.out,(J.out.trans (E.out.mono a2.out)).trans P.out⟩
        case measure=>simp [intOf];omega
       ·have b8:3∈ks:=by rw [<-r];exact bz.out
        have d6:(p.kind==1)=false:=by simp [r]
        have f9:(p.kind==2)=false:=by simp [r]
        have ho:(p.kind==3)=true:=by simp [r]
        have c4:=aa (fun w=>pA p.part 2 w (by omega) (by omega) Q.out.part.1 Q.out.part.2);obtain⟨a0,G⟩:∃ a0,a0=bq p.part 2:=⟨_,rfl⟩;have gl:=gA p.part 2 (by omega);rw [<-G] at c4 gl;have bF:=aa G;clear r G;go_wp2_with fail
        refine (c4.out _).mono ?_
        rintro e e0 ⟨rfl,d5⟩;rw [d5];clear d5;by_cases ao:a0=0
        ·have fb:=aa (D.out.lose b8 f y l j.drew p bK.out (E.out.trans ((Below.refl _ j).drew.mono E.out.size)) Q.out (by rw [<-bF.out];exact ao));have gd:(a0==0)=true:=by simp [ao]
         have fi:=aa ao;obtain⟨_,gr,gq⟩:=D.out.jb _ _ _ a3.out;have e7:Hid (∀ bg:World,(∀ d,l.heap.size<=d->d<j.drew.heap.size->bg.heap[d]?=j.drew.heap[d]?)->bg.heap[s]?=some (oJ p.kind p.conn p.now (.slice t C u) p.raw p.cut p.left p.full p.kept p.part)):=aa (fun bg a=>(a s df.out.1 df.out.2).trans dd.out);clear ao;go_upto_region 28 with fail
         go_cut [] (fun cR=>dk f y cR/\Below L j cR/\cR.heap[s]?=some (oJ p.kind p.conn p.now (.slice t C u) p.raw p.cut p.left p.full p.kept p.part))
         case first=>
          go_region_held3 (fun w'=>w'.cell? ⟨y,0,none⟩=some (.pointer (some ⟨f,0,none⟩))/\w'.cell? ⟨s,8,none⟩=some (.int .i64 p.kept)/\w'.cell? ⟨s,9,none⟩=some (.int .i64 p.part)) (first | go_keep | (exact f6))
           (first | (go_at_call 26;refine fb.out.mono ?_;rintro e bg ⟨rfl,bj,M,fU,fV⟩;have g:=e7.out bg fU;have f6:=aN fV (aN (ab g 8) (ab g 9))))
          all_goals (go_wp2_with fail;go_meet)
          all_goals exact⟨bj,⟨M.os,M.tape,M.output,M.size,M.block⟩,g⟩
         case rest=>
          obtain⟨b1,rfl⟩:∃ b1,b1=wc:=⟨_,rfl⟩;obtain⟨bj,M,g⟩:=hcut;have hs:=ab g 0;have ht:=ab g 1;have hu:=ab g 2;have hv:=ab g 3;have hw:=ab g 4;have hx:=ab g 5;have hy:=ab g 6;have hz:=ab g 7;have hA:=ab g 8;have hB:=ab g 9;have bu:=aa (D.out.agk b8 f y b1 p (.slice t C u) bj Q.out (by rw [<-bF.out];exact fi.out));have e3:=aa M;clear bj M g gN gR gV g0 g1 g2 g3 g4 g5 g6 gr gq;go_wp2_with fail
          refine bu.out.mono ?_
          rintro e ha ⟨rfl,B,A⟩;have R:=aa B;have P:=aa A;clear B A;go_wp2
          go_roundw
          case rel=>exact⟨i+1,by omega,by go_num,R.out,((J.out.trans (E.out.mono a2.out)).trans e3.out).trans P.out⟩
          case measure=>simp [intOf];omega
        ·have eg:a0=1:=by omega
         have gd:(a0==0)=false:=by simp [ao]
         have bu:=aa (D.out.agj b8 f y j p (.slice t C u) a3.out Q.out (by rw [<-bF.out];exact eg));clear ao eg;go_wp2_with fail
         refine bu.out.mono ?_
         rintro e ha ⟨rfl,B,A⟩;have R:=aa B;have P:=aa A;clear B A;go_wp2
         go_roundw
         case rel=>exact⟨i+1,by omega,by go_num,R.out,(J.out.trans (E.out.mono a2.out)).trans P.out⟩
         case measure=>simp [intOf];omega
   ·have gb:¬(i:Int)<(n:Int):=by omega
    go_wp2
    go_ret
    exact⟨rfl,e4.out▸J.out⟩
end Go.Proofs.YtlcnkcgmjnfbiaaGreatDoor
namespace Go.Proofs.YtlcnkcgmjnfbiaaGreatDoor
open Go.Proofs.Tryz Go.RowKit Go.Maps
variable [dK] [iK]
theorem gS.up {w w':World}{v:Value}{d:List Rq}(i:gS w v d)(c:B7 w w'):gS w' v d:=by
 obtain⟨e,f,j,k,l⟩:=i;refine⟨e,f,j,k,fun q=>?_⟩
 obtain⟨a,t,g,b,m⟩:=l q;exact⟨a,t,g,ll b c.size,fun r n s o=>(c.cell (p:=⟨a,_,none⟩) b).trans (m r n s o)⟩
end Go.Proofs.YtlcnkcgmjnfbiaaGreatDoor
namespace Go.Proofs.YtlcnkcgmjnfbiaaGreatDoor
open Go.Proofs.Tryz Go.RowKit
variable [dK] [iK]
theorem all3w (k:Option Addr)(n l:Nat)(c:List Sp)(blk:Int)(w:World)(B:c.length=n)(N:n<=l)(Q:n<=140737488355328)(D:∀ p∈c,p.qs.length<=140737488355328/\p.raw.size<=140737488355328)(C:∀ p∈c,p.ok)(u:U7 blk)(r:mi w)
  (y:0<n->∃ b o,k=some ⟨b,o,none⟩/\b<w.heap.size/\∀ i (d:i<c.length),∃ v,(∀ x,x<10->w.cell? ⟨b,o+i * 10+x,none⟩=(pP c[i] v)[x]?)/\gS w v c[i].qs) :
  Calls prog 4 #[.slice k n l,.int .u64 blk] w fun e w'=>e=.returned (.bool true)/\B7 w w':=by
 have K:=bU r;obtain⟨a,f⟩:∃ a,a=w.alloc (.cells #[.int .i64 1,.int .i64 2,.int .i64 3] 3):=⟨_,rfl⟩;have g:B7 w a:=by rw [f];exact ba w
 have t:∀ j (d:j<[(1:Int),2,3].length),a.cell? ⟨w.heap.size,j,none⟩=some (.int .i64 [(1:Int),2,3][j]):=by
  rw [f];intro j d;match j,d with
  | 0,_=>exact ab (ag _ _) 0
  | 1,_=>exact ab (ag _ _) 1
  | 2,_=>exact ab (ag _ _) 2
 have m:a.heap.size=w.heap.size+1:=by rw [f];simp
 have z:0<n->∃ b o,k=some ⟨b,o,none⟩/\b<a.heap.size/\∀ i (d:i<c.length),∃ v,(∀ x,x<10->a.cell? ⟨b,o+i * 10+x,none⟩=(pP c[i] v)[x]?)/\gS a v c[i].qs:=fun O=>by
  obtain⟨b,o,e,J,d⟩:=y O;refine⟨b,o,e,by omega,fun i M=>?_⟩
  obtain⟨v,H,I⟩:=d i M;exact⟨v,fun x P=>(g.cell (p:=⟨b,o+i * 10+x,none⟩) J).trans (H x P),I.up g⟩
 have A:mi a:=bH r K g;have E:=aa (playsJw k n l c blk w.heap.size 3 [1,2,3] (fun q s w=>JX a.heap.size blk q s w/\mi w) (fun q s w=>KX a.heap.size blk q s w/\mi w) a (jf2 a.heap.size blk a (by omega) A (ag_c a.heap.size blk u.1 (by omega))) (by simp) rfl (by omega) B N (by omega) D C t (by omega) u z);have F:=aa g;have G:=aa m;clear t z A r y D C B g m;go_enter func4,ntmps4
 go_wp2_with fail
 rw [<-f];clear f;refine E.out.mono ?_
 rintro e R ⟨rfl,L⟩;go_wp2
 go_ret
 have m:=G.out;exact⟨rfl,F.out.trans (L.mono (by omega))⟩
end Go.Proofs.YtlcnkcgmjnfbiaaGreatDoor
namespace Go.Proofs.YtlcnkcgmjnfbiaaGreatDoor
open Go.Proofs.Tryz
open Go.ChangeShapes Go.WideShapes Go.ChangeAt Go.RowKit Go.Joins
variable [dK] [iK]
def Wok {H:Type}(t:TypeId)(d:DataW H):Prop:=∀ a,a∈d.weights prog t->a<=reachBytes
theorem wall_mem {H:Type}{P:Program}{e:TypeId}{d:DataW H}:∀ {l:List (DataW H)},d∈l->∀ x,x∈d.weights P e->x∈DataW.weightsAll P e l
 | y :: r,a,x,hx=>by
  simp only [DataW.weightsAll,List.mem_append];rcases List.mem_cons.1 a with rfl | a
  ·exact il hx
  ·exact ir (wall_mem a x hx)
theorem Wok.elem {H:Type}{t e:TypeId}{l i:List (DataW H)}(f:prog.underlying t=some (.slice e))(b:Wok t (.slice l i)){d:DataW H}(c:d∈l):Wok e d:=fun a g=>b a (by
  simp only [DataW.weights,f,List.mem_cons,List.mem_append];exact ir (il (wall_mem c a g)))
theorem Wok.len {H:Type}{t e:TypeId}{l a:List (DataW H)}(c:prog.underlying t=some (.slice e))(b:Wok t (.slice l a)):(l.length+a.length) * prog.bytesOf e<=reachBytes:=b _ (by
  simp [DataW.weights,c])
theorem Tryz.bytesQ:prog.bytesOf 41=48:=by kernel_rfl
theorem Tryz.bytesS:1<=prog.bytesOf 46:=of_decide_eq_true (by kernel_rfl)
theorem reach_val:reachBytes=140737488351232:=by unfold reachBytes;rfl
theorem reqs_ofw {H:Type}{enc:TypeId×Value->H}{i:World}{base C:Nat}{Q:Nat->Bool}{J:Bool}{c:Value}{x:DataW H×List MemPlace}(K:DataW.trod enc prog i base Q J C 22 [c]=some x)(A:Wok 22 x.1) :
  ∃ o:List Rq,gS i c o/\(∀ q∈o,q.ok)/\o.length * 48<=reachBytes:=by
 rcases Deep.open_slice underlying22 K with ⟨j,_⟩ | ⟨g,d,r,P,X,R,S,j,U,M,V,N,O,w⟩
 ·simp at j;subst j;exact⟨[],⟨none,0,rfl,by simp,fun k=>(by simp at k)⟩,fun q l=>(by cases l),by simp⟩
 ·simp at j;subst j;have W:d<=P:=by rw [N];split <;> omega
  rw [Tryz.cells28] at w;have G:d * 48<=reachBytes:=by
   rw [O] at A;have:=A.len underlying22;rw [Tryz.bytesQ] at this;simp at this;omega
  have s:∀ a,a<d->∃ q:Rq,q.ok/\i.cells? base (g.add (a * 13)) 13=some (rqcl q):=by
   intro a b;obtain⟨T,t,E⟩:=w a (by omega);obtain⟨q,F,rfl⟩:=jfE (World.cells?_some t).2.1 E;exact⟨q,F.1,t⟩
  rcases Nat.eq_zero_or_pos d with D | y
  ·subst D;exact⟨[],⟨some g,r,rfl,by simp,fun k=>(by simp at k)⟩,fun q l=>(by cases l),by simp⟩
  ·have I:∃ f:Nat->Rq,∀ a,a<d->(f a).ok/\i.cells? base (g.add (a * 13)) 13=some (rqcl (f a)):=by
    refine⟨fun a=>if k:a<d then (s a k).choose else Rq.zero,fun a b=>?_⟩
    dsimp only;rw [dif_pos b];exact (s a b).choose_spec
   obtain⟨f,m⟩:=I;have u:∀ a,a<d->∀ e,e<13->i.cell? ((g.add (a * 13)).add e)=(rqcl (f a))[e]?:=fun a b e n=>(World.cells?_some (m a b).2).2.2 e n;have z:g.spot=none:=by
    have:=u 0 y 0 (by omega);exact World.cell?_spot (v:=.int .u8 (f 0).op) (by simpa [Addr.add] using this)
   obtain⟨p,B,Y⟩:=g;simp at z;subst z;refine⟨(List.range d).map f,⟨some ⟨p,B,none⟩,r,by simp,by simpa using M,fun _=>⟨p,B,rfl,World.cells?_block (m 0 y).2 (by omega),fun a b e n=>?_⟩⟩,fun q l=>?_,by simpa using G⟩
   ·have L:a<d:=by simpa using b
    have:=u a L e n;rw [Deep.add_add,Addr.add_lit] at this;rw [Nat.add_assoc,this];simp
   ·obtain⟨a,b,rfl⟩:=List.mem_map.1 l;exact (m a (List.mem_range.1 b)).1
theorem step_ofw {H:Type}{enc:TypeId×Value->H}{f:World}{base T:Nat}{bj:Nat->Bool}{U:Bool}{e:List Value}{x:DataW H×List MemPlace}
  (W:e.length=10) (V:DataW.trod enc prog f base bj U T 46 e=some x) (av:Wok 46 x.1):∃ (p:Sp) (v:Value),p.ok/\p.qs.length * 48<=reachBytes/\p.raw.size<=reachBytes/\e=pP p v/\gS f v p.qs:=by
 obtain⟨A,B,C,g,D,E,F,G,I,J,rfl⟩:=jfq W;obtain⟨bk,bl,bo,w,y,bs,bu,bv,bw,bz,bF,a0,_,k,l,m,n,o,q,r,s,t,u⟩:=mF underlying46 V;simp only [Tryz.cells3',Tryz.cells9',Tryz.cells28',Tryz.cells24] at k l m n o q r s t u;obtain⟨a2,rfl,_,_⟩:=iv (c:=A) k;obtain⟨K,rfl,L,M⟩:=iv (c:=B) l;obtain⟨a7,rfl,a8,a9⟩:=pM (c:=C) m;have j:∀ a,a∈DataW.weightsEach prog [3,3,24,22,9,3,3,3,3,3] [bk.1,bl.1,bo.1,w.1,y.1,bs.1,bu.1,bv.1,bw.1,bz.1]->a<=reachBytes:=fun a b=>av a (by rw [a0];simp only [DataW.weights,underlying46];exact b);have ao:Wok 22 w.1:=fun a b=>j a (by simp only [DataW.weightsEach,List.mem_append];exact ir (ir (ir (il b))));have i:Wok 9 y.1:=fun a b=>j a (by simp only [DataW.weightsEach,List.mem_append];exact ir (ir (ir (ir (il b)))));obtain⟨bi,X,Y,Z⟩:=reqs_ofw (c:=g) n ao;obtain⟨d,ad,a1,_⟩:=DataW.trod_string underlying9 o;obtain rfl:D=.string d:=by simpa using ad
 obtain⟨N,rfl,O,P⟩:=iv (c:=E) q;obtain⟨a4,rfl,a5,a6⟩:=iv (c:=F) r;obtain⟨Q,rfl,R,S⟩:=iv (c:=G) s;obtain⟨a3,rfl,_,_⟩:=iv (c:=I) t;obtain⟨bb,rfl,bd,bg⟩:=iv (c:=J) u;have z:d.size<=reachBytes:=by
  rw [a1] at i;have:=i d.data.toList.length (by simp [DataW.weights]);simpa using this
 exact⟨⟨a2,K,a7,bi,d,N,a4,Q,a3,bb⟩,g,⟨⟨L,M⟩,⟨a8,a9⟩,⟨O,P⟩,⟨bd,bg⟩,Y,⟨a5,a6⟩,⟨R,S⟩⟩,Z,z,rfl,X⟩
theorem open_stepsw {H:Type}{enc:TypeId×Value->H}{c:World}{av:Reach}{N base:Nat}{L:Nat->Bool}{G:Bool}{v:Value}{d:DataW H}{K:List MemPlace}
  (ao:Value.okWide prog c av N 58 v) (r:DataW.Trod enc prog c base L G 58 v d K) (y:Wok 58 d):∃ B n m,v=.slice B n m/\n<=m/\n<=reachBytes/\∃ s:List Sp,s.length=n/\(∀ p∈s,p.ok/\p.qs.length * 48<=reachBytes/\p.raw.size<=reachBytes)/\
   (0<n->∃ l o,B=some ⟨l,o,none⟩/\l<c.heap.size/\∀ i (r:i<s.length),∃ v,(∀ x,x<10->c.cell? ⟨l,o+i * 10+x,none⟩=(pP s[i] v)[x]?)/\gS c v s[i].qs):=by
 obtain⟨M,a,m,rfl⟩:=okWide_slice underlying58 ao;obtain⟨O,W⟩:=r;have X:DataW.trod enc prog c base L G O 58 [.slice M a m]=some (d,K):=by simpa [Value.cells] using W
 rcases Deep.open_slice underlying58 X with ⟨q,_⟩ | ⟨j,a6,a1,A,n,w,a0,q,a3,Z,a4,ad,z,F⟩
 ·simp at q;obtain⟨rfl,rfl,rfl⟩:=q;exact⟨none,0,0,rfl,by omega,Nat.zero_le _,[],rfl,fun p k=>(by cases k),fun r=>(by omega)⟩
 ·simp at q;obtain⟨rfl,rfl,rfl⟩:=q;have a5:a<=A:=by rw [ad];split <;> omega
  rw [Tryz.cells62] at F;have V:d=.slice ((List.range a).map w) ((List.range (A - a)).map fun f=>w (a+f)):=congrArg Prod.fst z;rw [V] at y;have T:a<=reachBytes:=by
   have:=y.len underlying58;have t:=Tryz.bytesS;simp at this;have D:a * 1<=(a+(A - a)) * prog.bytesOf 46:=Nat.mul_le_mul (Nat.le_add_right _ _) t;omega
  have C:∀ i,i<a->∃ g:Sp×Value,(g.1.ok/\g.1.qs.length * 48<=reachBytes/\g.1.raw.size<=reachBytes)/\gS c g.2 g.1.qs/\c.cells? base (j.add (i * 10)) 10=some (pP g.1 g.2):=by
   intro i e;obtain⟨a2,t,D⟩:=F i (by omega);obtain⟨p,v,P,Q,R,rfl,S⟩:=step_ofw (World.cells?_some t).2.1 D (y.elem (d:=w i) underlying58 (List.mem_map.2 ⟨i,List.mem_range.2 e,rfl⟩));exact⟨(p,v),⟨P,Q,R⟩,S,t⟩
  refine⟨some j,a,m,rfl,Z,T,?_⟩
  have U:∃ b:Nat->Sp×Value,∀ i,i<a->((b i).1.ok/\(b i).1.qs.length * 48<=reachBytes/\(b i).1.raw.size<=reachBytes)/\gS c (b i).2 (b i).1.qs/\c.cells? base (j.add (i * 10)) 10=some (pP (b i).1 (b i).2):=by
   refine⟨fun i=>if r:i<a then (C i r).choose else (⟨0,0,0,[],ByteArray.empty,0,0,0,0,0⟩,.slice none 0 0),fun i e=>?_⟩
   dsimp only;rw [dif_pos e];exact (C i e).choose_spec
  obtain⟨b,u⟩:=U;refine⟨(List.range a).map (fun i=>(b i).1),by simp,fun p k=>?_,fun k=>?_⟩
  ·obtain⟨i,e,rfl⟩:=List.mem_map.1 k;exact (u i (List.mem_range.1 e)).1
  ·have E:∀ i,i<a->∀ f,f<10->c.cell? ((j.add (i * 10)).add f)=(pP (b i).1 (b i).2)[f]?:=fun i e f Y=>(World.cells?_some (u i e).2.2).2.2 f Y;have J:j.spot=none:=by
    have:=E 0 k 0 (by omega);exact World.cell?_spot (v:=.int .i64 (b 0).1.kind) (by simpa [Addr.add] using this)
   obtain⟨l,o,a7⟩:=j;simp at J;subst J;refine⟨l,o,rfl,World.cells?_block (u 0 k).2.2 (by omega),fun i e=>?_⟩
   have I:i<a:=by simpa using e
   refine⟨(b i).2,fun x z=>?_,?_⟩
   ·have:=E i I x z;rw [Deep.add_add,Addr.add_lit] at this;rw [Nat.add_assoc,this];simp
   ·have:=(u i I).2.1;simpa using this
end Go.Proofs.YtlcnkcgmjnfbiaaGreatDoor
