import Derived.Test.YtnlgndpcddngoaaGreatDoorZ37
import Derived.Deep.RegionHeld3
set_option linter.all false
set_option maxRecDepth 100000
set_option maxHeartbeats 16000000
namespace Go.Proofs.YtnlgndpcddngoaaGreatDoor
open Go.Proofs.Tryz Go.RowKit Go.Maps
variable [dK] [iK]
theorem JX.kept {base:Nat}{blk:Int}{c e:Nat}{w w':World}(n:JX base blk c e w)(d:B7 w w'):JX base blk c e w':=by
 obtain⟨b,nb,z,j,t,kc,x,B,y,u,A,i,g,m,v,l,k,f,o,q,a,r,s⟩:=n;exact⟨b,nb,z,j,t,kc,x,B,y,u,A,i,g,m,v,l,k,f,o,q,a.kept d,r,(d.cell (p:=⟨b,5,none⟩) (a.host.hs.lt b a.host.hd)).trans s⟩
theorem KX.kept {base:Nat}{blk:Int}{e f:Nat}{w w':World}(a:KX base blk e f w)(b:B7 w w'):KX base blk e f w':=by
 obtain⟨x,m,r,kc,v,t,s,u,l,i,k,j,n,g,o,p,d,q⟩:=a;exact⟨x,m,r,kc,v,t,s,u,l,i,k,j,n,g,iO o b,p,d.kept b.size (fun c a=>b.block c (d.low c a).2),q⟩
theorem JX.wb {base:Nat}{blk:Int}{c a:Nat}{w:World}(e:JX base blk c a w):base<=w.heap.size/\a<w.heap.size/\w.cell? ⟨a,0,none⟩=some (.pointer (some ⟨c,0,none⟩)):=by
 obtain⟨n,nb,z,j,s,kc,x,B,y,u,A,i,g,m,v,l,k,f,o,p,b,q,r⟩:=e;obtain⟨t,⟨_,_,_,d,_⟩,_⟩:=b.law.blk;exact⟨b.law.bs,am d,ab d 0⟩
theorem jdN {base:Nat}{blk:Int}{d x:Nat}{n X:World}(a:JX base blk d x n)(D:B7 n X)(F u:Int)(Z:-9223372036854775808<=u)(ad:u<=9223372036854775807) :
  Calls prog 25 #[pO d 0,.int .i64 F,.int .i64 u] X fun e w'=>e=.returned (.tuple #[])/\KX base blk d x w'/\Below base X w'/\(∀ b,n.heap.size<=b->b<X.heap.size->w'.heap[b]?=X.heap[b]?)/\w'.cell? ⟨x,0,none⟩=some (.pointer (some ⟨d,0,none⟩)):=by
 obtain⟨f,nb,bg,H,W,kc,a9,a0,ao,Y,av,w,l,q,t,o,I,G,O,P,m,z,A⟩:=a;have c:=m.kept D;have B:X.cell? ⟨f,5,none⟩=some (.bool false):=(D.cell (p:=⟨f,5,none⟩) (m.host.hs.lt f m.host.hd)).trans A;refine (jdG d blk w base (HG d f l q t o) F u X (c.host.up B) c.law.bs Z ad).mono ?_
 rintro e w' ⟨rfl,j⟩;obtain⟨v,k,i,g,K,L,M,r,N⟩:∃ v k i g,bQ v w' d blk k i base g/\base<=v.heap.size/\DnX blk w k i/\ae (HG d f l q t o) X w'/\∀ b,g b->HG d f l q t o b\/X.heap.size<=b:=by
  rcases j with ⟨J,j⟩ | ⟨i,g,j,U,s,T⟩
  ·have s:ae (HG d f l q t o) X w':=by
    obtain⟨a3,a1,C,a7,a2,bb,bd,O,P,z,A,B,a4,a5,Q⟩:=j;exact Q.mono (fun b a _=>a.elim (fun a=>a▸C.1) (fun a=>a▸C.2.1))
   exact⟨X,_,_,_,j,c.law.bs,il ⟨J,rfl,rfl⟩,s,fun b a=>il a⟩
  ·exact⟨w',_,i,g,j,lq c.law.bs s.size,ir ⟨rfl,U⟩,s,T⟩
 have E:=c.law.kept r.size (fun b a=>r.block b (c.law.low b a).2 (c.dis b a));obtain⟨a8,⟨_,_,_,V,_⟩,_⟩:=E.blk;refine⟨rfl,⟨v,H,W,kc,a0,ao,Y,av,w,k,i,g,I,G,K,L,E,M,z.1,fun b a R=>?_⟩,r.below c.law.bs (fun b a=>c.host.lo b a),fun b a6 S=>r.block b S (fun a=>by have:=m.host.lt b a;omega),ab V 0⟩
 rcases N b R with y | y
 ·exact c.dis b a y
 ·have:=(c.law.low b a).2;omega
def rlM (b:List Sp)(i:Nat):Nat:=((b[i]?).map (fun a=>a.qs.length)).getD 0
def rsM (b:List Sp)(i:Nat):Nat:=((b[i]?).map (fun a=>a.raw.size)).getD 0
theorem tN (a:List Sp)(i:Nat)(b:i<a.length):rlM a i=a[i].qs.length:=by unfold rlM;rw [List.getElem?_eq_getElem b];rfl
theorem tT (a:List Sp)(i:Nat)(b:i<a.length):rsM a i=a[i].raw.size:=by unfold rsM;rw [List.getElem?_eq_getElem b];rfl
theorem wh (a rs:Nat->Nat):∀ (n i:Nat),i<n->26 * a i+rs i<=lZ a rs n
 | n+1,i,h=>by
  unfold lZ;rcases Nat.lt_or_ge i n with b | b
  ·have:=wh a rs n i b;omega
  ·have c:i=n:=by omega
   subst c;omega
structure Sp.ok (p:Sp):Prop where
 conn:-9223372036854775808<=p.conn/\p.conn<=9223372036854775807
 now:U7 p.now
 cut:-9223372036854775808<=p.cut/\p.cut<=9223372036854775807
 part:-9223372036854775808<=p.part/\p.part<=9223372036854775807
 qs:∀ q∈p.qs,q.ok
 left:-9223372036854775808<=p.left/\p.left<=9223372036854775807
 full:-9223372036854775808<=p.full/\p.full<=9223372036854775807
theorem sim0:gT 0 ⟨0,0,[]⟩ ⟨0,[]⟩:=⟨rfl,trivial,⟨by decide,by decide,fun c a=>(by cases a),fun c a=>(by cases a),List.nodup_nil,by decide⟩,⟨by decide,by decide,fun d b=>(by cases b)⟩⟩
theorem jf3 {w f j:World}{i db nb r o g:Nat}{q:Option Nat}{blk:Int}{v:Value}{s:Nat->Nat}{k:NP}(H:cL f i db nb r q blk ⟨0,true⟩ ⟨0,0,[]⟩ k w.heap.size (.slice none 0 0) 0 (fun _=>0) (fun _=>⟨[],false⟩))(O:w.heap.size<=f.heap.size)(l:World)(D:g=f.heap.size)(P:o=f.heap.size+1)(m:l=(f.alloc (uZ)).alloc (Oe i g blk))
  (c:OpI l o (fun v=>#[pO i 0,.pointer (some ⟨g,0,none⟩),v,.int .u64 blk,.bool false,.bool false,.int .u8 0,.int .u8 0,.int .u8 0,.int .u8 0,.int .u8 0,.int .u8 0,.int .u8 0,.int .u8 0,.int .u8 0,.int .u8 0,.int .u64 0,.int .u64 0,.int .u64 0,.int .u64 0,.int .u64 0,.int .u64 0,.int .u64 0]) 3 v s j):∃ n kc,dC j w.heap.size i db nb r o g n kc q blk s (fun _=>.slice none 0 0) (.slice none 0 0) false ⟨⟨0,0,[]⟩,⟨0,true⟩,none,bu 0⟩ k (.slice none 0 0) 0 (fun _=>0) (fun _=>⟨[],false⟩) ⟨⟨0,0,[]⟩,⟨0,true⟩,none,bu 0⟩ ⟨0,[]⟩ (fun _=>⟨[],false⟩):=by
 have K:l.heap.size=f.heap.size+2:=by rw [m];simp
 obtain⟨n,kc,p,L,M⟩:=c.own.form (by decide);have B:∀ b,b<f.heap.size->j.heap[b]?=f.heap[b]?:=fun b C=>(c.keep.block b (by omega) (by omega)).trans (by rw [m];exact (ah _ _ (by rw [World.size_alloc];omega)).trans (ah _ _ C));have E:j.heap[g]?=some (uZ):=(c.keep.block g (by omega) (by omega)).trans (by rw [m,D];exact (ah _ _ (by rw [World.size_alloc];omega)).trans (af _ _));have N:=c.keep.size;have G:∀ b,HG i db k (.slice none 0 0) 0 (fun _=>0) b->b<f.heap.size:=fun b a=>H.lt b a;refine⟨n,kc,⟨(H.kept (by omega) B).x,⟨⟨0,⟨⟨0,0,0,0,0,0,0,0,0,0,0,0,0⟩,0,0,by have:=c.blk;rw [p] at this;exact this,fun S a=>by cases a⟩,Int.le_refl _⟩,⟨E,World.ownsRow_nil _ _ _ _⟩,sim0,Int.le_refl _,?_,fun e d=>(c.st e d).1,fun e d=>il ⟨rfl,il rfl⟩,c.inj,fun e d a=>absurd rfl a,⟨by omega,by omega,fun e d=>by have:=(c.st e d).2;omega⟩,fun e d=>⟨fun R I=>(by cases I),by simp,fun _=>rfl⟩,by omega⟩,fun b a x=>?_,fun b a Q F=>absurd F (Nat.not_lt_zero _)⟩⟩
 ·have a:=c.own;rw [p] at a;refine⟨a.1,?_⟩
  rcases a.2 with a | ⟨A,t,u,y,J,z⟩
  ·exact il a
  ·exact ir ⟨A,t,u,y,by omega,z⟩
 ·have:=G b x;rcases a with a | a | a | a | ⟨e,d,a⟩ | ⟨e,d,a,_⟩
  ·omega
  ·omega
  ·omega
  ·simp [Value.ownBlock] at a
  ·have:=(c.st e d).2;omega
  ·exact a rfl
structure jeO (base:Nat)(blk:Int)(w:World)(ks:List Int)(J K:Nat->Nat->World->Prop):Prop where
 j0:∀ hb db nb sb wb bb kb kc mb tb F0 w5,dC w5 base hb db nb sb wb bb kb kc mb blk tb (fun _=>.slice none 0 0) (.slice none 0 0) false ⟨⟨0,0,[]⟩,⟨0,true⟩,none,bu 0⟩ F0 (.slice none 0 0) 0 (fun _=>0) (fun _=>⟨[],false⟩) ⟨⟨0,0,[]⟩,⟨0,true⟩,none,bu 0⟩ ⟨0,[]⟩ (fun _=>⟨[],false⟩)->Below base w w5->J hb wb w5
 js:∀ hb wb X X',J hb wb X->Below X.heap.size X X'->J hb wb X'
 jb:∀ hb wb X,J hb wb X->base<=X.heap.size/\wb<X.heap.size/\X.cell? ⟨wb,0,none⟩=some (.pointer (some ⟨hb,0,none⟩))
 ks_:∀ hb wb X X',K hb wb X->Below X.heap.size X X'->K hb wb X'
 one:1∈ks->∀ hb wb X (p:Sp) v,J hb wb X->gf X v p.qs->p.ok->p.qs.length<=1000->p.raw.size<=20000->Calls prog 23 #[pO wb 0,Ox p.kind p.conn p.now v p.raw p.cut p.left p.full p.kept p.part,.bool false] X fun e w'=>e=.returned (.bool true)/\J hb wb w'/\Below base X w'
 two:2∈ks->∀ hb wb X (p:Sp) v,J hb wb X->gf X v p.qs->p.ok->p.qs.length<=1000->p.raw.size<=20000->Calls prog 23 #[pO wb 0,Ox p.kind p.conn p.now v p.raw p.cut p.left p.full p.kept p.part,.bool true] X fun e w'=>e=.returned (.bool true)/\J hb wb w'/\Below base X w'
 lose:3∈ks->∀ hb wb Y X (p:Sp),J hb wb Y->Below Y.heap.size Y X->p.ok->bp p.part 2=0->Calls prog 25 #[pO hb 0,.int .i64 p.kept,.int .i64 p.part] X fun e w'=>e=.returned (.tuple #[])/\K hb wb w'/\Below base X w'/\(∀ b,Y.heap.size<=b->b<X.heap.size->w'.heap[b]?=X.heap[b]?)/\w'.cell? ⟨wb,0,none⟩=some (.pointer (some ⟨hb,0,none⟩))
 agk:3∈ks->∀ hb wb X (p:Sp) v,K hb wb X->p.ok->bp p.part 2=0->Calls prog 26 #[pO wb 0,Ox p.kind p.conn p.now v p.raw p.cut p.left p.full p.kept p.part] X fun e w'=>e=.returned (.bool true)/\J hb wb w'/\Below base X w'
 agj:3∈ks->∀ hb wb X (p:Sp) v,J hb wb X->p.ok->bp p.part 2=1->Calls prog 26 #[pO wb 0,Ox p.kind p.conn p.now v p.raw p.cut p.left p.full p.kept p.part] X fun e w'=>e=.returned (.bool true)/\J hb wb w'/\Below base X w'
theorem jfB (b2:Option Addr)(n b3:Nat)(c:List Sp)(blk:Int)(z H:Nat)(ks:List Int)(di dk:Nat->Nat->World->Prop)(w:World)(dl:jeO w.heap.size blk w ks di dk)(d7:∀ k∈ks,k=1\/k=2\/k=3)(eb:ks.length=H)(hq:H<=3)(d9:c.length=n)(gc:n<=b3)(hp:n<=140737488355328)(V:∀ p∈c,p.qs.length<=140737488355328/\p.raw.size<=140737488355328)(ef:∀ p∈c,p.ok)(dt:∀ b (a:b<ks.length),w.cell? ⟨z,b,none⟩=some (.int .i64 ks[b]))(hd:z<w.heap.size)(f3:U7 blk)
  (cl:0<n->∃ I o,b2=some ⟨I,o,none⟩/\I<w.heap.size/\∀ i (a:i<c.length),∃ v,(∀ x,x<10->w.cell? ⟨I,o+i * 10+x,none⟩=(kr c[i] v)[x]?)/\gf w v c[i].qs) :
  Calls prog 9 #[.slice b2 n b3,.int .u64 blk,.slice (some ⟨z,0,none⟩) H H] w fun e w'=>e=.returned (.bool true)/\Below w.heap.size w w':=by
 have e2:=aa (jeA b2 n b3 (rlM c) (rsM c) w gc (by omega) (fun i U=>by rw [tN c i (by omega)];have:=(V _ (List.getElem_mem (show i<c.length by omega))).1;omega) (fun i U=>by rw [tT c i (by omega)];have:=(V _ (List.getElem_mem (show i<c.length by omega))).2;omega) (fun a=>by
   obtain⟨I,o,e,dn,bl⟩:=cl a;refine⟨I,o,e,dn,fun i U=>?_⟩
   have N:i<c.length:=by omega
   obtain⟨v,es,gv,gF,rfl,_⟩:=bl i N;exact⟨⟨gv,gF,by rw [es 3 (by omega),tN c i N];rfl⟩,c[i].raw,by rw [es 4 (by omega)];rfl,(tT c i N).symm⟩))
 have e6:=aa cl;have fd:=aa d9;have ff:=aa ef;have e8:=aa dt;have D:=aa dl;have e9:=aa d7;have c3:=aa eb;clear cl d9 ef dt V dl d7 eb;go_enter func9,ntmps9
 go_wp2_with fail
 refine e2.out.mono ?_
 rintro e cG ⟨⟨d,rfl,W⟩,ch⟩;have c9:=aa W;have cX:=aa ch;have go:=ch.size;clear W ch;cases d with
 | false=>
  go_wp2
  go_ret
  exact⟨rfl,cX.out⟩
 | true=>
  have W:=c9.out rfl;have fo:=aa W;clear W c9;go_wp2_with fail
  refine (jau blk _).mono ?_
  rintro e eX ⟨nb,rfl,b7,T,a6,b9,f0,dm⟩;obtain⟨f,b5⟩:∃ f,f=cG.heap.size+2:=⟨_,rfl⟩;obtain⟨ad,b4⟩:∃ ad,ad=cG.heap.size+1:=⟨_,rfl⟩;obtain⟨av,b6⟩:∃ av,av=cG.heap.size:=⟨_,rfl⟩;rw [<-b4,<-b6] at T;rw [<-b5,<-b4] at b7;rw [<-b6] at a6;have O:=aa (cX.out.trans (dm.mono go));have db:Hid (w.heap.size<=av/\av<ad/\ad<f/\f<nb/\nb<eX.heap.size):=aa ⟨by omega,by omega,by omega,by omega,am b9⟩;rw [<-b5];clear b5 b4 b6 f0 dm;go_wp2_with fail
  refine (sT f ad nb av _ _ blk _ _ eX f3 b7 T a6 b9 (by have:=db.out;omega)).mono ?_
  rintro e a1 ⟨eV,e1,rfl,gt,et,cx,ey,ez,ev⟩;have g:=db.out;have c0:Hid (Below w.heap.size w a1):=aa (O.out.trans (ev.below (by omega) (fun k m=>by omega)));have cU:cL a1 f ad nb eV (some av) blk ⟨0,true⟩ ⟨0,0,[]⟩ e1 w.heap.size (.slice none 0 0) 0 (fun _=>0) (fun _=>⟨[],false⟩):=by
   refine⟨et,cx.dskF,cx,fun i U=>absurd U (Nat.not_lt_zero _),fun i b U=>absurd U (Nat.not_lt_zero _),World.ownsRow_nil _ _ _ _,fun hc f7 f1=>?_,fun d d0=>?_,fun _ _=>rfl⟩
   ·rcases f7 with a | a | a
    ·exact ez (a▸f1)
    ·exact a
    ·simp [Value.ownBlock] at a
   ·rcases d0 with a | a | a | a | ⟨i,U,a⟩
    ·omega
    ·omega
    ·rcases ey d a with a | a | a | a <;> omega
    ·simp [Value.ownBlock] at a
    ·omega
  have bw:=aa cU;clear b7 T a6 b9 gt et cx ev ey ez cU g;go_wp2_with fail
  refine (is17 f eV _ _ _ a1 bw.out.hh).mono ?_
  rintro e hD ⟨rfl,d4⟩;rw [d4];clear d4;go_wp2_with fail
  obtain⟨bi,ci⟩:∃ bi,bi=a1.heap.size:=⟨_,rfl⟩;obtain⟨y,bo⟩:∃ y,y=a1.heap.size+1:=⟨_,rfl⟩;obtain⟨a5,F⟩:∃ a5,a5=(a1.alloc (uZ)).alloc (Oe f bi blk):=⟨_,rfl⟩;rw [<-bo];rw [<-ci];rw [<-F];have dR:a5.heap[y]?=some (Oe f bi blk):=by rw [F,bo];exact aC (by simp)
  refine (tj y _ _ _ _ _ _ _ _ _ _ _ _ _ _ _ _ _ _ _ _ _ _ _ a5 dR).mono ?_
  rintro e g9 ⟨rfl,v,hC,S⟩;have gp:=c0.out.size;obtain⟨hr,kc,cV⟩:=jf3 bw.out gp a5 ci bo (by rw [F]) S;have cb:Below w.heap.size w g9:=c0.out.trans ⟨S.keep.os.trans (by rw [F];rfl),S.keep.tape.trans (by rw [F];rfl),S.keep.output.trans (by rw [F];rfl),by have:=S.keep.size;rw [F] at this;simp at this;omega,fun d d0=>(S.keep.block d (by rw [F];simp;omega) (by omega)).trans (by rw [F];exact (ah _ _ (by rw [World.size_alloc];omega)).trans (ah _ _ (by omega)))⟩;have e5:=aa (D.out.j0 _ _ _ _ _ _ _ _ _ _ _ _ cV cb);have c1:=aa cb;clear cV cb S dR F ci bo bw;obtain⟨L,d1⟩:∃ L,L=w.heap.size:=⟨_,rfl⟩;rw [<-d1] at c1 D;have e4:=aa d1;go_wp2_with fail
  go_loopw [12] (fun cz wr=>∃ i:Nat,i<=n/\cz=.int .i64 i/\di f y wr/\Below L w wr) (fun cz _=>n - (intOf cz).toNat)
  case atStart=>exact⟨0,Nat.zero_le _,rfl,e5.out,c1.out⟩
  case round=>
   obtain⟨i,hj,rfl,c2,ck⟩:=hrel;obtain⟨l,rfl⟩:∃ l,l=wr:=⟨_,rfl⟩;have bK:=aa c2;have J:=aa ck;have hh:=ck.size;clear c2 ck;by_cases d8:i<n
   ·have gb:(i:Int)<(n:Int):=by omega
    have hi:(0:Int)<=(i:Int):=by omega
    have N:i<c.length:=by rw [fd.out];exact d8
    obtain⟨I,o,rfl,dn,bl⟩:=e6.out (by omega);obtain⟨v,cn,eo⟩:=bl i N;obtain⟨p,bb⟩:∃ p,p=c[i]:=⟨_,rfl⟩;rw [<-bb] at cn eo;have ei:p.ok:=bb▸ff.out _ (List.getElem_mem N);have er:=wh (rlM c) (rsM c) n i d8;rw [tN c i N,tT c i N,<-bb] at er;have W:=fo.out;have V:p.qs.length<=1000:=by omega
    have el:p.raw.size<=20000:=by omega
    obtain⟨t,u,rfl,em,en⟩:=eo;have m:∀ x,x<10->l.cell? ⟨I,o+i * 10+x,none⟩=(kr p (.slice t p.qs.length u))[x]?:=fun x gs=>(J.out.cell (p:=⟨I,o+i * 10+x,none⟩) (by show I<L;omega)).trans (cn x gs);have cy:=m 0 (by omega);have eA:=m 1 (by omega);have eB:=m 2 (by omega);have eD:=m 3 (by omega);have eE:=m 4 (by omega);have eF:=m 5 (by omega);have eL:=m 6 (by omega);have eN:=m 7 (by omega);have eQ:=m 8 (by omega);have eS:=m 9 (by omega);rw [Nat.add_zero] at cy;have cw:gf l (.slice t p.qs.length u) p.qs:=⟨t,u,rfl,em,fun a=>by
      obtain⟨Y,bd,e,ds,T⟩:=en a;exact⟨Y,bd,e,by omega,fun k m b cp=>(J.out.cell (p:=⟨Y,bd+k * 13+b,none⟩) (by show Y<L;omega)).trans (T k m b cp)⟩⟩
    obtain⟨C,cv⟩:∃ C,C=p.qs.length:=⟨_,rfl⟩;rw [<-cv] at cw cy eA eB eD eE eF eL eN eQ eS V;have fn:=aa cw;have Q:=aa ei;have fl:=aa cv;have hb:=aa bb;have c7:=aa el;have fm:=aa V;clear m cn en bl cw ei er W bb em cv el V;go_wp2_with fail
    obtain⟨s,a7⟩:∃ s,s=l.heap.size:=⟨_,rfl⟩;obtain⟨K,a8⟩:∃ K,K=l.alloc (oJ p.kind p.conn p.now (.slice t C u) p.raw p.cut p.left p.full p.kept p.part):=⟨_,rfl⟩;rw [<-a7,<-a8];have cc:Below l.heap.size l K:=by rw [a8];exact ba l
    have dN:K.heap[s]?=some (oJ p.kind p.conn p.now (.slice t C u) p.raw p.cut p.left p.full p.kept p.part):=by rw [a8,a7];exact af _ _
    have he:K.heap.size=s+1:=by rw [a8,a7];simp
    have dv:∀ b (a:b<ks.length),K.cell? ⟨z,b,none⟩=some (.int .i64 ks[b]):=fun b a=>(cc.cell (p:=⟨z,b,none⟩) (by show z<l.heap.size;omega)).trans ((J.out.cell (p:=⟨z,b,none⟩) (by show z<L;omega)).trans (e8.out b a));have f2:z<K.heap.size:=by omega
    have fr:=aa cc;have fs:=aa dN;have fa:=aa dv;have c6:=aa a7;clear a8 cc dN dv cy eA eB eD eE eF eL eN eQ eS a7;go_loopw [14,15] (fun g7 cF j=>∃ (b:Nat) (Z:Bool),b<=H/\cF=.int .i64 b/\g7=.bool Z/\(Z=true↔p.kind∈ks.take b)/\Below K.heap.size K j) (fun _ cF _=>H - (intOf cF).toNat)
    case atStart=>exact⟨0,false,by omega,rfl,rfl,by simp,Below.refl _ _⟩
    case round=>
     obtain⟨b,Z,hl,rfl,rfl,d2,bk⟩:=hrel;obtain⟨j,rfl⟩:∃ j,j=wr:=⟨_,rfl⟩;have q:=(bk.block s (by omega)).trans fs.out;have gN:=ab q 0;have hg:=bk.size;have a4:=aa bk;have bv:=aa d2;clear bk d2;by_cases f8:b<H
     ·have a9:b<ks.length:=by rw [c3.out];exact f8
      obtain⟨X,cr⟩:∃ X,X=ks[b]:=⟨_,rfl⟩;have hf:j.cell? ⟨z,b,none⟩=some (.int .i64 X):=(a4.out.cell (p:=⟨z,b,none⟩) f2).trans (by rw [cr];exact fa.out b a9);have eq:∀ d:Bool,(d=true↔(p.kind∈ks.take b\/p.kind=X))->(d=true↔p.kind∈ks.take (b+1)):=fun d a=>by
       rw [a,List.take_add_one,List.getElem?_eq_getElem a9,<-cr];simp only [Option.toList,List.mem_append,List.mem_singleton]
      have b0:=aa eq;have dd:=aa q;have hk:(b:Int)<(H:Int):=by omega
      have hn:(0:Int)<=(b:Int):=by omega
      clear q eq cr;cases Z with
      | true=>
       have O:Hid (∀ d:Bool,d=true->(d=true↔p.kind∈ks.take (b+1))):=aa (fun d f=>b0.out d ⟨fun _=>il (bv.out.1 rfl),fun _=>f⟩);go_upto_region 19 with fail
       go_region
       all_goals go_wp2
       all_goals go_roundw
       all_goals first
        | exact⟨b+1,true,by omega,by go_num,rfl,O.out true rfl,a4.out.drew⟩
        | (simp [intOf];omega)
      | false=>
       have ct:¬p.kind∈ks.take b:=fun a=>by have:=bv.out.2 a;cases this
       by_cases G:p.kind=X
       ·have O:Hid (true=true↔p.kind∈ks.take (b+1)):=aa (b0.out true ⟨fun _=>ir G,fun _=>rfl⟩);have gg:(p.kind==X)=true:=by simp [G]
        clear G ct;go_upto_region 19 with fail
        go_region
        all_goals go_wp2
        all_goals go_roundw
        all_goals first
         | exact⟨b+1,true,by omega,by go_num,rfl,O.out,a4.out.drew⟩
         | (simp [intOf];omega)
       ·have O:Hid (false=true↔p.kind∈ks.take (b+1)):=aa (b0.out false ⟨(fun a=>absurd a (by simp)),fun a=>a.elim (fun a=>absurd a ct) (fun a=>absurd a G)⟩);have gg:(p.kind==X)=false:=by simp [G]
        clear G ct;go_upto_region 19 with fail
        go_region
        all_goals go_wp2
        all_goals go_roundw
        all_goals first
         | exact⟨b+1,false,by omega,by go_num,rfl,O.out,a4.out.drew⟩
         | (simp [intOf];omega)
     ·have a9:b=H:=by omega
      have cq:Z=true↔p.kind∈ks:=by
       have a:=bv.out;rw [a9,List.take_of_length_le (by rw [c3.out];omega)] at a;exact a
      have hm:¬(b:Int)<(H:Int):=by omega
      have E:Hid (Below l.heap.size l j):=aa (fr.out.trans (a4.out.mono (by have:=c6.out;omega)));have a3:=aa (D.out.js _ _ _ _ bK.out E.out);have df:Hid (l.heap.size<=s/\s<j.heap.size):=aa ⟨by have:=c6.out;omega,by omega⟩;have dd:=aa q;have d3:L<=l.heap.size:=(D.out.jb _ _ _ bK.out).1;have a2:=aa d3;clear a9 d3;cases Z with
      | false=>
       clear q cq;go_wp2
       go_roundw
       case rel=>exact⟨i+1,by omega,by go_num,a3.out,J.out.trans (E.out.mono a2.out)⟩
       case measure=>simp [intOf];omega
      | true=>
       have cs:=cq.1 rfl;have bz:=aa cs;have f5:=e9.out _ cs;have gR:=ab q 1;have gV:=ab q 2;have g0:=ab q 3;have g1:=ab q 4;have g2:=ab q 5;have g3:=ab q 6;have g4:=ab q 7;have g5:=ab q 8;have g6:=ab q 9;have ek:gf j (.slice t C u) p.qs:=by
        obtain⟨fv,fz,fD,f4,T⟩:=fn.out;refine⟨fv,fz,fD,f4,fun a=>?_⟩
        obtain⟨Y,bd,fN,ds,a6⟩:=T a;exact⟨Y,bd,fN,by have:=E.out.size;omega,fun k m b cp=>(E.out.cell (p:=⟨Y,bd+k * 13+b,none⟩) ds).trans (a6 k m b cp)⟩
       have c8:=aa ek;have ej:p.qs.length<=1000:=by have:=fm.out;have:=fl.out;omega
       have c5:=aa ej;clear ek q cq cs ej;rcases f5 with r | r | r
       ·have bs:=aa (D.out.one (by rw [<-r];exact bz.out) f y j p (.slice t C u) a3.out c8.out Q.out c5.out c7.out);have d6:(p.kind==1)=true:=by simp [r]
        clear r;go_wp2_with fail
        refine bs.out.mono ?_
        rintro e e0 ⟨rfl,B,A⟩;have R:=aa B;have P:=aa A;clear B A;go_wp2
        go_roundw
        case rel=>exact⟨i+1,by omega,by go_num,R.out,(J.out.trans (E.out.mono a2.out)).trans P.out⟩
        case measure=>simp [intOf];omega
       ·have bs:=aa (D.out.two (by rw [<-r];exact bz.out) f y j p (.slice t C u) a3.out c8.out Q.out c5.out c7.out);have d6:(p.kind==1)=false:=by simp [r]
        have f9:(p.kind==2)=true:=by simp [r]
        clear r;go_wp2_with fail
        refine bs.out.mono ?_
        rintro e e0 ⟨rfl,B,A⟩;have R:=aa B;have P:=aa A;clear B A;go_wp2
        go_roundw
        case rel=>exact⟨i+1,by omega,by go_num,R.out,(J.out.trans (E.out.mono a2.out)).trans P.out⟩
        case measure=>simp [intOf];omega
       ·have b8:3∈ks:=by rw [<-r];exact bz.out
        have d6:(p.kind==1)=false:=by simp [r]
        have f9:(p.kind==2)=false:=by simp [r]
        have ho:(p.kind==3)=true:=by simp [r]
        have c4:=aa (fun w=>pH p.part 2 w (by omega) (by omega) Q.out.part.1 Q.out.part.2);obtain⟨a0,G⟩:∃ a0,a0=bp p.part 2:=⟨_,rfl⟩;have gl:=gB p.part 2 (by omega);rw [<-G] at c4 gl;have bF:=aa G;clear r G;go_wp2_with fail
        refine (c4.out _).mono ?_
        rintro e e0 ⟨rfl,d5⟩;rw [d5];clear d5;by_cases ao:a0=0
        ·have fb:=aa (D.out.lose b8 f y l j.drew p bK.out (E.out.trans ((Below.refl _ j).drew.mono E.out.size)) Q.out (by rw [<-bF.out];exact ao));have gd:(a0==0)=true:=by simp [ao]
         have fi:=aa ao;obtain⟨_,gr,gq⟩:=D.out.jb _ _ _ a3.out;have e7:Hid (∀ bg:World,(∀ d,l.heap.size<=d->d<j.drew.heap.size->bg.heap[d]?=j.drew.heap[d]?)->bg.heap[s]?=some (oJ p.kind p.conn p.now (.slice t C u) p.raw p.cut p.left p.full p.kept p.part)):=aa (fun bg a=>(a s df.out.1 df.out.2).trans dd.out);clear ao;go_upto_region 28 with fail
         go_cut [] (fun cR=>dk f y cR/\Below L j cR/\cR.heap[s]?=some (oJ p.kind p.conn p.now (.slice t C u) p.raw p.cut p.left p.full p.kept p.part))
         case first=>
          go_region_held3 (fun w'=>w'.cell? ⟨y,0,none⟩=some (.pointer (some ⟨f,0,none⟩))/\w'.cell? ⟨s,8,none⟩=some (.int .i64 p.kept)/\w'.cell? ⟨s,9,none⟩=some (.int .i64 p.part)) (first | go_keep | (exact f6))
           (first | (go_at_call 25;refine fb.out.mono ?_;rintro e bg ⟨rfl,bj,M,fU,fV⟩;have g:=e7.out bg fU;have f6:=aN fV (aN (ab g 8) (ab g 9))))
          all_goals (go_wp2_with fail;go_meet)
          all_goals exact⟨bj,⟨M.os,M.tape,M.output,M.size,M.block⟩,g⟩
         case rest=>
          obtain⟨b1,rfl⟩:∃ b1,b1=wc:=⟨_,rfl⟩;obtain⟨bj,M,g⟩:=hcut;have hs:=ab g 0;have ht:=ab g 1;have hu:=ab g 2;have hv:=ab g 3;have hw:=ab g 4;have hx:=ab g 5;have hy:=ab g 6;have hz:=ab g 7;have hA:=ab g 8;have hB:=ab g 9;have bu:=aa (D.out.agk b8 f y b1 p (.slice t C u) bj Q.out (by rw [<-bF.out];exact fi.out));have e3:=aa M;clear bj M g gN gR gV g0 g1 g2 g3 g4 g5 g6 gr gq;go_wp2_with fail
          refine bu.out.mono ?_
          rintro e ha ⟨rfl,B,A⟩;have R:=aa B;have P:=aa A;clear B A;go_wp2
          go_roundw
          case rel=>exact⟨i+1,by omega,by go_num,R.out,((J.out.trans (E.out.mono a2.out)).trans e3.out).trans P.out⟩
          case measure=>simp [intOf];omega
        ·have eg:a0=1:=by omega
         have gd:(a0==0)=false:=by simp [ao]
         have bu:=aa (D.out.agj b8 f y j p (.slice t C u) a3.out Q.out (by rw [<-bF.out];exact eg));clear ao eg;go_wp2_with fail
         refine bu.out.mono ?_
         rintro e ha ⟨rfl,B,A⟩;have R:=aa B;have P:=aa A;clear B A;go_wp2
         go_roundw
         case rel=>exact⟨i+1,by omega,by go_num,R.out,(J.out.trans (E.out.mono a2.out)).trans P.out⟩
         case measure=>simp [intOf];omega
   ·have gb:¬(i:Int)<(n:Int):=by omega
    go_wp2
    go_ret
    exact⟨rfl,e4.out▸J.out⟩
end Go.Proofs.YtnlgndpcddngoaaGreatDoor
namespace Go.Proofs.YtnlgndpcddngoaaGreatDoor
open Go.Proofs.Tryz
open Go.ChangeShapes Go.WideShapes Go.ChangeAt Go.RowKit Go.Joins
variable [dK] [iK]
theorem mJ {H:Type}{enc:TypeId×Value->H}{P:Program}{w:World}{base:Nat}{c:Nat->Bool}{b:Bool}{t:TypeId}{e f g i j k l m o p:Field}{D:Nat}{a:List Value}{x:DataW H×List MemPlace}(I:P.underlying t=some (.struct #[e,f,g,i,j,k,l,m,o,p]))(E:DataW.trod enc P w base c b D t a=some x) :
  ∃ q r s u v y z A B C n,x.1=.agg [q.1,r.1,s.1,u.1,v.1,y.1,z.1,A.1,B.1,C.1]/\a.length=P.cellsOf t/\
   DataW.trod enc P w base c b n e.type ((a.drop e.offset).take (P.cellsOf e.type))=some q/\DataW.trod enc P w base c b n f.type ((a.drop f.offset).take (P.cellsOf f.type))=some r/\
   DataW.trod enc P w base c b n g.type ((a.drop g.offset).take (P.cellsOf g.type))=some s/\DataW.trod enc P w base c b n i.type ((a.drop i.offset).take (P.cellsOf i.type))=some u/\
   DataW.trod enc P w base c b n j.type ((a.drop j.offset).take (P.cellsOf j.type))=some v/\DataW.trod enc P w base c b n k.type ((a.drop k.offset).take (P.cellsOf k.type))=some y/\
   DataW.trod enc P w base c b n l.type ((a.drop l.offset).take (P.cellsOf l.type))=some z/\DataW.trod enc P w base c b n m.type ((a.drop m.offset).take (P.cellsOf m.type))=some A/\
   DataW.trod enc P w base c b n o.type ((a.drop o.offset).take (P.cellsOf o.type))=some B/\DataW.trod enc P w base c b n p.type ((a.drop p.offset).take (P.cellsOf p.type))=some C:=by
 obtain⟨J,n,_,rfl,F,G,d⟩:=DataW.trod_struct I E;match J,G with
 | [q,r,s,u,v,y,z,A,B,C],_=>exact⟨q,r,s,u,v,y,z,A,B,C,n,by simp,F,by simpa using d 0 e rfl,by simpa using d 1 f rfl,by simpa using d 2 g rfl,by simpa using d 3 i rfl,by simpa using d 4 j rfl,by simpa using d 5 k rfl,by simpa using d 6 l rfl,by simpa using d 7 m rfl,by simpa using d 8 o rfl,by simpa using d 9 p rfl⟩
theorem Tryz.cells62:prog.cellsOf 69=10:=by kernel_rfl
theorem Tryz.cells3':prog.cellsOf 3=1:=by kernel_rfl
theorem Tryz.cells9':prog.cellsOf 9=1:=by kernel_rfl
theorem Tryz.cells28':prog.cellsOf 28=1:=by kernel_rfl
theorem iv {H:Type}{enc:TypeId×Value->H}{d:World}{base n:Nat}{i:Nat->Bool}{g:Bool}{c:Value}{x:DataW H×List MemPlace}(e:DataW.trod enc prog d base i g n 3 [c]=some x):∃ a,c=.int .i64 a/\-9223372036854775808<=a/\a<=9223372036854775807:=by
 obtain⟨a,b,_,j⟩:=DataW.trod_int underlying3 e;have f:=bounds_i64 j;simp at b;exact⟨a,b,f.1,by omega⟩
theorem jft {l:List Value}(m:l.length=10):∃ a b c d e f g i j k,l=[a,b,c,d,e,f,g,i,j,k]:=by
 match l,m with
 | [a,b,c,d,e,f,g,i,j,k],_=>exact⟨a,b,c,d,e,f,g,i,j,k,rfl⟩
def jbn {H:Type}(t:TypeId)(d:DataW H):Prop:=∀ a,a∈d.weights prog t->a<=reachBytes
theorem gh {H:Type}{P:Program}{e:TypeId}{d:DataW H}:∀ {l:List (DataW H)},d∈l->∀ x,x∈d.weights P e->x∈DataW.weightsAll P e l
 | y :: r,a,x,hx=>by
  simp only [DataW.weightsAll,List.mem_append];rcases List.mem_cons.1 a with rfl | a
  ·exact il hx
  ·exact ir (gh a x hx)
theorem jbn.elem {H:Type}{t e:TypeId}{l i:List (DataW H)}(f:prog.underlying t=some (.slice e))(b:jbn t (.slice l i)){d:DataW H}(c:d∈l):jbn e d:=fun a g=>b a (by
  simp only [DataW.weights,f,List.mem_cons,List.mem_append];exact ir (il (gh c a g)))
theorem jbn.len {H:Type}{t e:TypeId}{l a:List (DataW H)}(c:prog.underlying t=some (.slice e))(b:jbn t (.slice l a)):(l.length+a.length) * prog.bytesOf e<=reachBytes:=b _ (by
  simp [DataW.weights,c])
theorem Tryz.bytesQ:prog.bytesOf 65=48:=by kernel_rfl
theorem Tryz.bytesS:1<=prog.bytesOf 69:=of_decide_eq_true (by kernel_rfl)
theorem kI:reachBytes=140737488351232:=by unfold reachBytes;rfl
theorem jev {H:Type}{enc:TypeId×Value->H}{i:World}{base B:Nat}{P:Nat->Bool}{I:Bool}{c:Value}{x:DataW H×List MemPlace}(J:DataW.trod enc prog i base P I B 28 [c]=some x)(z:jbn 28 x.1) :
  ∃ qs:List Rq,gf i c qs/\(∀ q∈qs,q.ok)/\qs.length * 48<=reachBytes:=by
 rcases Deep.open_slice underlying28 J with ⟨j,_⟩ | ⟨g,d,p,O,W,Q,R,j,T,L,U,M,N,u⟩
 ·simp at j;subst j;exact⟨[],⟨none,0,rfl,by simp,fun k=>(by simp at k)⟩,fun q l=>(by cases l),by simp⟩
 ·simp at j;subst j;have V:d<=O:=by rw [M];split <;> omega
  rw [Tryz.cells28] at u;have F:d * 48<=reachBytes:=by
   rw [N] at z;have:=z.len underlying28;rw [Tryz.bytesQ] at this;simp at this;omega
  have r:∀ a,a<d->∃ q:Rq,q.ok/\i.cells? base (g.add (a * 13)) 13=some (rqcl q):=by
   intro a b;obtain⟨S,s,D⟩:=u a (by omega);obtain⟨q,E,rfl⟩:=jfI (World.cells?_some s).2.1 D;exact⟨q,E.1,s⟩
  rcases Nat.eq_zero_or_pos d with C | w
  ·subst C;exact⟨[],⟨some g,p,rfl,by simp,fun k=>(by simp at k)⟩,fun q l=>(by cases l),by simp⟩
  ·have G:∃ f:Nat->Rq,∀ a,a<d->(f a).ok/\i.cells? base (g.add (a * 13)) 13=some (rqcl (f a)):=by
    refine⟨fun a=>if k:a<d then (r a k).choose else Rq.zero,fun a b=>?_⟩
    dsimp only;rw [dif_pos b];exact (r a b).choose_spec
   obtain⟨f,m⟩:=G;have t:∀ a,a<d->∀ e,e<13->i.cell? ((g.add (a * 13)).add e)=(rqcl (f a))[e]?:=fun a b e n=>(World.cells?_some (m a b).2).2.2 e n;have y:g.spot=none:=by
    have:=t 0 w 0 (by omega);exact World.cell?_spot (v:=.int .u8 (f 0).op) (by simpa [Addr.add] using this)
   obtain⟨o,A,X⟩:=g;simp at y;subst y;refine⟨(List.range d).map f,⟨some ⟨o,A,none⟩,p,by simp,by simpa using L,fun _=>⟨o,A,rfl,World.cells?_block (m 0 w).2 (by omega),fun a b e n=>?_⟩⟩,fun q l=>?_,by simpa using F⟩
   ·have K:a<d:=by simpa using b
    have:=t a K e n;rw [Deep.add_add,Addr.add_lit] at this;rw [Nat.add_assoc,this];simp
   ·obtain⟨a,b,rfl⟩:=List.mem_map.1 l;exact (m a (List.mem_range.1 b)).1
theorem jeE {H:Type}{enc:TypeId×Value->H}{f:World}{base T:Nat}{bj:Nat->Bool}{U:Bool}{e:List Value}{x:DataW H×List MemPlace}
  (W:e.length=10) (V:DataW.trod enc prog f base bj U T 69 e=some x) (av:jbn 69 x.1):∃ (p:Sp) (v:Value),p.ok/\p.qs.length * 48<=reachBytes/\p.raw.size<=reachBytes/\e=kr p v/\gf f v p.qs:=by
 obtain⟨A,B,C,g,D,E,F,G,I,J,rfl⟩:=jft W;obtain⟨bk,bl,bo,w,y,bs,bu,bv,bw,bz,bF,a0,_,k,l,m,n,o,q,r,s,t,u⟩:=mJ underlying69 V;simp only [Tryz.cells3',Tryz.cells9',Tryz.cells28',Tryz.cells24] at k l m n o q r s t u;obtain⟨a2,rfl,_,_⟩:=iv (c:=A) k;obtain⟨K,rfl,L,M⟩:=iv (c:=B) l;obtain⟨a7,rfl,a8,a9⟩:=pU (c:=C) m;have j:∀ a,a∈DataW.weightsEach prog [3,3,23,28,9,3,3,3,3,3] [bk.1,bl.1,bo.1,w.1,y.1,bs.1,bu.1,bv.1,bw.1,bz.1]->a<=reachBytes:=fun a b=>av a (by rw [a0];simp only [DataW.weights,underlying69];exact b);have ao:jbn 28 w.1:=fun a b=>j a (by simp only [DataW.weightsEach,List.mem_append];exact ir (ir (ir (il b))));have i:jbn 9 y.1:=fun a b=>j a (by simp only [DataW.weightsEach,List.mem_append];exact ir (ir (ir (ir (il b)))));obtain⟨bi,X,Y,Z⟩:=jev (c:=g) n ao;obtain⟨d,ad,a1,_⟩:=DataW.trod_string underlying9 o;obtain rfl:D=.string d:=by simpa using ad
 obtain⟨N,rfl,O,P⟩:=iv (c:=E) q;obtain⟨a4,rfl,a5,a6⟩:=iv (c:=F) r;obtain⟨Q,rfl,R,S⟩:=iv (c:=G) s;obtain⟨a3,rfl,_,_⟩:=iv (c:=I) t;obtain⟨bb,rfl,bd,bg⟩:=iv (c:=J) u;have z:d.size<=reachBytes:=by
  rw [a1] at i;have:=i d.data.toList.length (by simp [DataW.weights]);simpa using this
 exact⟨⟨a2,K,a7,bi,d,N,a4,Q,a3,bb⟩,g,⟨⟨L,M⟩,⟨a8,a9⟩,⟨O,P⟩,⟨bd,bg⟩,Y,⟨a5,a6⟩,⟨R,S⟩⟩,Z,z,rfl,X⟩
theorem tk {H:Type}{enc:TypeId×Value->H}{c:World}{av:Reach}{N base:Nat}{L:Nat->Bool}{G:Bool}{v:Value}{d:DataW H}{K:List MemPlace}
  (ao:Value.okWide prog c av N 22 v) (r:DataW.Trod enc prog c base L G 22 v d K) (y:jbn 22 d):∃ B n m,v=.slice B n m/\n<=m/\n<=reachBytes/\∃ s:List Sp,s.length=n/\(∀ p∈s,p.ok/\p.qs.length * 48<=reachBytes/\p.raw.size<=reachBytes)/\
   (0<n->∃ l o,B=some ⟨l,o,none⟩/\l<c.heap.size/\∀ i (r:i<s.length),∃ v,(∀ x,x<10->c.cell? ⟨l,o+i * 10+x,none⟩=(kr s[i] v)[x]?)/\gf c v s[i].qs):=by
 obtain⟨M,a,m,rfl⟩:=okWide_slice underlying22 ao;obtain⟨O,W⟩:=r;have X:DataW.trod enc prog c base L G O 22 [.slice M a m]=some (d,K):=by simpa [Value.cells] using W
 rcases Deep.open_slice underlying22 X with ⟨q,_⟩ | ⟨j,a6,a1,A,n,w,a0,q,a3,Z,a4,ad,z,F⟩
 ·simp at q;obtain⟨rfl,rfl,rfl⟩:=q;exact⟨none,0,0,rfl,by omega,Nat.zero_le _,[],rfl,fun p k=>(by cases k),fun r=>(by omega)⟩
 ·simp at q;obtain⟨rfl,rfl,rfl⟩:=q;have a5:a<=A:=by rw [ad];split <;> omega
  rw [Tryz.cells62] at F;have V:d=.slice ((List.range a).map w) ((List.range (A - a)).map fun f=>w (a+f)):=congrArg Prod.fst z;rw [V] at y;have T:a<=reachBytes:=by
   have:=y.len underlying22;have t:=Tryz.bytesS;simp at this;have D:a * 1<=(a+(A - a)) * prog.bytesOf 69:=Nat.mul_le_mul (Nat.le_add_right _ _) t;omega
  have C:∀ i,i<a->∃ g:Sp×Value,(g.1.ok/\g.1.qs.length * 48<=reachBytes/\g.1.raw.size<=reachBytes)/\gf c g.2 g.1.qs/\c.cells? base (j.add (i * 10)) 10=some (kr g.1 g.2):=by
   intro i e;obtain⟨a2,t,D⟩:=F i (by omega);obtain⟨p,v,P,Q,R,rfl,S⟩:=jeE (World.cells?_some t).2.1 D (y.elem (d:=w i) underlying22 (List.mem_map.2 ⟨i,List.mem_range.2 e,rfl⟩));exact⟨(p,v),⟨P,Q,R⟩,S,t⟩
  refine⟨some j,a,m,rfl,Z,T,?_⟩
  have U:∃ b:Nat->Sp×Value,∀ i,i<a->((b i).1.ok/\(b i).1.qs.length * 48<=reachBytes/\(b i).1.raw.size<=reachBytes)/\gf c (b i).2 (b i).1.qs/\c.cells? base (j.add (i * 10)) 10=some (kr (b i).1 (b i).2):=by
   refine⟨fun i=>if r:i<a then (C i r).choose else (⟨0,0,0,[],ByteArray.empty,0,0,0,0,0⟩,.slice none 0 0),fun i e=>?_⟩
   dsimp only;rw [dif_pos e];exact (C i e).choose_spec
  obtain⟨b,u⟩:=U;refine⟨(List.range a).map (fun i=>(b i).1),by simp,fun p k=>?_,fun k=>?_⟩
  ·obtain⟨i,e,rfl⟩:=List.mem_map.1 k;exact (u i (List.mem_range.1 e)).1
  ·have E:∀ i,i<a->∀ f,f<10->c.cell? ((j.add (i * 10)).add f)=(kr (b i).1 (b i).2)[f]?:=fun i e f Y=>(World.cells?_some (u i e).2.2).2.2 f Y;have J:j.spot=none:=by
    have:=E 0 k 0 (by omega);exact World.cell?_spot (v:=.int .i64 (b 0).1.kind) (by simpa [Addr.add] using this)
   obtain⟨l,o,a7⟩:=j;simp at J;subst J;refine⟨l,o,rfl,World.cells?_block (u 0 k).2.2 (by omega),fun i e=>?_⟩
   have I:i<a:=by simpa using e
   refine⟨(b i).2,fun x z=>?_,?_⟩
   ·have:=E i I x z;rw [Deep.add_add,Addr.add_lit] at this;rw [Nat.add_assoc,this];simp
   ·have:=(u i I).2.1;simpa using this
end Go.Proofs.YtnlgndpcddngoaaGreatDoor
namespace Go.Proofs.YtnlgndpcddngoaaGreatDoor
open Go.Proofs.Tryz Go.RowKit Go.Maps
variable [dK] [iK]
abbrev mj (w:World):Prop:=w.cell? ⟨0,0,none⟩=some (.iface 236 (.agg #[.pointer (some ⟨5,97,none⟩)]))
theorem bC {base:Nat}{w w':World}(a:mj w)(b:0<base)(c:Below base w w'):mj w':=(c.cell (p:=⟨0,0,none⟩) b).trans a
def AgC (base:Nat)(blk:Int):Prop:=∀ (d c:Nat) (b:World) (a:Sp) (g:Value),(KX base blk d c b\/JX base blk d c b/\bp a.part 2=1)->mj b->a.ok->Calls prog 26 #[pO c 0,Ox a.kind a.conn a.now g a.raw a.cut a.left a.full a.kept a.part] b fun f e=>f=.returned (.bool true)/\JX base blk d c e/\Below base b e
theorem jf6 (base:Nat)(blk:Int)(w:World)(i:0<base)(J:mj w)(n:AgC base blk):jeO base blk w [1,2,3] (fun c d w=>JX base blk c d w/\mj w) (fun c d w=>KX base blk c d w/\mj w) where
 j0:=fun c z nb C d y B kc K D x L p H=>by
  obtain⟨Y,Z,W,S,I⟩:=aU.dsk (p.host.hs:aU z blk ⟨0,true⟩ (bu 0) L 0 C ⟨0,0,[]⟩ x);exact⟨⟨z,nb,C,y,B,kc,K,D,_,_,false,_,x,_,0,_,_,_,by omega,fun _ _=>rfl,p,⟨⟨p.law.sim.lok,Int.le_refl _⟩,fun a=>absurd rfl a,il rfl⟩,(ab I 5).trans rfl⟩,bC J i H⟩
 js:=fun c d f E a k=>⟨a.1.kept k,bC a.2 (ll i a.1.wb.1) k⟩
 jb:=fun c d f a=>a.1.wb
 ks_:=fun c d f E a k=>by
  refine⟨a.1.kept k,bC a.2 (ll i ?_) k⟩
  obtain⟨av,y,B,kc,D,ad,X,ao,f,N,P,O,R,M,T,U,G,V⟩:=a.1;exact G.bs
 one:=fun _ c d f g l a t b r u=>by
  refine (vE base c d blk g l false f a.1 t r b.qs u b.conn.1 b.conn.2 b.now.1 b.now.2 b.cut.1 b.cut.2 b.left b.full b.part (aa (fun v q k=>n c d v g l (il q) (bC a.2 i k) b))).mono ?_
  rintro m o ⟨rfl,j,e⟩;exact⟨rfl,⟨j,bC a.2 i e⟩,e⟩
 two:=fun _ c d f g l a t b r u=>by
  refine (vE base c d blk g l true f a.1 t r b.qs u b.conn.1 b.conn.2 b.now.1 b.now.2 b.cut.1 b.cut.2 b.left b.full b.part (aa (fun v q k=>n c d v g l (il q) (bC a.2 i k) b))).mono ?_
  rintro m o ⟨rfl,j,e⟩;exact⟨rfl,⟨j,bC a.2 i e⟩,e⟩
 lose:=fun _ c d Q f g a A b s=>by
  refine (jdN a.1 A g.kept g.part b.part.1 b.part.2).mono ?_
  rintro m o ⟨rfl,j,e,F⟩;exact⟨rfl,⟨j,bC (bC a.2 (ll i a.1.wb.1) A) i e⟩,e,F⟩
 agk:=fun _ c d f g l a b s=>by
  refine (n c d f g l (il a.1) a.2 b).mono ?_
  rintro m o ⟨rfl,j,e⟩;exact⟨rfl,⟨j,bC a.2 i e⟩,e⟩
 agj:=fun _ c d f g l a b s=>by
  refine (n c d f g l (ir ⟨a.1,s⟩) a.2 b).mono ?_
  rintro m o ⟨rfl,j,e⟩;exact⟨rfl,⟨j,bC a.2 i e⟩,e⟩
end Go.Proofs.YtnlgndpcddngoaaGreatDoor
