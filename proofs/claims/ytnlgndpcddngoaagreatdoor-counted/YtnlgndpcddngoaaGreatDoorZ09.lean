import Derived.Test.YtnlgndpcddngoaaGreatDoorZ08
import Derived.Deep.RegionLaw
set_option linter.all false
set_option maxRecDepth 100000
set_option maxHeartbeats 2000000
namespace Go.Proofs.YtnlgndpcddngoaaGreatDoor
open Go.Proofs.Tryz Go.RowKit
variable [dK] [iK]
abbrev ZL:Value:=OO
theorem Tryz.info139:(prog.info? 151).map (fun i=>(i.zero,i.size,i.bytes))=some (some ZL,13,48):=by kernel_rfl
theorem jat (a:List Ln)(l:Ln):bW (a ++ [l])=bW a ++ jj l:=by simp [bW]
theorem vv {w V X w4:World}{c base a f:Nat}{e:Option Addr}{d:Value}{B:Bk}{l:Ln}{R:Nat}{o:Obj}(p:an V c base (.slice e a f) B)(F:a=B.ls.length)(C:∀ k,k<V.heap.size->X.heap[k]?=V.heap[k]?)(G:X.heap.size=V.heap.size+1)(t:X.os=V.os/\X.tape=V.tape/\X.output=V.output)
  (y:w4.ownsRow base 151 13 d (a+1) (bW B.ls ++ jj l)) (n:X.grownBy w4 (Value.slice e a f).ownBlock) (E:d.ownBlock=(Value.slice e a f).ownBlock\/d.ownBlock=some X.heap.size) (m:B7 w V) (v:V.heap[R]?=some o) (z:R≠c) (A:(Value.slice e a f).ownBlock≠some R) :
  an (w4.setCell ⟨c,0,none⟩ d) c base d ⟨B.time,B.ls ++ [l]⟩/\(w4.setCell ⟨c,0,none⟩ d).heap[R]?=some o/\ae (fun b=>b=c\/(Value.slice e a f).ownBlock=some b) w (w4.setCell ⟨c,0,none⟩ d)/\(∀ g,d.ownBlock=some g->(Value.slice e a f).ownBlock=some g\/w.heap.size<=g):=by
 have D:=am p.hb;have nb:(Value.slice e a f).ownBlock≠some c:=fun i=>ax p.ho i p.hb (by decide) rfl;have r:∀ k,k<V.heap.size->(Value.slice e a f).ownBlock≠some k->w4.heap[k]?=V.heap[k]?:=fun k u q=>(n.block k (by omega) (fun i=>q i.symm)).trans (C k u);have x:=(r c D nb).trans p.hb;have H:=n.size;have I:=m.size;refine⟨⟨by simpa using ai x 0 d,?_⟩,?_,⟨(n.os.trans t.1).trans m.os,(n.tape.trans t.2.1).trans m.tape,(n.output.trans t.2.2).trans m.output,by rw [World.size_setCell];omega,fun k u q=>?_⟩,fun g j=>?_⟩
 ·rw [jat,List.length_append,List.length_singleton,<-F];exact aq y (fun g j=>ac (ax y j x (by decide)) _ _)
 ·rw [ac z];exact (r R (am v) A).trans v
 ·rw [ac (fun i=>q (il i))];exact (r k (by omega) (fun i=>q (ir i))).trans (m.block k u)
 ·rcases E with s | s
  ·exact il (s▸j)
  ·rw [s] at j;injection j with j;exact ir (by omega)
theorem wE (c base:Nat)(s:Value)(B:Bk)(q:Rq)(w:World)(l:an w c base s B)(m:B.ok)(P:q.ok)(p:q.op=1)(E:¬cM q.kd q.x q.y) :
  Calls prog 61 #[pO c 0,rqv q] w (aQ c base s B q w):=by
 obtain⟨f,i⟩:∃ f,f=(w.alloc (.cells #[.int .u8 q.op,.int .u8 q.k0,.int .u8 q.k1,.int .u8 q.k2,.int .u8 q.k3,.int .u8 q.k4,.int .u8 q.k5,.int .u8 q.k6,.int .u8 q.k7,.int .u8 q.kd,.int .u64 q.x,.int .u64 q.y,.int .u64 q.n] 65)).alloc (og):=⟨_,rfl⟩;have Q:f.heap[w.heap.size]?=some (.cells #[.int .u8 q.op,.int .u8 q.k0,.int .u8 q.k1,.int .u8 q.k2,.int .u8 q.k3,.int .u8 q.k4,.int .u8 q.k5,.int .u8 q.k6,.int .u8 q.k7,.int .u8 q.kd,.int .u64 q.x,.int .u64 q.y,.int .u64 q.n] 65):=i▸aB (af _ _) _;have R:f.heap[w.heap.size+1]?=some (og):=i▸aC (by simp);have z:B7 w f:=i▸(ba w).alloc (by simp) _;have y:=l.below z lz;have a6:=am l.hb;have N:∀ b,s.ownBlock=some b->b<w.heap.size:=fun b a=>(aj l.ho a).2;have g:=dX c base s B q.key f y m.len;have a7:=m.len;have a4:=m.time;have L:bB B q=(B,⟨8,0,0⟩):=by unfold bB;rw [if_pos p,if_pos E]
 have t:=aa L;have M:(¬q.kd=1/\¬q.kd=2)\/(q.kd=1/\q.x=0)\/(q.kd=2/\q.y=0):=by
  have a8:=P.x;have a9:=P.y;unfold cM at E;omega
 have Y:=aa M;clear L E M;have W:=aa g;have X:=aa y;have J:=aa Q;have K:=aa R;have I:=aa z;have u:=aa N;have ao:=aa m;have av:=aa l;clear g y Q R z N m l;have Z:=aa p;clear p;go_enter func61,ntmps61
 go_wp2_with fail
 have g:=W.out;rw [i] at g;refine g.mono ?_
 rw [<-i];rintro a3 F ⟨rfl,n⟩;have x:=X.out.below n lz;have C:=(n.block _ (am J.out)).trans J.out;have r:=(n.block _ (am K.out)).trans K.out;have T:=ab C;have bb:=ab r;have bd:=ag r;have bg:=ab x.hb;have G:=aa x;have ad:=aa r;have a0:=aa C;have H:=aa (I.out.trans (n.mono I.out.size));have A:c≠w.heap.size+1:=by omega
 have a5:w.heap.size+1≠c:=by omega
 clear g i x C r n;have p:=Z.out;obtain⟨S,O⟩:∃ S,S=eu q.key B.ls:=⟨_,rfl⟩;rw [<-O];clear O;have D:=aB ad.out (Od q.kd q.x q.y);have o:=ab D;have V:=ag D;have j:Hid (an (F.alloc (Od q.kd q.x q.y)) c base _ B):=aa (G.out.below (ba F) lz);have U:=ce G.out.hb (Od q.kd q.x q.y);have k:Hid (B7 w (F.alloc (Od q.kd q.x q.y))):=aa (H.out.alloc H.out.size _);clear D;rcases Y.out with ⟨d,e⟩ | ⟨d,e⟩ | ⟨d,e⟩
 ·have a1:(q.kd==1)=false:=by simpa using d
  have a2:(q.kd==2)=false:=by simpa using e
  go_wp2_with fail
  exact bodyPost_ret (v:=ug) (by simp [results,results61,go_sem,o]) rfl (aQ.mk' j.out t.out (Nat.le_succ _) A (fun b a=>by have:=u.out b a;omega) (ae.of_below k.out) (fun b a=>il a))
 ·rw [d,e] at o V U j k;rw [d,e] at T;go_wp2_with fail
  exact bodyPost_ret (v:=ug) (by simp [results,results61,go_sem,o]) rfl (aQ.mk' j.out t.out (Nat.le_succ _) A (fun b a=>by have:=u.out b a;omega) (ae.of_below k.out) (fun b a=>il a))
 ·rw [d,e] at o V U j k;rw [d,e] at T;go_wp2_with fail
  exact bodyPost_ret (v:=ug) (by simp [results,results61,go_sem,o]) rfl (aQ.mk' j.out t.out (Nat.le_succ _) A (fun b a=>by have:=u.out b a;omega) (ae.of_below k.out) (fun b a=>il a))
theorem o9 (c base:Nat)(p:Value)(B:Bk)(q:Rq)(w:World)(d:an w c base p B)(j:B.ok)(a2:q.ok)(n:q.op=1)(D:cM q.kd q.x q.y)(i:Nat)(z:du q.key B.ls=some i) :
  Calls prog 61 #[pO c 0,rqv q] w (aQ c base p B q w):=by
 obtain⟨f,g⟩:∃ f,f=(w.alloc (.cells #[.int .u8 q.op,.int .u8 q.k0,.int .u8 q.k1,.int .u8 q.k2,.int .u8 q.k3,.int .u8 q.k4,.int .u8 q.k5,.int .u8 q.k6,.int .u8 q.k7,.int .u8 q.kd,.int .u64 q.x,.int .u64 q.y,.int .u64 q.n] 65)).alloc (og):=⟨_,rfl⟩;have Q:f.heap[w.heap.size]?=some (.cells #[.int .u8 q.op,.int .u8 q.k0,.int .u8 q.k1,.int .u8 q.k2,.int .u8 q.k3,.int .u8 q.k4,.int .u8 q.k5,.int .u8 q.k6,.int .u8 q.k7,.int .u8 q.kd,.int .u64 q.x,.int .u64 q.y,.int .u64 q.n] 65):=g▸aB (af _ _) _;have R:f.heap[w.heap.size+1]?=some (og):=g▸aC (by simp);have y:B7 w f:=g▸(ba w).alloc (by simp) _;have x:=d.below y lz;have a6:=am d.hb;have O:∀ a,p.ownBlock=some a->a<w.heap.size:=fun a b=>(aj d.ho b).2;have e:=dX c base p B q.key f x j.len;have a8:=j.len;have a4:=j.time;have S:(q.kd=1/\¬q.x=0)\/(q.kd=2/\¬q.y=0):=by
  unfold cM at D;omega
 have ad:=aa S;have M:bB B q=(B,⟨9,0,0⟩):=by unfold bB;rw [if_pos n,if_neg (fun d=>d D),z];rfl
 have I:=aa M;have P:eu q.key B.ls=(i:Int):=by unfold eu;rw [z]
 rw [P] at e;have a7:(0:Int)<=(i:Int):=by omega
 clear M D S z P;have W:=aa e;have X:=aa x;have K:=aa Q;have L:=aa R;have H:=aa y;have J:=aa O;have av:=aa j;have a0:=aa d;clear e x Q R y O j d;have Y:=aa n;clear n;go_enter func61,ntmps61
 go_wp2_with fail
 have e:=W.out;rw [g] at e;refine e.mono ?_
 rw [<-g];rintro a3 E ⟨rfl,k⟩;have u:=X.out.below k lz;have A:=(k.block _ (am K.out)).trans K.out;have o:=(k.block _ (am L.out)).trans L.out;have T:=ab A;have a9:=ab o;have bb:=ag o;have bd:=ab u.hb;have F:=aa u;have Z:=aa o;have a1:=aa A;have G:=aa (H.out.trans (k.mono H.out.size));have N:c≠w.heap.size+1:=by omega
 have a5:w.heap.size+1≠c:=by omega
 clear e g u A o k;have n:=Y.out;have C:=aB Z.out (Od q.kd q.x q.y);have r:=ab C;have V:=ag C;have l:Hid (an (E.alloc (Od q.kd q.x q.y)) c base _ B):=aa (F.out.below (ba E) lz);have U:=ce F.out.hb (Od q.kd q.x q.y);have m:Hid (B7 w (E.alloc (Od q.kd q.x q.y))):=aa (G.out.alloc G.out.size _);clear C;rcases ad.out with ⟨s,t⟩ | ⟨s,t⟩
 ·have ao:(q.x==0)=false:=by simpa using t
  rw [s] at r V U l m T;go_wp2_with fail
  exact bodyPost_ret (v:=uF) (by simp [results,results61,go_sem,r]) rfl (aQ.mk' l.out I.out (Nat.le_succ _) N (fun a b=>by have:=J.out a b;omega) (ae.of_below m.out) (fun a b=>il b))
 ·have ao:(q.y==0)=false:=by simpa using t
  rw [s] at r V U l m T;go_wp2_with fail
  exact bodyPost_ret (v:=uF) (by simp [results,results61,go_sem,r]) rfl (aQ.mk' l.out I.out (Nat.le_succ _) N (fun a b=>by have:=J.out a b;omega) (ae.of_below m.out) (fun a b=>il b))
theorem rU (d base:Nat)(o:Value)(B:Bk)(q:Rq)(w:World)(c:an w d base o B)(i:B.ok)(a3:q.ok)(m:q.op=1)(D:cM q.kd q.x q.y)(z:du q.key B.ls=none)(y:B.ls.length=12) :
  Calls prog 61 #[pO d 0,rqv q] w (aQ d base o B q w):=by
 obtain⟨f,g⟩:∃ f,f=(w.alloc (.cells #[.int .u8 q.op,.int .u8 q.k0,.int .u8 q.k1,.int .u8 q.k2,.int .u8 q.k3,.int .u8 q.k4,.int .u8 q.k5,.int .u8 q.k6,.int .u8 q.k7,.int .u8 q.kd,.int .u64 q.x,.int .u64 q.y,.int .u64 q.n] 65)).alloc (og):=⟨_,rfl⟩;have R:f.heap[w.heap.size]?=some (.cells #[.int .u8 q.op,.int .u8 q.k0,.int .u8 q.k1,.int .u8 q.k2,.int .u8 q.k3,.int .u8 q.k4,.int .u8 q.k5,.int .u8 q.k6,.int .u8 q.k7,.int .u8 q.kd,.int .u64 q.x,.int .u64 q.y,.int .u64 q.n] 65):=g▸aB (af _ _) _;have S:f.heap[w.heap.size+1]?=some (og):=g▸aC (by simp);have x:B7 w f:=g▸(ba w).alloc (by simp) _;have u:=c.below x lz;have a7:=am c.hb;have O:∀ a,o.ownBlock=some a->a<w.heap.size:=fun a b=>(aj c.ho b).2;have e:=dX d base o B q.key f u i.len;have a8:=i.len;have a5:=i.time;have T:(q.kd=1/\¬q.x=0)\/(q.kd=2/\¬q.y=0):=by
  unfold cM at D;omega
 have ao:=aa T;have M:bB B q=(B,⟨5,0,0⟩):=by unfold bB;rw [if_pos m,if_neg (fun c=>c D),z];simp only [Option.isSome_none,Bool.false_eq_true,if_false];rw [if_pos y]
 have I:=aa M;have P:eu q.key B.ls=-1:=by unfold eu;rw [z]
 rw [P] at e;obtain⟨a9,bb,Q⟩:=aw c.ho;rw [y] at Q;subst Q;clear M D T z P y;have X:=aa e;have Y:=aa u;have K:=aa R;have L:=aa S;have H:=aa x;have J:=aa O;have a0:=aa i;have a1:=aa c;clear e u R S x O i c;have Z:=aa m;clear m;go_enter func61,ntmps61
 go_wp2_with fail
 have e:=X.out;rw [g] at e;refine e.mono ?_
 rw [<-g];rintro a4 E ⟨rfl,j⟩;have t:=Y.out.below j lz;have A:=(j.block _ (am K.out)).trans K.out;have n:=(j.block _ (am L.out)).trans L.out;have U:=ab A;have bd:=ab n;have bg:=ag n;have bi:=ab t.hb;have F:=aa t;have ad:=aa n;have a2:=aa A;have G:=aa (H.out.trans (j.mono H.out.size));have N:d≠w.heap.size+1:=by omega
 have a6:w.heap.size+1≠d:=by omega
 clear e g t A n j;have m:=Z.out;have C:=aB ad.out (Od q.kd q.x q.y);have p:=ab C;have W:=ag C;have k:Hid (an (E.alloc (Od q.kd q.x q.y)) d base _ B):=aa (F.out.below (ba E) lz);have V:=ce F.out.hb (Od q.kd q.x q.y);have l:Hid (B7 w (E.alloc (Od q.kd q.x q.y))):=aa (G.out.alloc G.out.size _);clear C;rcases ao.out with ⟨r,s⟩ | ⟨r,s⟩
 ·have av:(q.x==0)=false:=by simpa using s
  rw [r] at p W V k l U;go_wp2_with fail
  exact bodyPost_ret (v:=uG) (by simp [results,results61,go_sem,p]) rfl (aQ.mk' k.out I.out (Nat.le_succ _) N (fun a b=>by have:=J.out a b;omega) (ae.of_below l.out) (fun a b=>il b))
 ·have av:(q.y==0)=false:=by simpa using s
  rw [r] at p W V k l U;go_wp2_with fail
  exact bodyPost_ret (v:=uG) (by simp [results,results61,go_sem,p]) rfl (aQ.mk' k.out I.out (Nat.le_succ _) N (fun a b=>by have:=J.out a b;omega) (ae.of_below l.out) (fun a b=>il b))
theorem wF (c base:Nat)(a3:Value)(B:Bk)(q:Rq)(w:World)(r:an w c base a3 B)(N:B.ok)(d9:q.ok)(a1:q.op=1)(b5:cM q.kd q.x q.y)(c3:du q.key B.ls=none)(cX:¬B.ls.length=12)(cV:base<=w.heap.size) :
  Calls prog 61 #[pO c 0,rqv q] w (aQ c base a3 B q w):=by
 obtain⟨F,G⟩:∃ F,F=(w.alloc (.cells #[.int .u8 q.op,.int .u8 q.k0,.int .u8 q.k1,.int .u8 q.k2,.int .u8 q.k3,.int .u8 q.k4,.int .u8 q.k5,.int .u8 q.k6,.int .u8 q.k7,.int .u8 q.kd,.int .u64 q.x,.int .u64 q.y,.int .u64 q.n] 65)).alloc (og):=⟨_,rfl⟩;have c5:F.heap[w.heap.size]?=some (.cells #[.int .u8 q.op,.int .u8 q.k0,.int .u8 q.k1,.int .u8 q.k2,.int .u8 q.k3,.int .u8 q.k4,.int .u8 q.k5,.int .u8 q.k6,.int .u8 q.k7,.int .u8 q.kd,.int .u64 q.x,.int .u64 q.y,.int .u64 q.n] 65):=G▸aB (af _ _) _;have c6:F.heap[w.heap.size+1]?=some (og):=G▸aC (by simp);have bz:B7 w F:=G▸(ba w).alloc (by simp) _;have bw:=r.below bz lz;have ef:=am r.hb;have c0:∀ g,a3.ownBlock=some g->g<w.heap.size:=fun g Q=>(aj r.ho Q).2;have x:=dX c base a3 B q.key F bw N.len;have d1:=N.len;have eb:=N.time;have c7:(q.kd=1/\¬q.x=0)\/(q.kd=2/\¬q.y=0):=by
  unfold cM at b5;omega
 have dt:=aa c7;have cG:bB B q=(⟨B.time,B.ls ++ [⟨q.key,q.kd,q.x,q.y,0,0⟩]⟩,⟨1,0,0⟩):=by unfold bB;rw [if_pos a1,if_neg (fun r=>r b5),c3];simp only [Option.isSome_none,Bool.false_eq_true,if_false];rw [if_neg cX]
 have cx:=aa cG;have c2:eu q.key B.ls=-1:=by unfold eu;rw [c3]
 rw [c2] at x;obtain⟨j,k,c4⟩:=aw r.ho;obtain⟨b,b2⟩:∃ b,b=B.ls.length:=⟨_,rfl⟩;rw [<-b2] at c4;have d0:¬(b:Int)=12:=by omega
 have eg:((b:Int)==12)=false:=by simpa using d0
 have ei:b<=12:=by omega
 subst c4;have a0:=aa b2;have ct:=aa cV;obtain⟨dd,c1,c8,c9,db⟩:=info_parts Tryz.info139;clear cG b5 c7 c2 cX b2 d1 cV;have dl:=aa x;have dm:=aa bw;have cz:=aa c5;have cF:=aa c6;have cw:=aa bz;have cy:=aa c0;have d7:=aa N;have d8:=aa r;clear x bw c5 c6 bz c0 N r;have ds:=aa a1;clear a1;go_enter func61,ntmps61
 go_wp2_with fail
 have x:=dl.out;rw [G] at x;refine x.mono ?_
 rw [<-G];rintro p i ⟨rfl,O⟩;have bv:=dm.out.below O lz;have b3:=(O.block _ (am cz.out)).trans cz.out;have a2:=(O.block _ (am cF.out)).trans cF.out;have a4:=ab b3;have df:=ab a2;have di:=ag a2;have dk:=ab bv.hb;have cs:=aa bv;have bo:=aa a2;have E:=aa b3;have cv:=aa (cw.out.trans (O.mono cw.out.size));have cR:c≠w.heap.size+1:=by omega
 have cU:w.heap.size+1≠c:=by omega
 clear x G bv b3 a2 O;have a1:=ds.out;have b4:=aB bo.out (Od q.kd q.x q.y);have a6:=ab b4;have a7:=ag b4;have ao:Hid (an (i.alloc (Od q.kd q.x q.y)) c base _ B):=aa (cs.out.below (ba i) lz);have a5:=ce cs.out.hb (Od q.kd q.x q.y);have av:Hid (B7 w (i.alloc (Od q.kd q.x q.y))):=aa (cv.out.alloc cv.out.size _);clear b4;rcases dt.out with ⟨J,bu⟩ | ⟨J,bu⟩
 ·have dv:(q.x==0)=false:=by simpa using bu
  rw [J] at a6 a7 a5 ao av a4 E;go_wp2_with fail
  obtain⟨a,f⟩:∃ a,a=i.alloc (.cells #[.int .u8 1,.int .u64 q.x,.int .u64 q.y] 30):=⟨_,rfl⟩;have A:a.heap[i.heap.size]?=some (.cells #[.int .u8 1,.int .u64 q.x,.int .u64 q.y] 30):=f▸af _ _;have Y:a.heap[w.heap.size]?=i.heap[w.heap.size]?:=f▸ah _ _ (am E.out);have d:=Y.trans E.out;have Z:a.heap[w.heap.size+1]?=some (og):=f▸aB bo.out _;have e:an a c base (.slice j b k) B:=f▸ao.out;have y:B7 w a:=f▸av.out;rw [<-f];clear f a6 a7 a5 a4 df di dk Y;obtain⟨ad,W⟩:∃ ad,ad=i.heap.size:=⟨_,rfl⟩;rw [<-W] at A ⊢;have b8:=ab e.hb 0;have b9:=ab d 1;have cc:=ab d 2;have ch:=ab d 3;have ci:=ab d 4;have ck:=ab d 5;have cl:=ab d 6;have cn:=ab d 7;have cp:=ab d 8;have cq:=ab A;have cb:=ce e.hb (oR q.k0 q.k1 q.k2 q.k3 q.k4 q.k5 q.k6 q.k7 q.x q.y) 0;have bk:Hid (c<(a.alloc (oR q.k0 q.k1 q.k2 q.k3 q.k4 q.k5 q.k6 q.k7 q.x q.y)).drew.heap.size):=aa (by show c<(a.alloc _).heap.size;rw [World.size_alloc];exact Nat.lt_succ_of_lt (am e.hb));have s:=aa e;have a9:=aa y;have bs:=aa Z;have P:c≠a.heap.size:=Nat.ne_of_lt (am e.hb);have dn:=aa P;have bl:Hid ((a.alloc (oR q.k0 q.k1 q.k2 q.k3 q.k4 q.k5 q.k6 q.k7 q.x q.y)).drew.ownsRow base 151 13 (.slice j b k) b (bW B.ls)):=aa (by
    have u:=e.ho;rw [<-a0.out] at u;exact aq u (fun d6 b7=>ah _ _ (aj u b7).2))
  have bb:Hid (∀ m C,(jj ⟨q.key,1,q.x,q.y,0,0⟩)[m]?=some C->(a.alloc (oR q.k0 q.k1 q.k2 q.k3 q.k4 q.k5 q.k6 q.k7 q.x q.y)).drew.cell? ((⟨a.heap.size,0,none⟩:Addr).add m)=some C):=aa (fun m C bK=>by
    rw [Addr.add_lit,Nat.zero_add];refine (ab (af a (oR q.k0 q.k1 q.k2 q.k3 q.k4 q.k5 q.k6 q.k7 q.x q.y)) m).trans ?_
    rw [<-bK];simp [jj,Rq.key])
  have a8:Hid (base<=(a.alloc (oR q.k0 q.k1 q.k2 q.k3 q.k4 q.k5 q.k6 q.k7 q.x q.y)).drew.heap.size):=aa (by show base<=(a.alloc _).heap.size;rw [World.size_alloc];have:=ct.out;have:=y.size;omega);have z:=s.out.hb;clear e y Z A d W P;go_cut [] (fun D=>∃ n o,an D c base (.slice n (b+1) o) ⟨B.time,B.ls ++ [⟨q.key,1,q.x,q.y,0,0⟩]⟩/\D.heap[w.heap.size+1]?=some (og)/\ae (fun I=>I=c\/(Value.slice j b k).ownBlock=some I) w D/\(∀ g,(Value.slice n (b+1) o).ownBlock=some g->(Value.slice j b k).ownBlock=some g\/w.heap.size<=g))
  case first=>
   go_region_law (refine aT (by rfl) _ _ 58 151 dd ZL 13 48 underlying58 c1 c8 c9 db (by rfl) (by decide) (by rfl) base (.slice j b k) b (bW B.ls) (by rfl) bl.out ⟨a.heap.size,0,none⟩ 1 1 (jj ⟨q.key,1,q.x,q.y,0,0⟩) (by rfl) (by rfl) bb.out (by simp [jj,Value.oneCell']) (by omega) (by omega) a8.out ?_;intro d4 d5 U S b1;obtain⟨n,o,b6⟩:=aw U;subst b6;have T:=((S.block c bk.out (fun p=>ax s.out.ho p.symm z (by decide) rfl)).trans (ah a _ (am z))).trans z;have dN:=ab T;have dR:=ag T)
   all_goals have bF:=vv (V:=a) (X:=(a.alloc (oR q.k0 q.k1 q.k2 q.k3 q.k4 q.k5 q.k6 q.k7 q.x q.y)).drew) (R:=w.heap.size+1) s.out a0.out (fun d2 b0=>ah a _ b0) (World.size_alloc a _) ⟨rfl,rfl,rfl⟩ U S b1 a9.out bs.out cU (fun p=>by have:=cy.out _ p;omega)
   all_goals (go_wp2_with fail;go_meet)
   all_goals exact⟨_,_,bF⟩
  case rest=>
   obtain⟨n,o,K,l,L,M⟩:=hcut;have cr:=ab l;have d3:=ag l;have H:=aa K;have bg:=aa l;have bi:=aa L;have bj:=aa M;have t:=cx.out;rw [J] at t;have bd:=aa t;clear K l L M b8 b9 cc ch ci ck cl cn cp cq cb t;go_wp2_with fail
   exact bodyPost_ret (v:=oS) (by simp [results,results61,go_sem,cr]) rfl (aQ.mk' H.out bd.out (Nat.le_succ _) cR (fun g Q=>ax H.out.ho Q bg.out (by decide)) bi.out bj.out)
 ·have dv:(q.y==0)=false:=by simpa using bu
  rw [J] at a6 a7 a5 ao av a4 E;go_wp2_with fail
  obtain⟨a,f⟩:∃ a,a=i.alloc (.cells #[.int .u8 2,.int .u64 q.x,.int .u64 q.y] 30):=⟨_,rfl⟩;have A:a.heap[i.heap.size]?=some (.cells #[.int .u8 2,.int .u64 q.x,.int .u64 q.y] 30):=f▸af _ _;have Y:a.heap[w.heap.size]?=i.heap[w.heap.size]?:=f▸ah _ _ (am E.out);have d:=Y.trans E.out;have Z:a.heap[w.heap.size+1]?=some (og):=f▸aB bo.out _;have e:an a c base (.slice j b k) B:=f▸ao.out;have y:B7 w a:=f▸av.out;rw [<-f];clear f a6 a7 a5 a4 df di dk Y;obtain⟨ad,W⟩:∃ ad,ad=i.heap.size:=⟨_,rfl⟩;rw [<-W] at A ⊢;have b8:=ab e.hb 0;have b9:=ab d 1;have cc:=ab d 2;have ch:=ab d 3;have ci:=ab d 4;have ck:=ab d 5;have cl:=ab d 6;have cn:=ab d 7;have cp:=ab d 8;have cq:=ab A;have cb:=ce e.hb (oQ q.k0 q.k1 q.k2 q.k3 q.k4 q.k5 q.k6 q.k7 q.x q.y) 0;have bk:Hid (c<(a.alloc (oQ q.k0 q.k1 q.k2 q.k3 q.k4 q.k5 q.k6 q.k7 q.x q.y)).drew.heap.size):=aa (by show c<(a.alloc _).heap.size;rw [World.size_alloc];exact Nat.lt_succ_of_lt (am e.hb));have s:=aa e;have a9:=aa y;have bs:=aa Z;have P:c≠a.heap.size:=Nat.ne_of_lt (am e.hb);have dn:=aa P;have bl:Hid ((a.alloc (oQ q.k0 q.k1 q.k2 q.k3 q.k4 q.k5 q.k6 q.k7 q.x q.y)).drew.ownsRow base 151 13 (.slice j b k) b (bW B.ls)):=aa (by
    have u:=e.ho;rw [<-a0.out] at u;exact aq u (fun d6 b7=>ah _ _ (aj u b7).2))
  have bb:Hid (∀ m C,(jj ⟨q.key,2,q.x,q.y,0,0⟩)[m]?=some C->(a.alloc (oQ q.k0 q.k1 q.k2 q.k3 q.k4 q.k5 q.k6 q.k7 q.x q.y)).drew.cell? ((⟨a.heap.size,0,none⟩:Addr).add m)=some C):=aa (fun m C bK=>by
    rw [Addr.add_lit,Nat.zero_add];refine (ab (af a (oQ q.k0 q.k1 q.k2 q.k3 q.k4 q.k5 q.k6 q.k7 q.x q.y)) m).trans ?_
    rw [<-bK];simp [jj,Rq.key])
  have a8:Hid (base<=(a.alloc (oQ q.k0 q.k1 q.k2 q.k3 q.k4 q.k5 q.k6 q.k7 q.x q.y)).drew.heap.size):=aa (by show base<=(a.alloc _).heap.size;rw [World.size_alloc];have:=ct.out;have:=y.size;omega);have z:=s.out.hb;clear e y Z A d W P;go_cut [] (fun D=>∃ n o,an D c base (.slice n (b+1) o) ⟨B.time,B.ls ++ [⟨q.key,2,q.x,q.y,0,0⟩]⟩/\D.heap[w.heap.size+1]?=some (og)/\ae (fun I=>I=c\/(Value.slice j b k).ownBlock=some I) w D/\(∀ g,(Value.slice n (b+1) o).ownBlock=some g->(Value.slice j b k).ownBlock=some g\/w.heap.size<=g))
  case first=>
   go_region_law (refine aT (by rfl) _ _ 58 151 dd ZL 13 48 underlying58 c1 c8 c9 db (by rfl) (by decide) (by rfl) base (.slice j b k) b (bW B.ls) (by rfl) bl.out ⟨a.heap.size,0,none⟩ 1 1 (jj ⟨q.key,2,q.x,q.y,0,0⟩) (by rfl) (by rfl) bb.out (by simp [jj,Value.oneCell']) (by omega) (by omega) a8.out ?_;intro d4 d5 U S b1;obtain⟨n,o,b6⟩:=aw U;subst b6;have T:=((S.block c bk.out (fun p=>ax s.out.ho p.symm z (by decide) rfl)).trans (ah a _ (am z))).trans z;have dN:=ab T;have dR:=ag T)
   all_goals have bF:=vv (V:=a) (X:=(a.alloc (oQ q.k0 q.k1 q.k2 q.k3 q.k4 q.k5 q.k6 q.k7 q.x q.y)).drew) (R:=w.heap.size+1) s.out a0.out (fun d2 b0=>ah a _ b0) (World.size_alloc a _) ⟨rfl,rfl,rfl⟩ U S b1 a9.out bs.out cU (fun p=>by have:=cy.out _ p;omega)
   all_goals (go_wp2_with fail;go_meet)
   all_goals exact⟨_,_,bF⟩
  case rest=>
   obtain⟨n,o,K,l,L,M⟩:=hcut;have cr:=ab l;have d3:=ag l;have H:=aa K;have bg:=aa l;have bi:=aa L;have bj:=aa M;have t:=cx.out;rw [J] at t;have bd:=aa t;clear K l L M b8 b9 cc ch ci ck cl cn cp cq cb t;go_wp2_with fail
   exact bodyPost_ret (v:=oS) (by simp [results,results61,go_sem,cr]) rfl (aQ.mk' H.out bd.out (Nat.le_succ _) cR (fun g Q=>ax H.out.ho Q bg.out (by decide)) bi.out bj.out)
end Go.Proofs.YtnlgndpcddngoaaGreatDoor
