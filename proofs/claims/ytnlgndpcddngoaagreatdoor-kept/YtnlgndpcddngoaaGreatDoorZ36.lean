import Derived.Test.YtnlgndpcddngoaaGreatDoorZ31
import Derived.Test.YtnlgndpcddngoaaGreatDoorZ35
set_option linter.all false
set_option maxRecDepth 100000
set_option maxHeartbeats 16000000
namespace Go.Proofs.YtnlgndpcddngoaaGreatDoor
open Go.Proofs.Tryz Go.RowKit Go.Maps
variable [dK] [iK]
theorem bc.keptS {w w':World}{b db nb x:Nat}{C:Option Nat}{blk:Int}{X:Xs}{F:NP}{B:Nat}{i:Value}{g:Nat}{d:Nat->Nat}{c:Nat->Cn}(H:bc w b db nb x C blk X F B i g d c){S:NP}(I:∀ k,S k->¬HG b db F i g d k)(K:∀ k,S k->bE w x g d c k)(A:ae S w w'):bc w' b db nb x C blk X F B i g d c:=by
 have u:=A.size;have f:∀ k,k<w.heap.size->¬S k->w'.heap[k]?=w.heap[k]?:=A.block;have m:∀ k,HG b db F i g d k->¬S k:=fun k e q=>I k q e;refine⟨(f b (am H.hh) (m b (il rfl))).trans H.hh,H.hd,H.hs.kept u (fun p z=>f p (H.hs.lt p z) (m p (ir (ir (il z))))),fun v t=>?_,H.hi,aq H.ho (fun a l=>f a (aj H.ho l).2 (m a (ir (ir (ir (il l)))))),H.hF,H.lo,H.fr⟩
 obtain⟨⟨y,r,E,s⟩,G⟩:=H.hc v t;exact⟨⟨y,(f _ (am r) (m _ (ir (ir (ir (ir ⟨v,t,rfl⟩)))))).trans r,nO E u (fun J a o n j q l=>f a l (fun D=>K a D v t J y r (by rw [q];rfl))),fun a o n j e=>⟨(s a o n j e).1,(s a o n j e).2.1,ll (s a o n j e).2.2 u⟩⟩,G⟩
structure dC (w:World)(base hb db nb sb wb bb kb kc:Nat)(mb:Option Nat)(blk:Int)(tb:Nat->Nat)(rv:Nat->Value)(lv:Value)(sk:Bool)(Xh:Xs)(F:NP)(cv:Value)(m:Nat)(cb:Nat->Nat)(ch:Nat->Cn)(Xl:Xs)(B:Bk)(cl:Nat->Cn):Prop where
 host:bc w hb db nb sb mb blk Xh F base cv m cb ch
 law:eK w base hb wb bb kb kc blk tb rv lv sk Xl B cl
 dis:∀ b,LG wb bb kb tb rv lv cl b->¬HG hb db F cv m cb b
 wait:∀ b,LG wb bb kb tb rv lv cl b->bE w sb m cb ch b
theorem dC.kept {w w':World}{base l db nb r t f m kc:Nat}{p:Option Nat}{blk:Int}{s:Nat->Nat}{q:Nat->Value}{n:Value}{sk:Bool}{d e:Xs}{F:NP}{k:Value}{o:Nat}{g:Nat->Nat}{i j:Nat->Cn}{B:Bk}(H:dC w base l db nb r t f m kc p blk s q n sk d F k o g i e B j)(a:B7 w w'):dC w' base l db nb r t f m kc p blk s q n sk d F k o g i e B j:=
 ⟨H.host.kept a.size (fun y v=>a.block y v),H.law.kept a.size (fun b c=>a.block b (H.law.low b c).2),H.dis,fun b c=>(H.wait b c).kept (fun x u=>a.block _ (am (H.host.hc x u).mem.choose_spec.1))⟩
theorem dC.fedh {w w':World}{base c db nb d C s x kc:Nat}{p:Option Nat}{blk:Int}{A:Nat->Nat}{z:Nat->Value}{y:Value}{sk:Bool}{D r:Xs}{F:NP}{m:Value}{i:Nat}{e:Nat->Nat}{t u:Nat->Cn}{B:Bk}(H:dC w base c db nb d C s x kc p blk A z y sk D F m i e t r B u){q:Xs}{k:NP}{n:Value}{j:Nat}{f:Nat->Nat}{l:Nat->Cn}(G:bc w' c db nb d p blk q k base n j f l)(o:ae (HG c db F m i e) w w')(I:∀ b,HG c db k n j f b->HG c db F m i e b\/w.heap.size<=b)(J:∀ g,g<w.heap.size->bE w d i e t g->bE w' d j f l g):dC w' base c db nb d C s x kc p blk A z y sk q k n j f l r B u/\Below base w w':=by
 refine⟨⟨G,H.law.kept o.size (fun b a=>o.block b (H.law.low b a).2 (H.dis b a)),fun b a E=>?_,fun b a=>J b (H.law.low b a).2 (H.wait b a)⟩,o.below H.law.bs (fun b a=>H.host.lo b a)⟩
 have:=(H.law.low b a).2;rcases I b E with v | v
 ·exact H.dis b a v
 ·omega
theorem dC.fedl {w w':World}{base s db nb p g e j kc:Nat}{G:Option Nat}{blk:Int}{f:Nat->Nat}{x:Nat->Value}{o:Value}{sk:Bool}{A J:Xs}{F:NP}{D:Value}{v:Nat}{l:Nat->Nat}{m q:Nat->Cn}{B:Bk}(H:dC w base s db nb p g e j kc G blk f x o sk A F D v l m J B q){I:Bool}{C:Xs}{u:Value}{z:Bk}{y:Nat->Value}{r:Nat->Cn}(L:eK w' base s g e j kc blk f y u I C z r)(n:ae (LW g e f o) w w')(E:∀ b,LG g e j f y u r b->LG g e j f x o q b\/w.heap.size<=b):dC w' base s db nb p g e j kc G blk f y u I A F D v l m C z r/\Below base w w':=by
 have O:∀ b,LG g e j f x o q b->bE w' p v l m b:=fun b a=>(H.wait b a).kept (fun d i=>n.block _ (am (H.host.hc d i).mem.choose_spec.1) (fun c=>H.dis _ c.lg (ir (ir (ir (ir ⟨d,i,rfl⟩))))));refine⟨⟨H.host.keptS (fun t a=>H.dis t a.lg) (fun t a=>H.wait t a.lg) n,L,fun b a c=>?_,fun b a=>?_⟩,n.below H.law.bs (fun b a=>(H.law.low b a.lg).1)⟩
 ·rcases E b a with k | k
  ·exact H.dis b k c
  ·have:=H.host.lt b c;omega
 ·rcases E b a with k | k
  ·exact O b k
  ·intro d i _ K N c;have M:w.heap[l d]?=some (uU p K (.bool (m d).bad)):=(n.block _ (am (H.host.hc d i).mem.choose_spec.1) (fun c=>H.dis _ c.lg (ir (ir (ir (ir ⟨d,i,rfl⟩)))))).symm.trans N;have:=(H.host.hc d i).waits_lt M c;omega
theorem jeS:∀ (t:List Rq) (L:Ld) (b:Rp),b∈(doL L t).2->b.c≠7
 | [],_,b,a=>by cases a
 | q :: t,L,b,a=>by
  rcases List.mem_cons.1 a with rfl | a
  ·exact jbB L q
  ·exact jeS t _ b a
theorem eK.at {w:World}{base b i a d kc:Nat}{blk:Int}{g:Nat->Nat}{f:Nat->Value}{e:Value}{sk:Bool}{X:Xs}{B:Bk}{c:Nat->Cn}(H:eK w base b i a d kc blk g f e sk X B c)(k:Bu):eK w base b i a d kc blk g f e sk (X.at k) B c:=⟨H.blk,H.book,H.sim,H.dl,H.cs,H.st,H.sl,H.inj,H.dis,H.lo,H.bw,H.bs⟩
theorem vF {X X':Xs}{a b d:Int}{l:List (Rq×Rp)}{sk:Bool}(g:cI (co (X.at (bud a b)) d) l X')(u:4 * l.length<=3999996)(q:X.ill≠none->sk=true):((∀ p∈l,p.2.c=7->(sk || (decide (0<=a) || decide (0<=b)))=true)/\(X'.ill≠none->(sk || (decide (0<=a) || decide (0<=b)))=true))/\(X'.k.l<4->0<=a):=by
 have v:=g.bud;refine⟨?_,fun e=>?_⟩
 ·by_cases n:0<=a
  ·simp [n]
  by_cases m:0<=b
  ·simp [m]
  by_cases f:X.ill=none
  ·obtain⟨i,s,j,t⟩:=cI.well g f (by show _<=(if a<0 then 4000000 else 0);rw [if_pos (by omega)];omega) (by show _<=(if b<0 then 4000000 else 0);rw [if_pos (by omega)];omega);refine⟨fun p o k=>?_,fun e=>absurd i e⟩
   have:p.2∈(doL (co (X.at (bud a b)) d).L (l.map Prod.fst)).2:=by rw [<-j];exact List.mem_map_of_mem o
   exact absurd k (jeS _ _ _ this)
  ·rw [q f];exact⟨fun _ _ _=>rfl,fun _=>rfl⟩
 ·rcases Int.lt_or_le a 0 with c | c
  ·have r:(co (X.at (bud a b)) d).k.l=4000000:=by show (if a<0 then 4000000 else 0)=4000000;rw [if_pos c]
   omega
  ·exact c
def cD (l:Ln)(b:Int):Int:=if l.kd=2/\l.in_≠b then 0 else l.at_
def mH (d:Bool)(a:Rq)(c e:Int)(l:Ln)(b:Int):Int:=if d=true/\a.op=2/\a.key=l.k/\(l.kd=1\/e=b)/\cD l b<c then c else cD l b
def gY (f:Bool)(c:Rq)(d e blk T:Int)(l:Ln)(a b:Int):Prop:=(if l.kd=2 then b=T / l.y/\¬(0<l.at_/\b<l.in_) else b=0)/\cD l b<=a/\(a<=mH true c d e l b\/a - mH true c d e l b<=blk)
theorem iE (a:Rq)(i j:Int)(l:Ln)(b:Int):∃ g,mH true a i j l b=g/\(((a.op==2)=false/\g=cD l b)\/(a.op=2/\¬a.key=l.k/\g=cD l b)\/(a.op=2/\a.key=l.k/\(¬l.kd=1/\¬j=b)/\g=cD l b)\/(a.op=2/\a.key=l.k/\(l.kd=1\/j=b)/\¬cD l b<i/\g=cD l b)\/(a.op=2/\a.key=l.k/\(l.kd=1\/j=b)/\cD l b<i/\g=i)):=by
 refine⟨_,rfl,?_⟩
 unfold mH;by_cases d:a.op=2
 ·by_cases e:a.key=l.k
  ·by_cases f:l.kd=1\/j=b
   ·by_cases k:cD l b<i
    ·exact ir (ir (ir (ir ⟨d,e,f,k,if_pos ⟨rfl,d,e,f,k⟩⟩)))
    ·exact ir (ir (ir (il ⟨d,e,f,k,if_neg (fun c=>k c.2.2.2.2)⟩)))
   ·exact ir (ir (il ⟨d,e,⟨fun c=>f (il c),fun c=>f (ir c)⟩,if_neg (fun c=>f c.2.2.2.1)⟩))
  ·exact ir (il ⟨d,e,if_neg (fun c=>e c.2.2.1)⟩)
 ·exact il ⟨by simpa using d,if_neg (fun c=>d c.2.1)⟩
theorem ja1 (x u:Nat)(L M N U V W:Value)(d:Rq)(t y blk T:Int)(l:Ln)(c a b:Int)(g:World)(a1:U7 t)(H:g.heap[x]?=some (.cells #[L,.pointer (some ⟨u,0,none⟩),M,.int .u64 blk,N,.bool true,.int .u8 d.op,.int .u8 d.k0,.int .u8 d.k1,.int .u8 d.k2,.int .u8 d.k3,.int .u8 d.k4,.int .u8 d.k5,.int .u8 d.k6,.int .u8 d.k7,.int .u8 d.kd,.int .u64 d.x,.int .u64 d.y,.int .u64 d.n,.int .u64 t,.int .u64 y,U,V] 67))(F:g.heap[u]?=some (ur W T))(D:l.ok)(Z:U7 T)(ad:U7 a)(av:0<=blk)(S:gY true d t y blk T l a b)(w:l.kd=1) :
  Calls prog 62 #[pO x 0,.agg #[.int .u8 l.k.k0,.int .u8 l.k.k1,.int .u8 l.k.k2,.int .u8 l.k.k3,.int .u8 l.k.k4,.int .u8 l.k.k5,.int .u8 l.k.k6,.int .u8 l.k.k7,.int .u8 l.kd,.int .u64 l.x,.int .u64 l.y,.int .u64 l.at_,.int .u64 l.in_],ot c a b] g fun e w'=>e=.returned (.bool true)/\B7 g w':=by
 obtain⟨o,n⟩:∃ o,o=(g.alloc (.cells #[.int .u8 l.k.k0,.int .u8 l.k.k1,.int .u8 l.k.k2,.int .u8 l.k.k3,.int .u8 l.k.k4,.int .u8 l.k.k5,.int .u8 l.k.k6,.int .u8 l.k.k7,.int .u8 l.kd,.int .u64 l.x,.int .u64 l.y,.int .u64 l.at_,.int .u64 l.in_] 151)).alloc (oI c a b):=⟨_,rfl⟩;have G:o.heap[g.heap.size]?=some (.cells #[.int .u8 l.k.k0,.int .u8 l.k.k1,.int .u8 l.k.k2,.int .u8 l.k.k3,.int .u8 l.k.k4,.int .u8 l.k.k5,.int .u8 l.k.k6,.int .u8 l.k.k7,.int .u8 l.kd,.int .u64 l.x,.int .u64 l.y,.int .u64 l.at_,.int .u64 l.in_] 151):=n▸aB (af _ _) _;have I:o.heap[g.heap.size+1]?=some (oI c a b):=n▸aC (by simp);have s:B7 g o:=n▸(ba g).alloc (by simp) _;have a3:=ab ((s.block u (am F)).trans F);have a4:=ab ((s.block x (am H)).trans H);have O:=ab G;have Y:=ab I;have ao:=D.at_;have f:=aa s;have Q:=D.kd;clear G I s;have p:=fun X=>iV d.key l.k X;obtain⟨m,A,v⟩:=iE d t y l b;obtain⟨E,P,C⟩:=S;have R:0<=cD l b/\cD l b<=18446744073709551615:=by unfold cD;split <;> omega
 rw [A] at C;have a0:U7 m:=by rcases v with j | j | j | j | j <;> omega
 have i:a<=m\/¬a<=m/\IntKind.u64.wrap (a - m)=a - m/\a - m<=blk:=by
  by_cases j:a<=m
  ·exact il j
  ·exact ir ⟨j,by rw [IntKind.wrap_u64];omega,by omega⟩
 clear C A R;have a2:=(Q.resolve_right (fun j=>by omega)).2;have z:cD l b=l.at_:=by unfold cD;rw [if_neg (by omega)]
 rw [if_neg (by omega)] at E;subst E;rw [z] at P v;clear z;rw [w] at O;rw [w] at n ⊢;go_enter func62,ntmps62
 go_upto_region 1 with fail
 rw [<-n];clear n;rcases v with ⟨q,rfl⟩ | ⟨q,k,rfl⟩ | ⟨q,k,⟨r,B⟩,rfl⟩ | ⟨q,k,r,B,rfl⟩ | ⟨q,k,r,B,rfl⟩
 ·clear p;rcases i with i | ⟨i,J,K⟩
  all_goals go_wp2_with (go_quiet (fail))
  all_goals go_ret
  all_goals exact⟨rfl,by first | exact below_drewN f.out _ | exact below_drewN (below_drewN f.out _) _ | exact below_drewN (below_drewN (below_drewN f.out _) _) _ | exact below_drewN (below_drewN (below_drewN (below_drewN f.out _) _) _) _⟩
 ·rw [decide_eq_false k] at p;dsimp only [Rq.key] at p;clear k;rcases i with i | ⟨i,J,K⟩
  all_goals go_wp2_with (go_quiet (fail))
  all_goals go_ret
  all_goals exact⟨rfl,by first | exact below_drewN f.out _ | exact below_drewN (below_drewN f.out _) _ | exact below_drewN (below_drewN (below_drewN f.out _) _) _ | exact below_drewN (below_drewN (below_drewN (below_drewN f.out _) _) _) _⟩
 all_goals (
   rw [decide_eq_true k] at p;dsimp only [Rq.key] at p;clear k)
 ·exact absurd w r
 all_goals (
   clear r;rcases i with i | ⟨i,J,K⟩
   all_goals go_wp2_with (go_quiet (fail))
   all_goals go_ret
   all_goals exact⟨rfl,by first | exact below_drewN f.out _ | exact below_drewN (below_drewN f.out _) _ | exact below_drewN (below_drewN (below_drewN f.out _) _) _ | exact below_drewN (below_drewN (below_drewN (below_drewN f.out _) _) _) _⟩)
end Go.Proofs.YtnlgndpcddngoaaGreatDoor
