import Derived.Test.YtnlgndpcddngoaaGreatDoorZ35
set_option linter.all false
set_option maxRecDepth 100000
set_option maxHeartbeats 4000000
namespace Go.Proofs.YtnlgndpcddngoaaGreatDoor
open Go.Proofs.Tryz Go.RowKit Go.Maps
variable [dK] [iK]
def iI (blk T:Int)(l:Ln)(a b:Int):Prop:=if l.kd=2 then (b=T / l.y/\¬(0<l.at_/\b<l.in_))/\(if l.in_=b then l.at_<=a/\a - l.at_<=blk else 0<=a/\a<=blk) else b=0/\l.at_<=a/\a - l.at_<=blk
structure LwR (W:World)(wb bb:Nat)(lv:Value)(blk T:Int):Prop where
 k1:W.cell? ⟨wb,1,none⟩=some (.pointer (some ⟨bb,0,none⟩))
 k3:W.cell? ⟨wb,3,none⟩=some (.int .u64 blk)
 k5:W.cell? ⟨wb,5,none⟩=some (.bool false)
 t:W.heap[bb]?=some (ur lv T)
theorem LwR.below {d f:World}{b e:Nat}{g:Value}{blk T:Int}(a:LwR d b e g blk T)(c:B7 d f):LwR f b e g blk T:=
 ⟨(c.cell (p:=⟨b,1,none⟩) (bT a.k1)).trans a.k1,(c.cell (p:=⟨b,3,none⟩) (bT a.k3)).trans a.k3,(c.cell (p:=⟨b,5,none⟩) (bT a.k5)).trans a.k5,(c.block e (am a.t)).trans a.t⟩
theorem jcV (D F:Nat)(K:Value)(blk T:Int)(l:Ln)(c a b:Int)(f:World)(H:LwR f D F K blk T)(x:l.ok)(m:U7 T)(M:U7 a)(Q:0<=blk)(i:iI blk T l a b) :
  Calls prog 62 #[pO D 0,.agg #[.int .u8 l.k.k0,.int .u8 l.k.k1,.int .u8 l.k.k2,.int .u8 l.k.k3,.int .u8 l.k.k4,.int .u8 l.k.k5,.int .u8 l.k.k6,.int .u8 l.k.k7,.int .u8 l.kd,.int .u64 l.x,.int .u64 l.y,.int .u64 l.at_,.int .u64 l.in_],ot c a b] f fun e w'=>e=.returned (.bool true)/\B7 f w':=by
 obtain⟨k,g⟩:∃ k,k=(f.alloc (.cells #[.int .u8 l.k.k0,.int .u8 l.k.k1,.int .u8 l.k.k2,.int .u8 l.k.k3,.int .u8 l.k.k4,.int .u8 l.k.k5,.int .u8 l.k.k6,.int .u8 l.k.k7,.int .u8 l.kd,.int .u64 l.x,.int .u64 l.y,.int .u64 l.at_,.int .u64 l.in_] 151)).alloc (oI c a b):=⟨_,rfl⟩;have B:k.heap[f.heap.size]?=some (.cells #[.int .u8 l.k.k0,.int .u8 l.k.k1,.int .u8 l.k.k2,.int .u8 l.k.k3,.int .u8 l.k.k4,.int .u8 l.k.k5,.int .u8 l.k.k6,.int .u8 l.k.k7,.int .u8 l.kd,.int .u64 l.x,.int .u64 l.y,.int .u64 l.at_,.int .u64 l.in_] 151):=g▸aB (af _ _) _;have C:k.heap[f.heap.size+1]?=some (oI c a b):=g▸aC (by simp);have r:B7 f k:=g▸(ba f).alloc (by simp) _;have E:=H.below r;obtain⟨Y,Z,ad,A⟩:=E;have ao:=ab A;have q:=ab B;have L:=ab C;have N:=x.at_;have d:=aa r;have I:=x.kd;clear B C r A H;rcases I with ⟨j,V⟩ | ⟨j,W⟩
 ·have u:b=0/\l.at_<=a/\a - l.at_<=blk:=by unfold iI at i;rw [if_neg (by omega)] at i;exact i
  obtain⟨rfl,v,w⟩:=u;rw [j] at q;have z:IntKind.u64.wrap (a - l.at_)=a - l.at_:=by rw [IntKind.wrap_u64];omega
  clear i;rw [j] at g ⊢;go_enter func62,ntmps62
  go_upto_region 1 with fail
  rw [<-g];clear g;by_cases n:a<=l.at_
  ·go_wp2_with (go_quiet (fail))
   go_ret
   exact⟨rfl,by first | exact below_drewN d.out _ | exact below_drewN (below_drewN d.out _) _ | exact below_drewN (below_drewN (below_drewN d.out _) _) _ | exact below_drewN (below_drewN (below_drewN (below_drewN d.out _) _) _) _⟩
  ·go_wp2_with (go_quiet (fail))
   go_ret
   exact⟨rfl,by first | exact below_drewN d.out _ | exact below_drewN (below_drewN d.out _) _ | exact below_drewN (below_drewN (below_drewN d.out _) _) _ | exact below_drewN (below_drewN (below_drewN (below_drewN d.out _) _) _) _⟩
 ·have u:(b=T / l.y/\¬(0<l.at_/\b<l.in_))/\(if l.in_=b then l.at_<=a/\a - l.at_<=blk else 0<=a/\a<=blk):=by unfold iI at i;rw [if_pos j] at i;exact i
  clear i;obtain⟨⟨s,o⟩,p⟩:=u;have X:¬l.y=0:=by omega
  have R:T.tdiv l.y=b:=by rw [s];exact Int.tdiv_eq_ediv_of_nonneg m.1
  have O:U7 b:=by rw [s];exact⟨Int.ediv_nonneg m.1 (by omega),Int.le_trans (Int.ediv_le_self _ m.1) m.2⟩
  have U:IntKind.u64.wrap b=b:=by rw [IntKind.wrap_u64];omega
  clear s;rw [j] at q;rw [j] at g ⊢;go_enter func62,ntmps62
  go_upto_region 1 with fail
  rw [<-g];clear g;by_cases t:l.in_=b
  ·rw [if_pos t] at p;obtain⟨v,w⟩:=p;have z:IntKind.u64.wrap (a - l.at_)=a - l.at_:=by rw [IntKind.wrap_u64];omega
   have J:¬b<l.in_:=by omega
   clear o;rw [t] at q ⊢;have P:¬b<b:=by omega
   by_cases y:0<l.at_
   ·by_cases n:a<=l.at_
    ·go_wp2_with (go_quiet (fail))
     go_ret
     exact⟨rfl,by first | exact below_drewN d.out _ | exact below_drewN (below_drewN d.out _) _ | exact below_drewN (below_drewN (below_drewN d.out _) _) _ | exact below_drewN (below_drewN (below_drewN (below_drewN d.out _) _) _) _⟩
    ·go_wp2_with (go_quiet (fail))
     go_ret
     exact⟨rfl,by first | exact below_drewN d.out _ | exact below_drewN (below_drewN d.out _) _ | exact below_drewN (below_drewN (below_drewN d.out _) _) _ | exact below_drewN (below_drewN (below_drewN (below_drewN d.out _) _) _) _⟩
   ·by_cases n:a<=l.at_
    ·go_wp2_with (go_quiet (fail))
     go_ret
     exact⟨rfl,by first | exact below_drewN d.out _ | exact below_drewN (below_drewN d.out _) _ | exact below_drewN (below_drewN (below_drewN d.out _) _) _ | exact below_drewN (below_drewN (below_drewN (below_drewN d.out _) _) _) _⟩
    ·go_wp2_with (go_quiet (fail))
     go_ret
     exact⟨rfl,by first | exact below_drewN d.out _ | exact below_drewN (below_drewN d.out _) _ | exact below_drewN (below_drewN (below_drewN d.out _) _) _ | exact below_drewN (below_drewN (below_drewN (below_drewN d.out _) _) _) _⟩
  ·rw [if_neg t] at p;obtain⟨v,w⟩:=p;have z:IntKind.u64.wrap (a - 0)=a:=by rw [IntKind.wrap_u64];omega
   have S:IntKind.u64.wrap a=a:=by rw [IntKind.wrap_u64];omega
   by_cases y:0<l.at_
   ·have J:¬b<l.in_:=fun G=>o ⟨y,G⟩;clear o;by_cases n:a<=0
    ·go_wp2_with (go_quiet (fail))
     go_ret
     exact⟨rfl,by first | exact below_drewN d.out _ | exact below_drewN (below_drewN d.out _) _ | exact below_drewN (below_drewN (below_drewN d.out _) _) _ | exact below_drewN (below_drewN (below_drewN (below_drewN d.out _) _) _) _⟩
    ·go_wp2_with (go_quiet (fail))
     go_ret
     exact⟨rfl,by first | exact below_drewN d.out _ | exact below_drewN (below_drewN d.out _) _ | exact below_drewN (below_drewN (below_drewN d.out _) _) _ | exact below_drewN (below_drewN (below_drewN (below_drewN d.out _) _) _) _⟩
   ·clear o;by_cases n:a<=0
    ·go_wp2_with (go_quiet (fail))
     go_ret
     exact⟨rfl,by first | exact below_drewN d.out _ | exact below_drewN (below_drewN d.out _) _ | exact below_drewN (below_drewN (below_drewN d.out _) _) _ | exact below_drewN (below_drewN (below_drewN (below_drewN d.out _) _) _) _⟩
    ·go_wp2_with (go_quiet (fail))
     go_ret
     exact⟨rfl,by first | exact below_drewN d.out _ | exact below_drewN (below_drewN d.out _) _ | exact below_drewN (below_drewN (below_drewN d.out _) _) _ | exact below_drewN (below_drewN (below_drewN (below_drewN d.out _) _) _) _⟩
structure Nv (w W:World)(hb:Nat)(blk:Int)(D:Dx)(L:Ld)(B:Nat)(G0 P G Q:NP):Prop where
 hst:bx W hb blk D L B G
 kp:ae (fun b=>G0 b\/P b) w W
 gg:∀ b,G b->G0 b\/w.heap.size<=b
 bs:B<=W.heap.size
 q:∀ b,Q b->b<W.heap.size/\¬G b
theorem Nv.asked {w e f:World}{l:Nat}{blk:Int}{D m:Dx}{L o:Ld}{B:Nat}{n P G j i:NP}(a:Nv w e l blk D L B n P G j)(q:bx f l blk m o B i)(g:ae G e f)(p:∀ b,i b->G b\/e.heap.size<=b):Nv w f l blk m o B n P i j/\∀ b,j b->f.heap[b]?=e.heap[b]?:=by
 have v:=a.kp.size;refine⟨⟨q,a.kp.then g (fun r u k=>?_),fun b d=>?_,lq a.bs g.size,fun b d=>?_⟩,fun b d=>g.block b (a.q b d).1 (a.q b d).2⟩
 ·rcases a.gg r k with c | c
  ·exact il c
  ·omega
 ·rcases p b d with c | c
  ·exact a.gg b c
  ·exact ir (by omega)
 ·obtain⟨s,t⟩:=a.q b d;exact⟨ll s g.size,fun k=>(p b k).elim t (fun c=>by omega)⟩
theorem Nv.below {w d g:World}{b:Nat}{blk:Int}{D:Dx}{L:Ld}{B:Nat}{e P G f:NP}(a:Nv w d b blk D L B e P G f)(c:B7 d g):Nv w g b blk D L B e P G f:=
 ⟨a.hst.quiet c.size (fun j k=>c.block j (a.hst.lt j k)),a.kp.trans (ae.of_below c),a.gg,lq a.bs c.size,fun i b=>⟨ll (a.q i b).1 c.size,(a.q i b).2⟩⟩
theorem Nv.wrote {w i j:World}{c:Nat}{blk:Int}{D:Dx}{L:Ld}{B:Nat}{g P G f S:NP}(a:Nv w i c blk D L B g P G f)(d:ae S i j)(l:∀ b,S b->f b/\(P b\/w.heap.size<=b)):Nv w j c blk D L B g P G f:=by
 have r:=a.kp.size;refine⟨a.hst.quiet d.size (fun e m=>d.block e (a.hst.lt e m) (fun o=>(a.q e (l e o).1).2 m)),a.kp.then d (fun p q n=>?_),a.gg,lq a.bs d.size,fun b c=>⟨ll (a.q b c).1 d.size,(a.q b c).2⟩⟩
 rcases (l p n).2 with k | k
 ·exact ir k
 ·omega
theorem Nv.more {w d:World}{c:Nat}{blk:Int}{D:Dx}{L:Ld}{B:Nat}{e P G f:NP}(a:Nv w d c blk D L B e P G f){x:Nat}(i:x<d.heap.size/\¬G x):Nv w d c blk D L B e P G (fun b=>f b\/b=x):=
 ⟨a.hst,a.kp,a.gg,a.bs,fun b c=>c.elim (a.q b) (fun g=>g▸i)⟩
def kc (i:Nat):Ky:=⟨97+i,0,0,0,0,0,0,0⟩
def qc (i:Nat):Rq:=⟨3,97+i,0,0,0,0,0,0,0,0,0,0,0⟩
theorem jfz (j a l base:Nat)(q:Value)(g:Bk)(blk:Int)(D:Dx)(L:Ld)(B:Nat)(t P G d:NP)(w f:World)(n:Nv w f a blk D L B t P G d)(Y:f.cell? ⟨j,0,none⟩=some (.pointer (some ⟨a,0,none⟩)))(T:an f l base q g)(bg:g.ls.length<=12)(V:d j/\d l/\∀ b,q.ownBlock=some b->d b)
  (W:∀ i,i<4->du (kc i) g.ls=none->pW D L (qc i) ⟨4,0,0⟩) :
  Calls prog 64 #[pO j 0,.pointer (some ⟨l,0,none⟩)] f fun e w'=>e=.returned (.bool true)/\(∃ s,Nv w w' a blk D L B t P s d)/\∀ b,d b->w'.heap[b]?=f.heap[b]?:=by
 have a6:=aa n;have a9:=aa Y;have a5:=aa T;have x:=aa V;have a2:=aa W;clear n Y T V W;go_enter func64,ntmps64
 go_wp2_with fail
 go_loopw [5] (fun J wr=>∃ i:Nat,i<=4/\J=.int .i64 i/\∃ s,Nv w wr a blk D L B t P s d/\∀ b,d b->wr.heap[b]?=f.heap[b]?) (fun J _=>4 - (intOf J).toNat)
 case atStart=>exact⟨0,by omega,rfl,G,a6.out,fun _ _=>rfl⟩
 case round=>
  obtain⟨i,bk,rfl,u,M,N⟩:=hrel;obtain⟨c,rfl⟩:∃ c,c=wr:=⟨_,rfl⟩;have v:=aa M;have y:=aa N;clear M N;by_cases bi:i<4
  ·have bj:(i:Int)<4:=by omega
   have bl:IntKind.i64.wrap (97+(i:Int))=97+i:=by rw [IntKind.wrap_i64];omega
   have bo:IntKind.u8.wrap (97+(i:Int))=97+i:=by rw [IntKind.wrap_u8];omega
   obtain⟨k,o⟩:∃ k,k=c.alloc (uT (97+i)):=⟨_,rfl⟩;have ao:k.heap[c.heap.size]?=some (uT (97+i)):=o▸af _ _;have F:B7 c k:=o▸ba c;have U:an c l base q g:=a5.out.kept (fun ad I=>y.out ad (by
     rcases I with rfl | I
     · exact x.out.2.1
     · exact x.out.2.2 ad I))
   have a4:=aa (jbU l base q g (kc i) k (U.below F lz) bg);have A:=aa ao;have K:=aa F;clear ao F U;go_upto_region 5 with fail
   rw [<-o];clear o;have bb:=ab A.out;go_wp2_with fail
   refine a4.out.mono ?_
   rintro e r ⟨rfl,H⟩;have av:=(H.block c.heap.size (am A.out)).trans A.out;have E:B7 c r:=K.out.trans (H.mono K.out.size);have m:=aa (v.out.below E);have z:Hid (∀ b,d b->r.heap[b]?=f.heap[b]?):=aa (fun b a=>(E.block b (v.out.q b a).1).trans (y.out b a));have bd:=ab av;clear H E av bb;cases p:(du (kc i) g.ls).isSome with
   | true=>
    clear p;go_wp2
    go_roundw
    case rel=>exact⟨i+1,by omega,by go_num,u,m.out,z.out⟩
    case measure=>simp [intOf];omega
   | false=>
    have X:du (kc i) g.ls=none:=by cases n:du (kc i) g.ls with
     | none=>rfl
     | some bs=>rw [n] at p;cases p
    have Z:r.cell? ⟨j,0,none⟩=some (.pointer (some ⟨a,0,none⟩)):=(World.cell?_of_block (w:=f) (z.out j x.out.1)).trans a9.out;have a3:=aa (vi j a blk D L B u (qc i) ⟨4,0,0⟩ r m.out.hst m.out.bs Z (a2.out i bi X));clear p X Z;go_wp2_with fail
    refine a3.out.mono ?_
    rintro e a0 ⟨rfl,a1,Q,R,S⟩;obtain⟨C,O⟩:=m.out.asked Q R S;have a7:=aa (C.below ((Below.refl _ a0).alloc lz (Uj)));have a8:Hid (∀ b,d b->(a0.alloc (Uj)).heap[b]?=f.heap[b]?):=aa (fun b a=>(ah _ _ (C.q b a).1).trans ((O b a).trans (z.out b a)));clear C O Q R S bd;go_wp2
    go_roundw
    case rel=>exact⟨i+1,by omega,by go_num,a1,a7.out,a8.out⟩
    case measure=>simp [intOf];omega
  ·have bj:¬(i:Int)<4:=by omega
   go_wp2
   go_ret
   exact⟨rfl,⟨u,v.out⟩,y.out⟩
def mh (k:Ky):Rq:=⟨3,k.k0,k.k1,k.k2,k.k3,k.k4,k.k5,k.k6,k.k7,0,0,0,0⟩
theorem nI (k:Ky):pY (mh k):=by
 intro c;have a:Rq.enc (mh k)=[9,3,k.k0,k.k1,k.k2,k.k3,k.k4,k.k5,k.k6,k.k7]:=rfl;have b:aF (Rq.enc (mh k) ++ c)=0:=by
  rw [a];simp [aF,aM];omega
 have d:=lJ (Rq.enc (mh k) ++ c) b (by rw [a];exact il rfl);refine⟨b,?_,?_⟩
 ·unfold dT;rw [if_pos b,a];simp
 ·rw [d,a];rfl
theorem jcq {L:Ld}(a:L.ok):aW L 0=L:=by
 have:=a.time.1;unfold aW;rw [if_neg (by omega)]
theorem pe {D:Dx}(f:0<=D.t){L:Ld}{q:Rq}{a:Rp}(d:L.ok)(i:q.ok/\q.byt)(e:pY q)(b:aS L q=(L,a))(g:q.op=3\/q.op=6)(j:a.told):pW D L q a:=by
 have c:bY [q]=q.enc ++ []:=by simp [bY]
 refine⟨i,?_,?_,j,f⟩
 ·rw [sO _ _ _ _ rfl,List.nil_append,c,jcq d,jcR _ q e,b,jcS];rfl
 ·unfold jK;rw [if_neg (by simp),List.nil_append,c,jcq d,jaS _ _ q e,b,jaT];unfold gm;rw [b];have:lD q a=none:=by unfold lD;rw [if_pos g]
  rw [this]
theorem jcu {k:Ky}(a:k.ok):(mh k).ok/\(mh k).byt:=⟨⟨a,by simp [mh],by simp [mh],by simp [mh]⟩,⟨by simp [mh],by simp [mh]⟩⟩
theorem jbF (L:Ld)(k:Ky):aS L (mh k)=(L,match aZ k L.ks with | none=>⟨4,0,0⟩ | some z=>⟨1,(aG z L.time).lv,(aG z L.time).wn⟩):=by
 have a:(mh k).key=k:=rfl;unfold aS;rw [if_neg (by simp [mh]),if_neg (by simp [mh]),if_pos (by simp [mh]),a];cases aZ k L.ks <;> rfl
theorem mR {D:Dx}(d:0<=D.t){L:Ld}{k:Ky}{z:Qt}(a:L.ok)(e:k.ok)(b:aZ k L.ks=some z):pW D L (mh k) ⟨1,(aG z L.time).lv,(aG z L.time).wn⟩:=by
 have f:z.ok:=by
  rw [fS] at b;exact a.qt _ (aR b)
 have c:=ji z L.time f a.time.1 a.time.2;exact pe d a (jcu e) (nI k) (by rw [jbF,b]) (il rfl) ⟨by simp,by simp,c.lv,c.wn⟩
theorem jo {D:Dx}(a:0<=D.t){L:Ld}{k:Ky}(b:L.ok)(d:k.ok)(c:aZ k L.ks=none):pW D L (mh k) ⟨4,0,0⟩:=
 pe a b (jcu d) (nI k) (by rw [jbF,c]) (il rfl) ⟨by simp,by simp,by simp,by simp⟩
theorem jbj {D:Dx}(b:0<=D.t){L:Ld}(a:L.ok):pW D L dZ ⟨1,L.time,0⟩:=by
 have d:=a.time;have c:aS L dZ=(L,⟨1,L.time,0⟩):=by
  unfold aS;rw [if_neg (by simp [dZ]),if_neg (by simp [dZ]),if_neg (by simp [dZ]),if_neg (by simp [dZ]),if_pos (by simp [dZ])]
 exact pe b a ⟨⟨⟨by simp [dZ,Rq.key],by simp [dZ,Rq.key],by simp [dZ,Rq.key],by simp [dZ,Rq.key],by simp [dZ,Rq.key],by simp [dZ,Rq.key],by simp [dZ,Rq.key],by simp [dZ,Rq.key]⟩,by simp [dZ],by simp [dZ],by simp [dZ]⟩,⟨by simp [dZ],by simp [dZ]⟩⟩ jaH c (ir rfl) ⟨by simp,by simp,d,by simp⟩
theorem jgd (i:Nat)(a:i<4):(kc i).ok:=⟨by simp [kc];omega,by simp [kc],by simp [kc],by simp [kc],by simp [kc],by simp [kc],by simp [kc],by simp [kc]⟩
def lnR (T:Int)(p:Ky×Qt)(l:Ln):Ln:=⟨l.k,l.kd,l.x,l.y,(aG p.2 T).lv,(aG p.2 T).wn⟩
def mN (blk T:Int):List (Ky×Qt)->List Ln->Prop
 | [],[]=>True
 | p :: r,l :: s=>(p.1=l.k/\iI blk T l (aG p.2 T).lv (aG p.2 T).wn)/\mN blk T r s
 | _,_=>False
theorem mN.len {blk T:Int}:∀ {ks:List (Ky×Qt)}{a:List Ln},mN blk T ks a->ks.length=a.length
 | [],[],_=>rfl
 | [],_ :: _,h=>h.elim
 | _ :: _,[],h=>h.elim
 | _ :: _,_ :: _,h=>by simp only [List.length_cons];rw [mN.len h.2]
theorem mN.at {blk T:Int}:∀ {ks:List (Ky×Qt)}{b:List Ln},mN blk T ks b->∀ (i:Nat) (a:i<ks.length) (c:i<b.length),ks[i].1=b[i].k/\iI blk T b[i] (aG ks[i].2 T).lv (aG ks[i].2 T).wn
 | p :: r,l :: s,h,0,_,_=>h.1
 | p :: r,l :: s,h,i+1,a,c=>mN.at h.2 i (by simpa using a) (by simpa using c)
 | [],_,_,_,a,_=>by simp at a
 | _ :: _,[],h,_,_,_=>h.elim
theorem jbY (a:List Ln)(j:(a.map Ln.k).Nodup)(i:Nat)(b:i<a.length):du a[i].k a=some i:=by
 refine kX a i (fun g e f d=>?_) b rfl
 have c:=List.pairwise_iff_getElem.1 j g i (by simpa using e) (by simpa using b) f;simp at c;exact c d
theorem mN.keys {blk T:Int}:∀ {ks:List (Ky×Qt)}{a:List Ln},mN blk T ks a->ks.map Prod.fst=a.map Ln.k
 | [],[],_=>rfl
 | [],_ :: _,h=>h.elim
 | _ :: _,[],h=>h.elim
 | p :: r,l :: s,h=>by simp only [List.map_cons];rw [h.1.1,mN.keys h.2]
theorem mN.none_ {blk T:Int}{ks:List (Ky×Qt)}{f:List Ln}(a:mN blk T ks f){k:Ky}(j:du k f=none):aZ k ks=none:=by
 rw [fS];refine dy (fun b=>?_)
 rw [a.keys] at b;have:∀ (c:List Ln),du k c=none->k ∉ c.map Ln.k:=by
  intro c;induction c with
  | nil=>intro _ a;cases a
  | cons g m l=>
   intro a b;unfold du at a;by_cases d:g.k=k
   ·rw [if_pos d] at a;cases a
   ·rw [if_neg d] at a;rcases List.mem_cons.1 b with e | e
    ·exact d e.symm
    ·refine l ?_ e
     cases i:du k m with
     | none=>rfl
     | some n=>rw [i] at a;cases a
 exact this f j b
theorem mN.some_ {blk T:Int}{ks:List (Ky×Qt)}{a:List Ln}(c:mN blk T ks a)(e:(ks.map Prod.fst).Nodup)(i:Nat)(b:i<ks.length)(d:i<a.length):aZ a[i].k ks=some ks[i].2:=by
 rw [fS,<-(c.at i b d).1];exact aV e (List.getElem_mem b)
theorem jaa {w:World}{b base:Nat}{c:Value}{B:Bk}(a:an w b base c B)(T:Int):an (w.setCell ⟨b,1,none⟩ (.int .u64 T)) b base c ⟨T,B.ls⟩:=
 ⟨by simpa using ai a.hb 1 (.int .u64 T),aq a.ho (fun e d=>ac (ax a.ho d a.hb (by decide)) _ _)⟩
theorem je0 {blk T c d:Int}{z z':Qt}{l:Ln}(b:cd T d z l)(i:z.ok)(n:d<=c)(f:gL blk z z')(q:z'.kd=2->z'.wn<=c / z'.y):iI blk c l (aG z' c).lv (aG z' c).wn:=by
 have u:=f.lo;have v:=f.up;have w:=f.wn;have x:=f.kd;have s:=f.y;have C:=i.lv.1;unfold iI;by_cases g:z.kd=1
 ·have j:l.kd=1:=by rw [<-b.kd];exact g
  obtain⟨y,A⟩:=b.s g;rw [if_neg (by omega)];unfold aG;rw [if_pos (by omega)];omega
 ·have p:z.kd=2:=by rcases i.kd with b | b <;> omega
  have j:l.kd=2:=by rw [<-b.kd];exact p
  have r:=q (by omega);obtain⟨e,B⟩:=b.w g;have m:z'.y=l.y:=s.trans b.y;have t:1<=z.y:=by rcases i.kd with b | b <;> omega
  have o:d / z.y<=c / z.y:=Int.ediv_le_ediv (by omega) n;rw [b.y] at o e;rw [if_pos j];unfold aG;rw [if_neg (by omega)];rw [m] at r ⊢;by_cases k:c / l.y=z'.wn
  ·rw [if_pos k];refine⟨⟨by omega,?_⟩,?_⟩
   ·rcases e with a | a | a <;> omega
   ·split
    ·rcases e with a | a | a <;> omega
    ·rcases e with a | a | a <;> omega
  ·rw [if_neg k];dsimp only;refine⟨⟨rfl,?_⟩,?_⟩
   ·rcases e with a | a | a <;> omega
   ·split
    ·rcases e with a | a | a <;> omega
    ·omega
theorem jfw {blk T b d:Int}{z z':Qt}{l:Ln}{k:Ky}(a:cd T d z l)(m:z.ok)(c:gL blk z z')(i:z'.kd=2->z'.wn<=b / z'.y):cd b b z' (lnR b (k,z') l):=by
 have j:=c.kd;refine⟨j.trans a.kd,c.x.trans a.x,c.y.trans a.y,fun e=>?_,fun e=>?_⟩
 ·have:=a.s (by omega);have:=c.wn;unfold lnR aG;dsimp only;rw [if_pos e];exact⟨rfl,by omega⟩
 ·have g:z'.kd=2:=by rcases c.ok.kd with a | a <;> omega
  have:=i g;unfold lnR aG;dsimp only;rw [if_neg e];by_cases f:b / z'.y=z'.wn
  ·rw [if_pos f];exact⟨il ⟨rfl,rfl⟩,by omega⟩
  ·rw [if_neg f];exact⟨ir (ir ⟨rfl,by dsimp only;omega,Int.le_refl _,Int.le_refl _⟩),by omega⟩
theorem tt {blk T a d:Int}{g:Bool}(b:d<=a):∀ {ks c:List (Ky×Qt)}{e:List Ln},bq T d ks e->(∀ p∈ks,p.2.ok)->Pw blk g a ks c->mN blk a c e
 | [],[],[],_,_,_=>trivial
 | (k,z) :: r,(k',z') :: r',l :: s,h,ho,hp=>⟨⟨hp.1.trans h.1,je0 h.2.1 (ho (k,z) (by simp)) b hp.2.1 hp.2.2.1⟩,tt b h.2.2 (fun p f=>ho p (List.mem_cons_of_mem _ f)) hp.2.2.2.2⟩
 | [],_ :: _,_,_,_,hp=>hp.elim
 | _ :: _,[],_,_,_,hp=>hp.elim
 | [],[],_ :: _,h,_,_=>h.elim
 | _ :: _,_ :: _,[],h,_,_=>h.elim
theorem qN {blk T a d:Int}{f:Bool}:∀ {ks b:List (Ky×Qt)}{c:List Ln},bq T d ks c->(∀ p∈ks,p.2.ok)->Pw blk f a ks b->bq a a b (List.zipWith (lnR a) b c)
 | [],[],[],_,_,_=>trivial
 | (k,z) :: r,(k',z') :: r',l :: s,h,ho,hp=>⟨hp.1.trans h.1,jfw h.2.1 (ho (k,z) (by simp)) hp.2.1 hp.2.2.1,qN h.2.2 (fun p e=>ho p (List.mem_cons_of_mem _ e)) hp.2.2.2.2⟩
 | [],_ :: _,_,_,_,hp=>hp.elim
 | _ :: _,[],_,_,_,hp=>hp.elim
 | [],[],_ :: _,h,_,_=>h.elim
 | _ :: _,_ :: _,[],h,_,_=>h.elim
theorem jfv {T:Int}{p:Ky×Qt}{l:Ln}(c:U7 T)(d:p.2.ok)(a:l.ok):(lnR T p l).ok:=by
 have b:=ji p.2 T d c.1 c.2;exact⟨a.kd,a.x,a.y,b.lv,b.wn⟩
theorem vV {blk T:Int}:∀ {ks a:List (Ky×Qt)},Pw blk true T ks a->a=ks
 | [],[],_=>rfl
 | (k,z) :: r,(k',z') :: r',h=>by
  have b:=h.1;have c:=h.2.2.2.1 rfl;have d:=vV h.2.2.2.2;rw [b,c,d]
 | [],_ :: _,h=>h.elim
 | _ :: _,[],h=>h.elim
theorem Rc.same {blk:Int}{L a:Ld}(b:Rc blk ⟨L.time,true⟩ L a):a=⟨L.time,0,L.ks⟩:=by
 have c:=vV b.pw;have e:=b.time;have f:L.time<=a.time:=b.dt;have d:=b.adm;cases a
 simp only at c e f d;rw [c,d];congr
 omega
theorem nE {T:Int}:∀ {ks:List (Ky×Qt)}{b:List Ln},(∀ p∈ks,p.2.ok)->bq T T ks b->mN 0 T ks b
 | [],[],_,_=>trivial
 | (k,z) :: r,l :: s,ho,hl=>by
  have a:=ho (k,z) (by simp);refine⟨⟨hl.1,?_⟩,nE (fun p d=>ho p (List.mem_cons_of_mem _ d)) hl.2.2⟩
  exact je0 (blk:=0) hl.2.1 a (Int.le_refl _) (gL.same a (Int.le_refl _)) (fun c=>(hl.2.1.w (by show z.kd≠1;have e:z.kd=2:=c;omega)).2)
 | [],_ :: _,_,h=>h.elim
 | _ :: _,[],_,h=>h.elim
theorem bq.keys {T d:Int}:∀ {ks:List (Ky×Qt)}{a:List Ln},bq T d ks a->ks.map Prod.fst=a.map Ln.k
 | [],[],_=>rfl
 | (k,z) :: r,l :: s,h=>by simp only [List.map_cons];rw [h.1,bq.keys h.2.2]
 | [],_ :: _,h=>h.elim
 | _ :: _,[],h=>h.elim
theorem gT.nd {d:Int}{L:Ld}{B:Bk}(a:gT d L B):(B.ls.map Ln.k).Nodup:=a.lines.keys▸a.lok.nd
theorem gT.kok {d:Int}{L:Ld}{B:Bk}(a:gT d L B):∀ l∈B.ls,l.k.ok:=fun l c=>by
 have:l.k∈L.ks.map Prod.fst:=by rw [a.lines.keys];exact List.mem_map_of_mem c
 obtain⟨f,e,b⟩:=List.mem_map.1 this;rw [<-b];exact a.lok.key f e
def bZ (T:Int)(ks:List (Ky×Qt))(b:List Ln):List Ln:=b.filterMap fun a=>(aZ a.k ks).map fun c=>lnR T (a.k,c) a
def dU (T:Int)(ks:List (Ky×Qt))(a:List Ln)(i:Nat):List Ln:=bZ T ks (a.take i) ++ a.drop i
theorem jfG (T:Int)(ks:List (Ky×Qt))(a:List Ln):dU T ks a 0=a:=by simp [dU,bZ]
theorem jcD (T:Int)(ks:List (Ky×Qt))(a:List Ln):dU T ks a a.length=bZ T ks a:=by simp [dU]
theorem lN (T:Int)(ks:List (Ky×Qt))(a:List Ln):(bZ T ks a).length<=a.length:=List.length_filterMap_le _ _
theorem rj (T:Int)(ks:List (Ky×Qt))(a:List Ln)(i:Nat):(dU T ks a i).length<=a.length:=by
 unfold dU;have b:=lN T ks (a.take i);rw [List.length_append,List.length_drop];rw [List.length_take] at b;omega
theorem jaI (T:Int)(ks:List (Ky×Qt))(c:List Ln):∀ l∈bZ T ks c,∃ l'∈c,l.k=l'.k:=fun l d=>by
 obtain⟨l',e,a⟩:=List.mem_filterMap.1 d;cases b:aZ l'.k ks with
 | none=>rw [b] at a;cases a
 | some f=>
  rw [b] at a;injection a with a;exact⟨l',e,by rw [<-a];rfl⟩
theorem jcF (T:Int)(ks:List (Ky×Qt))(a:List Ln)(i:Nat)(b:i<a.length):(dU T ks a i)[(bZ T ks (a.take i)).length]?=some a[i]:=by
 unfold dU;rw [List.getElem?_append_right lz,Nat.sub_self,List.getElem?_drop,Nat.add_zero];exact List.getElem?_eq_getElem b
theorem vG (k:Ky):∀ (a b:List Ln),(∀ l∈a,l.k≠k)->du k (a ++ b)=(du k b).map (·+a.length)
 | [],b,_=>by cases c:du k b <;> simp [c]
 | x :: a,b,c=>by
  have d:du k (x :: (a ++ b))=(du k (a ++ b)).map (·+1):=if_neg (c x List.mem_cons_self);show du k (x :: (a ++ b))=_;rw [d,vG k a b (fun l e=>c l (List.mem_cons_of_mem _ e)),Option.map_map];congr 1
theorem ri (T:Int)(ks:List (Ky×Qt))(a:List Ln)(m:(a.map Ln.k).Nodup)(i:Nat)(c:i<a.length):du a[i].k (dU T ks a i)=some (bZ T ks (a.take i)).length:=by
 unfold dU;rw [vG _ _ _ (fun l j e=>?_)]
 ·rw [List.drop_eq_getElem_cons c];unfold du;rw [if_pos rfl];simp
 ·obtain⟨n,f,b⟩:=jaI T ks _ l j;obtain⟨k,g,rfl⟩:=List.mem_iff_getElem.1 f;rw [List.length_take] at g;have d:=List.pairwise_iff_getElem.1 m k i (by simp;omega) (by simpa using c) (by omega);simp at d;rw [List.getElem_take] at b;exact d (b.symm.trans e)
theorem nJ (T:Int)(ks:List (Ky×Qt))(a:List Ln)(l:Ln):bZ T ks (a ++ [l])=bZ T ks a ++ (match aZ l.k ks with | some z=>[lnR T (l.k,z) l] | none=>[]):=by
 unfold bZ;rw [List.filterMap_append];cases b:aZ l.k ks <;> simp [b]
theorem jcG (T:Int)(ks:List (Ky×Qt))(a:List Ln)(i:Nat)(b:i<a.length){z:Qt}(c:aZ a[i].k ks=some z):(dU T ks a i).set (bZ T ks (a.take i)).length (lnR T (a[i].k,z) a[i])=dU T ks a (i+1):=by
 unfold dU;rw [List.set_append_right _ _ lz,Nat.sub_self,List.drop_eq_getElem_cons b,List.set_cons_zero,List.take_add_one,List.getElem?_eq_getElem b];show _=bZ T ks (a.take i ++ [a[i]]) ++ _;rw [nJ,c];simp
theorem jcE (T:Int)(ks:List (Ky×Qt))(a:List Ln)(i:Nat)(b:i<a.length)(c:aZ a[i].k ks=none):(dU T ks a i).eraseIdx (bZ T ks (a.take i)).length=dU T ks a (i+1):=by
 unfold dU;rw [List.eraseIdx_append_of_length_le lz,Nat.sub_self,List.drop_eq_getElem_cons b,List.eraseIdx_cons_zero,List.take_add_one,List.getElem?_eq_getElem b];show _=bZ T ks (a.take i ++ [a[i]]) ++ _;rw [nJ,c];simp
end Go.Proofs.YtnlgndpcddngoaaGreatDoor
