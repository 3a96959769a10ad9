import Derived.Test.YtnlgndpcddngoaaGreatDoorZ08
import Derived.Deep.RegionHeld3
import Derived.Test.YtnlgndpcddngoaaGreatDoorZ23
import Derived.Defers
set_option linter.all false
set_option maxRecDepth 100000
set_option maxHeartbeats 4000000
namespace Go.Proofs.YtnlgndpcddngoaaGreatDoor
open Go.Proofs.Tryz Go.RowKit Go.Maps
variable [dK] [iK]
theorem rV (s j:Nat)(ao av a0 adm:Value)(I blk:Int)(t:Es)(k:Ky)(w:World)(bd:w.heap[s]?=some (oF ao av I blk j a0 adm))(a7:aH w j t)(T:k.ok)(l m:Qt)(a5:ar k t=some (l,m))(n:Int)(r:Qt)(H Z ad:Int)
  (c8:Hid (∀ C,Calls prog 137 #[oD l,.int .u64 I,.int .u64 n] C fun e w'=>e=.returned (.tuple #[oD r,ot H Z ad])/\B7 C w')) (b4:Hid (H=2)) (di:n≠0) (el:t.length<=12) (em:j<w.heap.size)
  (c9:Hid (∀ C,Calls prog 138 #[oD m,oD r] C fun e w'=>e=.returned (.bool true)/\B7 C w')) :
  Calls prog 111 #[pO s 2,om k,.int .u64 n] w fun e w'=>e=.returned (ot H Z ad)/\aH w' j (aJ k (r,m) t)/\ae (fun b=>b=j) w w':=by
 go_enter func111,ntmps111
 go_upto_region 1 with fail
 obtain⟨d,E⟩:∃ d,d=(w.alloc (ol k)).alloc (og):=⟨_,rfl⟩;rw [<-E];have J:B7 w d:=E▸(ba w).alloc (by simp) _;have U:d.heap[w.heap.size]?=some (ol k):=E▸aB (af _ _) _;have b0:d.heap[w.heap.size+1]?=some (og):=E▸aC (by simp);have X:d.heap[s]?=some (oF ao av I blk j a0 adm):=E▸aB (aB bd _) _;have F:aH d j t:=ap.kept a7 (J.block j (ap.lt a7));have eo:=am bd;clear E bd a7;have ck:=ab U;have cl:=ce U (od);have cn:=ab X;have cp:=ce X (od);have cq:=cZ (w:=d.drew) (ap.kept F rfl) T a5;have cr:=cZ (w:=(d.alloc (od)).drew) (ap.kept F (ah _ _ (ap.lt F))) T a5;go_cut [7,8] (fun dN dR M=>dN=.pointer (some ⟨d.heap.size,0,none⟩)/\dR=.bool true/\M=(d.alloc (oe l m)).drew)
 case first=>
  go_region
  all_goals (go_wp2_with fail;go_meet)
  all_goals exact⟨rfl,rfl,rfl⟩
 case rest=>
  obtain⟨rfl,rfl,rfl⟩:=hcut;have b8:(d.alloc (oe l m)).heap[d.heap.size]?=some (oe l m):=af _ _;have bF:=aB U (oe l m);have b1:=aB b0 (oe l m);have b6:=aB X (oe l m);have bK:aH (d.alloc (oe l m)) j t:=ap.kept F (ah _ _ (ap.lt F));have bu:=J.alloc J.size (oe l m);have dd:=J.size;clear ck cl cn cp cq cr U b0 X F;obtain⟨a,x⟩:∃ a,a=(d.alloc (oe l m)).drew:=⟨_,rfl⟩;rw [<-x];have p:a.heap[d.heap.size]?=some (oe l m):=x▸b8;have V:a.heap[w.heap.size]?=some (ol k):=x▸bF;have L:a.heap[w.heap.size+1]?=some (og):=x▸b1;have B:a.heap[s]?=some (oF ao av I blk j a0 adm):=x▸b6;have W:aH a j t:=x▸ap.kept bK rfl;have K:B7 w a:=x▸bu.drew;clear x b8 bF b1 b6 bK bu;have eA:=am p;have ey:=am L;have ez:=am B;go_upto_region 4 with fail
  go_cut [9,10] (fun d0 dv M=>∃ (z:World) (N D:Nat),z=M/\d0=.pointer (some ⟨N,0,none⟩)/\dv=.pointer (some ⟨D,0,none⟩)/\z.heap[N]?=some (oH r)/\z.heap[D]?=some (oI H Z ad)/\a.heap.size<=N/\a.heap.size<=D/\B7 a z)
  case first=>
   have cw:=ab p 0;have cx:=ab p 1;have cy:=ab p 2;have cz:=ab p 3;have cF:=ab p 4;have cG:=ab B 2;simp at cw cx cy cz cF cG;have eL:a.heap.size≠d.heap.size:=by omega
   have eN:a.heap.size+1≠d.heap.size:=by omega
   have eQ:a.heap.size≠s:=by omega
   have eS:a.heap.size+1≠s:=by omega
   have a3:=aa p;have a1:=aa B;clear p V L B W K J T a5 dd;go_region_held3 (fun w'=>w'.cell? ⟨d.heap.size,0,none⟩=some (.int .u8 l.kd)/\w'.cell? ⟨d.heap.size,1,none⟩=some (.int .u64 l.x)/\w'.cell? ⟨d.heap.size,2,none⟩=some (.int .u64 l.y)/\w'.cell? ⟨d.heap.size,3,none⟩=some (.int .u64 l.lv)/\w'.cell? ⟨d.heap.size,4,none⟩=some (.int .u64 l.wn)/\w'.cell? ⟨s,2,none⟩=some (.int .u64 I)) (first | go_keep) (first
     | (go_at_call 137;refine (c8.out _).mono ?_;rintro e f ⟨rfl,o⟩
        have d1:=o.size;have G:=(by first | exact car2 a3.out o | exact car1 a3.out o | exact eZ a3.out o:f.heap[d.heap.size]?=some (oe l m));have b7:=(by first | exact car2 a1.out o | exact car1 a1.out o | exact eZ a1.out o:f.heap[s]?=some (oF ao av I blk j a0 adm));have cR:=ab G 0;have cU:=ab G 1;have cV:=ab G 2;have cX:=ab G 3;have c0:=ab G 4;have c1:=ab b7 2;simp at cR cU cV cX c0 c1 d1;have eB:f.heap.size≠d.heap.size:=by omega
        have eD:f.heap.size+1≠d.heap.size:=by omega
        have eE:f.heap.size≠s:=by omega
        have eF:f.heap.size+1≠s:=by omega
        first
          | (have i:Below a.drew.heap.size a.drew f:=o;have g:=aa ((Below.refl a.heap.size a).drew.trans i);clear i)
          | (have i:Below (a.alloc (oq)).drew.heap.size (a.alloc (oq)).drew f:=o;have c:=carC i;have g:=aa (bel1 i);have bi:=ab c;have bj:=ag c;have d3:=ce c (oq);have d4:=jG c (oq);have d5:=ce c (og);have d6:=jG c (og);have d7:=ce c (oH r);have d2:=jG c (oH r);have b9:¬a.heap.size=f.heap.size:=(by omega);have cb:¬f.heap.size=a.heap.size:=(by omega);have y:=aa c;clear c i)
          | (have i:Below (a.alloc (og)).drew.heap.size (a.alloc (og)).drew f:=o;have c:=carC i;have g:=aa (bel1 i);have bi:=ab c;have bj:=ag c;have d3:=ce c (oq);have d4:=jG c (oq);have d5:=ce c (og);have d6:=jG c (og);have d7:=ce c (oH r);have d2:=jG c (oH r);have b9:¬a.heap.size=f.heap.size:=(by omega);have cb:¬f.heap.size=a.heap.size:=(by omega);have y:=aa c;clear c i)
          | (have i:Below ((a.alloc (oq)).alloc (og)).drew.heap.size ((a.alloc (oq)).alloc (og)).drew f:=o;obtain⟨c,u⟩:=carD i;have g:=aa (bel2 i);have bi:=ab c;have bj:=ag c;have d8:=ab u;have d9:=ag u;have y:=aa c;have a2:=aa u;clear c u i)
          | (have i:Below ((a.alloc (og)).alloc (oq)).drew.heap.size ((a.alloc (og)).alloc (oq)).drew f:=o;obtain⟨c,u⟩:=carD i;have g:=aa (bel2 i);have bi:=ab c;have bj:=ag c;have d8:=ab u;have d9:=ag u;have y:=aa c;have a2:=aa u;clear c u i)
        have eV:=ab (aB (af f (oq)) (og));have eX:=ag (aB (af f (oq)) (og));have e0:=ab (aB (af f (og)) (oq));have e1:=ag (aB (af f (og)) (oq));have e2:=ab (af f (og));have e3:=ag (af f (og));have e4:=ab (af f (oq));have e5:=ag (af f (oq));have eb:=aa o;clear o G b7))
   all_goals (go_wp2_with fail;go_meet)
   ·exact⟨_,_,_,rfl,rfl,rfl,aB (af _ _) _,aC (by simp),g.out.size,Nat.le_succ_of_le g.out.size,(g.out.alloc g.out.size _).alloc (by have:=g.out.size;simp;omega) _⟩
   ·exact⟨_,_,_,rfl,rfl,rfl,aC (by simp),aB (af _ _) _,Nat.le_succ_of_le g.out.size,g.out.size,(g.out.alloc g.out.size _).alloc (by have:=g.out.size;simp;omega) _⟩
   ·exact⟨_,_,_,rfl,rfl,rfl,pN (aB y.out _) (af _ _) b9 lz g.out.size (g.out.alloc g.out.size _)⟩
   ·exact⟨_,_,_,rfl,rfl,rfl,pN y.out a2.out (by omega) (by omega) (by omega) g.out⟩
   ·exact⟨_,_,_,rfl,rfl,rfl,set3 (af _ _) (aB y.out _) cb g.out.size lz (g.out.alloc g.out.size _)⟩
   ·exact⟨_,_,_,rfl,rfl,rfl,pN a2.out y.out (by omega) (by omega) (by omega) g.out⟩
  case rest=>
   obtain⟨z,N,D,rfl,rfl,rfl,Q,P,er,eq,A⟩:=hcut;have a6:=(A.block _ (am V)).trans V;have bb:=(A.block _ (am L)).trans L;have Y:=(A.block _ (am p)).trans p;have bg:=(A.block _ (am B)).trans B;have a8:aH z j t:=ap.kept W (A.block j (ap.lt W));have a4:B7 w z:=K.trans (A.mono K.size);have ej:=K.size;have dl:=a4.size;have dt:=am bb;have dn:=am P;have ds:=am Q;have es:¬w.heap.size+1=D:=by omega
   have et:¬D=w.heap.size+1:=by omega
   clear V L p B W A K;have bo:=ab P;have ct:=ab Q;have cv:=ab Y;have bk:=aa a4;have eg:(H==2)=true:=by simp [b4.out]
   have ei:(n==0)=false:=by simp [di]
   go_upto_region 8 with (go_at_call 138;refine (c9.out _).mono ?_;rintro e O ⟨rfl,q⟩)
   have df:=(q.block _ (am a6)).trans a6;have b2:=(q.block _ dt).trans bb;have dm:=(q.block _ (am Y)).trans Y;have dk:=(q.block _ (am bg)).trans bg;have db:=(q.block _ ds).trans Q;have bs:=(q.block _ dn).trans P;have a9:aH O j t:=ap.kept a8 (q.block j (ap.lt a8));have bv:B7 w O:=bk.out.trans (q.mono dl);have ek:=q.size;clear bo ct cv a6 bb Y bg Q P a8 q bk a4;obtain⟨bl,b5,bz,bw⟩:=ap.store (w:=O.drew) mF (ap.kept a9 rfl) (by omega) T (r,m) jF;have en:(Instr.mapUpdate 121 (.map (some j)) (om k) (oL r m)).run prog O.drew=.ok () bl:=b5;have R:=ae.turned bz;have ev:=ap.lt a9;have b3:=(R.block _ (am b2) (fun e=>by omega)).trans b2;have c7:=(R.block _ (am bs) (fun e=>by omega)).trans bs;have ci:=aa R;have ch:=aa bw;have cc:=aa bv;clear b5 bz R bw a9 bv;have c2:=ab df;have c3:=ab dk;have c4:=ab db;have c5:=ab dm;go_cut [] (fun M=>M=bl)
   case first=>
    go_region
    all_goals (go_wp2_with fail;go_meet)
    all_goals rfl
   case rest=>
    subst hcut;clear c2 c3 c4 c5;have bo:=ab c7;have cs:=ab b3;have ef:=ag b3;go_wp2
    refine bodyPost_ret (v:=(ot H Z ad)) (by simp [results,results111,go_sem,cs,b4.out]) rfl ⟨rfl,?_,?_⟩
    ·exact ap.kept ch.out (by rw [ac (by omega),ac (by omega),ac (by omega)])
    ·exact (((ae.then (S:=fun b=>b=j) (ae.of_below cc.out.drew) ci.out (fun _ _ c6=>c6)).set (ir (by omega)) _ _).set (ir (by omega)) _ _).set (ir (by omega)) _ _
theorem ja {k:Ky}{v:Qt×Qt}{a:Es}(b:ar k a=none):aJ k v a=a ++ [(k,v)]:=by unfold aJ;rw [b];rfl
theorem bf {k:Ky}{v:Qt×Qt}{a:Es}(b:(ar k a).isSome=true):aJ k v a=bO k v a:=by unfold aJ;rw [if_pos b]
theorem qX {k:Ky}{v:Qt×Qt}{a:Es}(d:k.ok)(b:∀ p∈a,p.1.ok):∀ p∈aJ k v a,p.1.ok:=fun p e=>by
 rcases cS e with c | rfl
 ·exact b p c
 ·exact d
theorem vU {k:Ky}{v:Qt×Qt}{a:Es}(d:v.1.ok)(b:∀ p∈a,p.2.1.ok):∀ p∈aJ k v a,p.2.1.ok:=fun p e=>by
 rcases cS e with c | rfl
 ·exact b p c
 ·exact d
theorem gC {k:Ky}{v:Qt×Qt}{a:Es}(d:v.2.fit)(b:∀ p∈a,p.2.2.fit):∀ p∈aJ k v a,p.2.2.fit:=fun p e=>by
 rcases cS e with c | rfl
 ·exact b p c
 ·exact d
theorem gD {blk:Int}{k:Ky}{v:Qt×Qt}{a:Es}(e:gL blk v.1 v.2)(b:∀ p∈a,gL blk p.2.1 p.2.2):∀ p∈aJ k v a,gL blk p.2.1 p.2.2:=fun p d=>by
 rcases cS d with c | rfl
 ·exact b p c
 ·exact e
theorem jc {a:Int}{k:Ky}{v:Qt×Qt}{b:Es}(f:v.2.kd=2->v.2.wn<=a / v.2.y)(c:∀ p∈b,p.2.2.kd=2->p.2.2.wn<=a / p.2.2.y):∀ p∈aJ k v b,p.2.2.kd=2->p.2.2.wn<=a / p.2.2.y:=fun p e=>by
 rcases cS e with d | rfl
 ·exact c p d
 ·exact f
theorem sQ {k:Ky}{z d f:Qt}{a:Es}(e:ar k a=some (z,d))(b:Ky):aL a b=aL (aJ k (f,d) a) b:=by
 unfold aL;by_cases c:b=k
 ·subst c;rw [bm,e];rfl
 ·rw [be _ _ c]
theorem fE.cover {D l blk:Int}{a:Es}{turn:Int}{fs:Fs}{k:Ky}{z c f:Qt}(d:fE D l blk a turn fs)(b:ar k a=some (z,c))(q:gL blk f c):fE D l blk (aJ k (f,c) a) turn fs:=by
 have s:(ar k a).isSome=true:=by rw [b];rfl
 refine⟨gD q d.res,?_,d.old⟩
 rcases d.img with ⟨g,e,_,_⟩ | ⟨m,j,n,g,e,o,p,i⟩
 ·rw [e] at b;simp [ar] at b
 ·refine ir ⟨m,j,n,?_,e,o,?_,jc (i _ (aR b)) i⟩
  ·rw [bf s,ly];exact g
  ·rw [<-fI turn m a (aJ k (f,c) a) j (fun r _=>sQ b r)];exact p
def fY (L:Ld)(q:Rq):Ld×Rp:=
 match aZ q.key L.ks with
 | none=>(L,⟨4,0,0⟩)
 | some a=>(⟨L.time,L.adm,jH q.key (eM a L.time q.n).1 L.ks⟩,(eM a L.time q.n).2)
theorem dw.count {w w':World}{i:Int}{g db:Nat}{k:Bu}{c:de}{F:NP}{t:Int}(d:dw w i g db k c F)(J:∃ n o p q,w.heap[g]?=some (.cells #[.int .i32 i,.int .u32 0,n,o,p,q,.int .u64 c.adm] 130)/\w'.heap[g]?=some (.cells #[.int .i32 i,.int .u32 0,n,o,p,q,.int .u64 t] 130))(f:ae (fun b=>b=g) w w'):OutL w i g db k ⟨c.time,t,c.blk,c.es,c.turn,c.fsD,c.fsN⟩ F w':=by
 obtain⟨m,l,z,B,D,E,G,v,x,y,H,I,C,r,s,u⟩:=d.mem;obtain⟨n,o,p,q,j,A⟩:=J;rw [B] at j;simp at j;obtain⟨rfl,rfl,rfl,rfl⟩:=j;exact⟨F,⟨⟨m,l,z,A,ap.kept D (f.block m (d.lt m x) (fun a=>u a.symm)),E.kept (f.block l (d.lt l y) (fun a=>s a.symm)),G.kept f.size (fun b e=>f.block b (d.lt b (v b e)) (fun a=>r (a▸e))),v,x,y,H,I,C,r,s,u⟩,d.own,fun b e=>ll (d.lt b e) f.size⟩,f.mono (fun b a _=>a▸d.own),fun b e=>il e⟩
def eh (q:Rq)(a:Rp):Bool:=(decide (q.op=1) || decide (q.op=4) || !(decide (q.op=2) || decide (q.op=3) || decide (q.op=6))) && oneB a
def lD (q:Rq)(a:Rp):Option Bool:=if q.op=3\/q.op=6 then none else some (eh q a)
structure Dx where
 t:Int
 z:Bool
def de.hx (c:de)(D:Dx):Prop:=c.has D.t/\(D.z=true->∀ a∈c.es,a.2.2=a.2.1)/\Sm c.fsD c.fsN
def gm (D:Dx)(L:Ld)(q:Rq):Dx:=match lD q (aS L q).2 with
 | none=>D
 | some a=>⟨if a then L.time else D.t,false⟩
def aU (db:Nat)(blk:Int)(D:Dx)(k:Bu)(w:World)(c:Int)(b:Nat)(L:Ld)(F:NP):Prop:=∃ a:de,a.ok/\a.ld=L/\(a.blk=blk/\a.hx D)/\dw w c b db k a F
theorem aU.lt {db:Nat}{blk:Int}{D:Dx}{k:Bu}{w:World}{d:Int}{c:Nat}{L:Ld}{F:NP}(a:aU db blk D k w d c L F):∀ b,F b->b<w.heap.size:=by
 obtain⟨e,_,_,_,a⟩:=a;exact a.lt
theorem aU.lok {db:Nat}{blk:Int}{D:Dx}{k:Bu}{w:World}{e:Int}{d:Nat}{L:Ld}{F:NP}(a:aU db blk D k w e d L F):L.ok:=by
 obtain⟨f,b,c,_,_⟩:=a;exact c▸b.ld
theorem aU.kept {db:Nat}{blk:Int}{D:Dx}{k:Bu}{w w':World}{c:Int}{a:Nat}{L:Ld}{F:NP}(e:aU db blk D k w c a L F)(m:w.heap.size<=w'.heap.size)(l:∀ b,F b->w'.heap[b]?=w.heap[b]?):aU db blk D k w' c a L F:=by
 obtain⟨d,f,g,i,j⟩:=e;exact⟨d,f,g,i,j.kept m l⟩
theorem aU.below {db:Nat}{blk:Int}{D:Dx}{k:Bu}{w w':World}{e:Int}{d:Nat}{L:Ld}{F:NP}(b:aU db blk D k w e d L F){B:Nat}(c:Below B w w')(f:w.heap.size<=B):aU db blk D k w' e d L F:=
 b.kept c.size fun a g=>c.block a (ll (b.lt a g) f)
theorem aU.less {db:Nat}{blk:Int}{D:Dx}{k a:Bu}{w:World}{c:Int}{b:Nat}{L:Ld}{F:NP}(e:aU db blk D k w c b L F)(l:a.le k):aU db blk D a w c b L F:=by
 obtain⟨d,f,g,i,j⟩:=e;exact⟨d,f,g,i,j.less l⟩
def jf:Nat->Dx->Ld->List Int->Dx
 | 0,D,_,_=>D
 | n+1,D,L,bs=>if aF bs=0 then jf n (gm D L (rdQ bs)) (aS L (rdQ bs)).1 (bs.drop (dT bs).toNat) else D
def ib (D:Dx)(L:Ld)(bs:List Int):Dx:=jf bs.length D L bs
theorem tV:∀ (n:Nat) (D:Dx) (L:Ld) (bs:List Int),bs.length<=n->jf n D L bs=jf bs.length D L bs:=by
 intro n;induction n using Nat.strongRecOn with
 | ind n b=>
  intro D L bs f;cases n with
  | zero=>rw [show bs.length=0 by omega]
  | succ n=>
   cases d:bs.length with
   | zero=>
    have c:bs=[]:=List.length_eq_zero_iff.1 d;subst c;unfold jf;rw [if_neg (by simp [aF])]
   | succ e=>
    unfold jf;by_cases a:aF bs=0
    ·obtain⟨g,i,_,_⟩:=dG bs a;rw [if_pos a,if_pos a,b n (by omega) _ _ _ (by rw [List.length_drop];omega),b e (by omega) _ _ _ (by rw [List.length_drop];omega)]
    ·rw [if_neg a,if_neg a]
theorem iD (D:Dx)(L:Ld)(bs:List Int)(a:aF bs≠0):ib D L bs=D:=by
 unfold ib;cases b:bs.length with
 | zero=>rfl
 | succ c=>unfold jf;rw [if_neg a]
theorem lQ (D:Dx)(L:Ld)(bs:List Int)(a:aF bs=0):ib D L bs=ib (gm D L (rdQ bs)) (aS L (rdQ bs)).1 (bs.drop (dT bs).toNat):=by
 obtain⟨e,f,_,_⟩:=dG bs a;have b:ib D L bs=jf bs.length D L bs:=rfl;rw [b];cases d:bs.length with
 | zero=>omega
 | succ c=>
  unfold jf;rw [if_pos a,tV c _ _ _ (by rw [List.length_drop];omega)];rfl
theorem aU.own {db:Nat}{blk:Int}{D:Dx}{k:Bu}{w:World}{c:Int}{b:Nat}{L:Ld}{F:NP}(a:aU db blk D k w c b L F):F b:=by
 obtain⟨d,_,_,_,a⟩:=a;exact a.own
theorem aU.mem {db:Nat}{blk:Int}{D:Dx}{k:Bu}{w:World}{c:Int}{b:Nat}{L:Ld}{F:NP}(a:aU db blk D k w c b L F):∃ i f g,w.heap[b]?=some (ui c L.time i f g L.adm):=by
 obtain⟨l,_,e,_,a⟩:=a;obtain⟨n,m,j,d,_⟩:=a.mem;subst e;exact⟨_,_,_,d⟩
theorem aU.lock {db:Nat}{blk:Int}{D:Dx}{k:Bu}{w:World}{G:Int}{c:Nat}{L:Ld}{F:NP}(b:aU db blk D k w G c L F)(e:Int):aU db blk D k (w.setCell ⟨c,0,none⟩ (.int .i32 e)) e c L F:=by
 obtain⟨l,A,B,C,b⟩:=b;obtain⟨E,m,j,n,p,q,r,s,t,u,v,x,o,f,g,i⟩:=b.mem;exact⟨l,A,B,C,⟨⟨E,m,j,by simpa using ai n 0 (.int .i32 e),ap.kept p (ac (fun a=>i a.symm) _ _),q.kept (ac (fun a=>g a.symm) _ _),r.kept (by simp) (fun d z=>ac (fun (a:d=c)=>f (a▸z)) _ _),s,t,u,v,x,o,f,g,i⟩,b.own,fun d y=>by rw [World.size_setCell];exact b.lt d y⟩⟩
theorem aU.pass {db:Nat}{blk:Int}{D:Dx}{k:Bu}{w:World}{j:Int}{i:Nat}{L:Ld}{F:NP}(f:aU db blk D k w j i L F)(c:Int)(P:0<=c)(Q:c<=18446744073709551615){w':World}{A y z:Value}(l:w.heap[i]?=some (ui j L.time A y z L.adm))(C:w'.heap[i]?=some (ui j (aW L c).time A y z L.adm))(g:ae (fun b=>b=i) w w'):aU db blk D k w' j i (aW L c) F:=by
 obtain⟨a,d,O,n,f⟩:=f;obtain⟨o,m,B,E,H,I,J,s,t,u,K,M,G,p,q,r⟩:=f.mem;subst O;rw [E] at l;simp at l;obtain⟨_,rfl,rfl,rfl,_⟩:=l;have x:a.time<=(aW a.ld c).time:=by unfold aW;show a.time<=if a.ld.time<c then c else a.ld.time;have e:a.ld.time=a.time:=rfl;rw [e];split <;> omega
 refine⟨⟨(aW a.ld c).time,a.adm,a.blk,a.es,a.turn,a.fsD,a.fsN⟩,⟨?_,d.adm,d.blk,d.turn,d.nd,d.key,d.qt,d.fit,d.len,d.dur.pass x⟩,rfl,⟨n.1,fE.pass n.2.1 x,n.2.2⟩,⟨⟨o,m,B,C,ap.kept H (g.block o (f.lt o t) (fun e=>r e.symm)),I.kept (g.block m (f.lt m u) (fun e=>q e.symm)),J.kept g.size (fun b v=>g.block b (f.lt b (s b v)) (fun e=>p (e▸v))),s,t,u,K,M,G,p,q,r⟩,f.own,fun b N=>ll (f.lt b N) g.size⟩⟩
 have:=d.time;show 0<=(aW a.ld c).time/\(aW a.ld c).time<=18446744073709551615;unfold aW;show 0<=(if a.ld.time<c then c else a.ld.time)/\(if a.ld.time<c then c else a.ld.time)<=18446744073709551615;have e:a.ld.time=a.time:=rfl;rw [e];split <;> omega
theorem jcp (L:Ld)(b:Int)(a:L.ok)(c:0<=b)(d:b<=18446744073709551615):(aW L b).ok:=by
 refine⟨?_,a.adm,a.key,a.qt,a.nd,a.len⟩
 have:=a.time;unfold aW;dsimp only;split <;> omega
structure jl (w:World)(sb cb:Nat)(c:Cn)(F:NP):Prop where
 mem:∃ cw,w.heap[cb]?=some (uI sb cw c.bad)/\jJ w cw c.waits/\∀ g o n d,cw=.slice (some ⟨g,o,none⟩) n d->¬F g/\g≠cb/\g<w.heap.size
 nF:¬F cb
def NewW (g d:Nat)(w w':World)(c b:Cn):Prop:=∀ a,a<w.heap.size->(c.waits≠[]->∀ e,w.heap[d]?=some (uI g e c.bad)->e.ownBlock≠some a)->b.waits≠[]->∀ f,w'.heap[d]?=some (uI g f b.bad)->f.ownBlock≠some a
def jK (D:Dx)(L:Ld)(c:Cn)(a:Int)(bs:List Int):Dx:=if c.bad=true then D else ib D (aW L a) (c.waits ++ bs)
def dW (w w':World)(g db:Nat)(k:Bu)(F:NP)(i:Int->Fs->Fs->Prop):Prop:=
 ∃ (b:Int) (e f:Fs) (c:NP),((U7 b)/\i b e f)/\aY w' g db b/\bP w' db k e f c/\(∀ a,c a->F a\/w.heap.size<=a)/\ae (fun d=>d=g\/F d) w w'
theorem dW.from {w V w':World}{g db:Nat}{k:Bu}{F:NP}{c:Int->Fs->Fs->Prop}(a:dW V w' g db k F c)(b:ae (fun _=>False) w V):dW w w' g db k F c:=by
 obtain⟨q,f,i,d,j,l,m,n,o⟩:=a;exact⟨q,f,i,d,j,l,m,fun e p=>(n e p).imp id (fun a=>lq b.size a),(b.mono (fun _ a _=>a.elim)).trans o⟩
theorem jae (a:Array Value)(w:World):Sem.run prog (callFunc 142 a) w=.ok (.enter 142 a) w:=by simp [go_sem]
theorem dW.set {w V w':World}{g db:Nat}{k:Bu}{F:NP}{i:Int->Fs->Fs->Prop}(a:dW V w' g db k F i){x:Nat}(z:x<V.heap.size)(r:¬F x)(s:x≠g)(f:ae (fun _=>False) w V)(t:w.heap.size<=x)(u:Nat)(v:Value):dW w (w'.setCell ⟨x,u,none⟩ v) g db k F i:=by
 obtain⟨y,l,m,j,n,o,p,e,q⟩:=a;refine⟨y,l,m,j,n,o.kept (ac (fun c=>s c.symm) _ _),p.kept (by rw [World.size_setCell];exact lz) (fun b d=>ac (fun c=>?_) _ _),fun b d=>(e b d).imp id (fun a=>lq f.size a),((f.mono (fun _ a _=>a.elim)).trans q).set (ir t) _ _⟩
 subst c;rcases e b d with a | a
 ·exact r a
 ·omega
theorem dW.err {w w':World}{g db:Nat}{k:Bu}{F:NP}{c:Int->Fs->Fs->Prop}(a:dW w w' g db k F c)(p:¬F g)(s:g<w.heap.size):dW w (w'.setCell ⟨g,261,none⟩ .nilIface) g db k F c:=by
 obtain⟨r,i,j,d,l,m,n,b,o⟩:=a;refine⟨r,i,j,d,l,m.seterr,n.kept (by rw [World.size_setCell];exact lz) (fun e q=>ac (fun f=>?_) _ _),b,o.set (il (il rfl)) _ _⟩
 subst f;rcases b e q with a | a
 ·exact p a
 ·omega
def RnW (turn c:Int)(a:Es)(fsD fsN:Fs)(i:Int->Fs->Fs->Prop):Prop:=∀ (b:List Ky) (d e:Nat) (g f:Fs),b.Perm (a.map Prod.fst)->((g=aJ (au turn % 2==1) (d,strOfNums (aX (au turn) c a b)) fsD/\f=aJ (au turn % 2==1) (e,strOfNums (aX (au turn) c a b)) fsN)\/(g=br (IntKind.u64.wrap (au turn - 1) % 2==1) (aJ (au turn % 2==1) (d,strOfNums (aX (au turn) c a b)) fsD)/\f=br (IntKind.u64.wrap (au turn - 1) % 2==1) (aJ (au turn % 2==1) (e,strOfNums (aX (au turn) c a b)) fsN)/\((aJ (au turn % 2==1) (d,strOfNums (aX (au turn) c a b)) fsD).map Prod.fst).Nodup/\((aJ (au turn % 2==1) (e,strOfNums (aX (au turn) c a b)) fsN).map Prod.fst).Nodup))->i (au turn) g f
theorem jbq (a:Array Value)(w:World):Sem.run prog (callFunc 160 a) w=.ok (.enter 160 a) w:=by simp [go_sem]
theorem pF (a:Value)(w:World):(Go.method 510 78 a "Remove").run prog w=.ok (257,a) w:=by kernel_rfl
theorem rL {l f:Int}(d:¬(l≠0/\f≠0)):∃ b l' c dn,fQ l f b l' c dn:=by
 by_cases a:l=0
 ·exact⟨5,0,f,true,il ⟨a,rfl,rfl,rfl,rfl⟩⟩
 ·exact⟨4,aK l,-1,false,ir ⟨a,Decidable.byContradiction fun e=>d ⟨a,e⟩,rfl,rfl,rfl,rfl⟩⟩
def FlR (Z:Prop)(b:Bool)(fsN a:Fs)(pd:Pd)(dn:Bool):Prop:=(pd=.no/\dn=false/\a=fsN)\/(pd=.rm b/\(dn=true/\Z\/dn=false/\a=br b fsN))
def je5 (Z:Prop)(w w':World)(g db:Nat)(t:Int)(fsD fsN:Fs)(F:NP):Prop:=∃ (f:Pd) (d:Bool) (e:Fs) (b:NP),aY w' g db t/\iG w' db fsD e f d b/\FlR Z (IntKind.u64.wrap (t - 1) % 2==1) fsN e f d/\(∀ a,b a->F a\/w.heap.size<=a)/\ae (fun c=>c=g\/F c) w w'
def jf0 (a:Bu)(w w':World)(g db:Nat)(t:Int)(fsD fsN:Fs)(F:NP)(v:Value):Prop:=(v=.nilIface/\dW w w' g db (a.dn 2) F (fun e c b=>e=t/\((c=fsD/\b=fsN)\/(c=br (IntKind.u64.wrap (t - 1) % 2==1) fsD/\b=br (IntKind.u64.wrap (t - 1) % 2==1) fsN/\(fsD.map Prod.fst).Nodup/\(fsN.map Prod.fst).Nodup))))\/∃ d,v=cJ d/\(a.l<2\/a.f<2)/\je5 (a.l<2) w w' g db t fsD fsN F
theorem jfT (b3:Bu)(g db:Nat)(w:World)(t:Int)(fsD fsN:Fs)(F:NP)(cq:U7 t)(a3:aY w g db t)(R:bP w db b3 fsD fsN F)(bs:¬F g) :
  Calls prog 162 #[pO g 0] w fun e w'=>∃ v,e=.returned v/\jf0 b3 w w' g db t fsD fsN F v:=by
 obtain⟨n,nb,C,z,q,G,y,b0,b1,N,H,T⟩:=R.mem;have a5:=aa (fun (a:C=0\/aK C=0)=>b0.few a);have b5:=aa (fun (a:z=0\/aK z=0)=>b1.few a);obtain⟨av,cl⟩:∃ av,IntKind.u64.wrap (t - 1)=av:=⟨_,rfl⟩;have bo:U7 av:=by rw [<-cl,IntKind.wrap_u64];omega
 obtain⟨k,bF⟩:∃ k,k=(av % 2==1):=⟨_,rfl⟩;have W:=cK av w bo.1 bo.2;rw [<-bF] at W;have W:=aa W;have cb:=aa (iX db nb _ _ _ _ fsN w q y);have c4:=a3.lt;have c2:=R.lt db R.own;have a9:g≠db:=fun e=>bs (e▸R.own);have c5:g≠n:=fun e=>bs (e▸N);have c6:g≠nb:=fun e=>bs (e▸H);have bu:n≠db:=G.map.ne q;have bv:nb≠db:=y.map.ne q;have cU:=a3.turn;have cV:=a3.dsk;have dn:=eT (.pointer (some ⟨db,0,none⟩));have ds:=pF (.pointer (some ⟨db,0,none⟩));have dt:=ex (.pointer (some ⟨db,0,none⟩));have cw:=aa q;have b7:=aa G;have b8:=aa y;have b9:=aa (aN b0 b1);have HD:=aa R;have cF:=aa a3;have b6:=aa cq;have ao:=aa (bF.trans (by rw [<-cl]));clear q G y b0 b1 R a3 cq bF bo;go_enter func162,ntmps162
 go_wp2_with fail
 refine W.out.mono ?_
 rintro e w' ⟨rfl,u⟩;have L:=u.symm;clear u;subst L;go_wp2_with fail
 refine cb.out.mono ?_
 rintro e s ⟨v,ch,rfl,B,dd,cn,a4⟩;have P:=eO v ch k s cn dd;obtain⟨b2,bz⟩:∃ b2,b2=ch.any (fun f=>k==f):=⟨_,rfl⟩;rw [<-bz] at P;have P:=aa P;have ct:=aa B;have cx:=aa bz;have bl:aY s g db t:=cF.out.kept (a4.block g c4);have ci:bP s db b3 fsD fsN F:=HD.out.kept a4.size (fun Q K=>a4.block Q (HD.out.lt Q K));have Y:=aa bl;have cv:=aa ci;have p:=aa a4;have cc:=bl.dsk;clear B bz bl ci a4 cn cU cV W cb;cases b2
 ·go_wp2_with (go_at_call 146;refine P.out.mono ?_;rintro e w' ⟨rfl,u⟩;have L:=u.symm;clear u;subst L)
  go_ret
  exact⟨_,rfl,il ⟨rfl,t,fsD,fsN,F,⟨b6.out,rfl,il ⟨rfl,rfl⟩⟩,Y.out,cv.out.less ⟨Nat.sub_le _ _,Nat.sub_le _ _⟩,fun Q K=>il K,ae.of_below p.out⟩⟩
 ·have c7:(ar k fsN).isSome=true:=by
   refine (ct.out k).1 ?_
   obtain⟨f,d,df⟩:=List.any_eq_true.1 cx.out.symm;have:k=f:=by simpa using df
   exact this▸d
  have q:=(p.out.block db c2).trans cw.out;have y:ak s nb fsN:=b8.out.kept (p.out.block nb (HD.out.lt nb H)) (fun c b=>p.out.block _ (HD.out.lt _ (HD.out.sN c b)));have G:ak s n fsD:=b7.out.kept (p.out.block n (HD.out.lt n N)) (fun c b=>p.out.block _ (HD.out.lt _ (HD.out.sD c b)));have a2:=b9.out;by_cases S:C≠0/\z≠0
  case neg=>
   obtain⟨I,bK,bj,a1,J⟩:=rL S;have cy:=aa (jeu db (.map (some n)) (.map (some nb)) (ay k) C z I bK bj a1 s q J);have V:=aa G;have a8:=aa y;have a6:=aa q;have ad:=aa J;clear q G y a2 J S;go_wp2_with (first | (go_at_call 146;refine P.out.mono ?_;rintro e w' ⟨rfl,u⟩;have L:=u.symm;clear u;subst L) | fail)
   refine cy.out.mono ?_
   rintro e x ⟨rfl,r,l,o,j⟩;have X:=aa (aN l (aN o j));clear l o j;go_wp2
   go_ret
   obtain⟨l,o,j⟩:=X.out;have A:aY x g db t:=Y.out.kept (j.block g Y.out.lt a9);have E:ak x n fsD:=V.out.keep j bu (fun c b a=>by
     have i:=V.out.str c b;rw [a,a6.out] at i;simp at i)
   have ck:ak x nb fsN:=a8.out.keep j bv (fun c b a=>by
     have i:=a8.out.str c b;rw [a,a6.out] at i;simp at i)
   have cr:=p.out.size;have cs:=j.size;have bb:ae (fun a0=>a0=g\/F a0) w x:=(ae.of_below p.out).then j (fun bd _ a=>ir (a▸HD.out.own));refine⟨cJ I,rfl,ir ⟨I,rfl,ad.out.imp (fun a=>a5.out (il a.1)) (fun a=>b5.out (il a.2.1)),?_⟩⟩
   rcases ad.out with ⟨c8,rfl,rfl,rfl,rfl⟩ | ⟨_,_,rfl,rfl,rfl,rfl⟩
   ·have M:x.ownsRow s.heap.size 146 3 r 1 (opr 3 (ay k) ⟨#[]⟩):=o;refine⟨.rm k,true,fsN,fun f=>F f\/r.ownBlock=some f,A,⟨⟨n,nb,r,_,_,l,E,ck,⟨_,M⟩,fun f d=>ir d,il N,il H,T⟩,fun c b=>il (HD.out.sD c b),fun c b=>il (HD.out.sN c b),il HD.out.own,fun f d=>?_⟩,ir ⟨by rw [ao.out],il ⟨rfl,a5.out (il c8)⟩⟩,fun f d=>?_,bb⟩
    ·rcases d with a | a
     ·have:=HD.out.lt f a;omega
     ·exact (aj M a).2
    ·rcases d with a | a
     ·exact il a
     ·have:=(aj M a).1;exact ir (by omega)
   ·have cp:r=.slice none 0 0:=o;exact⟨.no,false,fsN,F,A,⟨⟨n,nb,r,_,_,l,E,ck,cp,fun f d=>by rw [cp] at d;simp [Value.ownBlock] at d,N,H,T⟩,HD.out.sD,HD.out.sN,HD.out.own,fun f d=>by have:=HD.out.lt f d;omega⟩,il ⟨rfl,rfl,rfl⟩,fun f d=>il d,bb⟩
  have cz:=aa (jaL db nb (.map (some n)) fsN k C z s q y S.1 S.2 c7);have V:=aa G;have a8:=aa y;have a6:=aa q;have b4:=aa S;clear q G y a2 S;go_wp2_with (first | (go_at_call 146;refine P.out.mono ?_;rintro e w' ⟨rfl,u⟩;have L:=u.symm;clear u;subst L) | fail)
  refine cz.out.mono ?_
  rintro e x ⟨rfl,r,l,o,U,j⟩;have A:aY x g db t:=Y.out.kept (j.block g Y.out.lt (fun a=>a.elim a9 c6));have E:ak x n fsD:=V.out.keep j (fun a=>a.elim bu T) (fun c b a=>by
    have i:=V.out.str c b;rcases a with a | a
    · rw [a,a6.out] at i;simp at i
    · rw [a] at i;exact a8.out.map.ne i rfl)
  by_cases B:aK C≠0/\aK z≠0
  case neg=>
   obtain⟨I,bK,bj,a1,J⟩:=rL B;have cG:=aa (jc0 db (.map (some n)) (.map (some nb)) r (aK C) (aK z) I bK bj a1 x l J);have cX:=A.dsk;have Z:=aa A;have X:=aa (aN l (aN o (aN U j)));have a7:=aa E;have ad:=aa J;clear l o U j A E cc J B;go_wp2_with fail
   refine cG.out.mono ?_
   rintro e O ⟨rfl,D,m⟩;have bi:=aa (aN D m);clear D m;go_wp2
   go_ret
   obtain⟨D,m⟩:=bi.out;obtain⟨l,o,U,j⟩:=X.out;have M:x.ownsRow s.heap.size 146 3 r 1 (opr 3 (ay k) ⟨#[]⟩):=U;have dm:db<s.heap.size:=by have:=p.out.size;omega
   have bw:O.ownsRow s.heap.size 146 3 r 1 (opr 3 (ay k) ⟨#[]⟩):=aq M (fun f d=>m.block f (aj M d).2 (fun e=>by have:=(aj M d).1;omega));have c1:aY O g db t:=Z.out.kept (m.block g Z.out.lt a9);have c0:ak O n fsD:=a7.out.keep m bu (fun c b a=>by
     have i:=a7.out.str c b;rw [a,l] at i;simp at i)
   have bk:ak O nb (br k fsN):=o.keep m bv (fun c b a=>by
     have i:=o.str c b;rw [a,l] at i;simp at i)
   have cr:=p.out.size;have cs:=j.size;have dk:=m.size;have bb:ae (fun a0=>a0=g\/F a0) w O:=((ae.of_below p.out).then j (fun bd _ a=>by
     rcases a with a | a
     · exact ir (a▸HD.out.own)
     · exact ir (a▸H))).then m (fun bd _ a=>ir (a▸HD.out.own))
   refine⟨cJ I,rfl,ir ⟨I,rfl,ad.out.imp (fun a=>a5.out (ir a.1)) (fun a=>b5.out (ir a.2.1)),.rm k,a1,br k fsN,fun f=>F f\/r.ownBlock=some f,c1,⟨⟨n,nb,r,_,_,D,c0,bk,⟨_,bw⟩,fun f d=>ir d,il N,il H,T⟩,fun c b=>il (HD.out.sD c b),fun c b=>il (HD.out.sN c (cg.subset b)),il HD.out.own,fun f d=>?_⟩,ir ⟨by rw [ao.out],?_⟩,fun f d=>?_,bb⟩⟩
   ·rcases d with a | a
    ·have:=HD.out.lt f a;omega
    ·exact (aj bw a).2
   ·cases a1
    ·exact ir ⟨rfl,by rw [ao.out]⟩
    ·refine il ⟨rfl,a5.out (ir ?_)⟩
     rcases ad.out with ⟨a,_⟩ | ⟨_,_,_,_,_,a⟩
     ·exact a
     ·cases a
   ·rcases d with a | a
    ·exact il a
    ·have:=(aj bw a).1;exact ir (by omega)
  have cR:=aa (rH db n s.heap.size (.map (some nb)) r fsD k ⟨#[]⟩ (aK C) (aK z) x l E B.1 B.2 U);have cX:=A.dsk;have Z:=aa A;have X:=aa (aN l (aN o j));have a7:=aa E;clear l o U j A E cc;go_wp2_with fail
  refine cR.out.mono ?_
  rintro e O ⟨rfl,dl,D,di,bg,m⟩;have bi:=aa (aN D (aN bg m));clear D di bg m;go_wp2
  go_ret
  obtain⟨D,bg,m⟩:=bi.out;obtain⟨l,o,j⟩:=X.out;have a2:=b9.out;have c9:=a2.1.two b4.out.1 B.1;have c3:=a2.2.two b4.out.2 B.2;have bk:ak O nb (br k fsN):=o.keep m (fun a=>a.elim bv (fun e=>T e.symm)) (fun c b a=>by
    have i:=o.str c b;rcases a with a | a
    · rw [a,l] at i;simp at i
    · rw [a] at i;exact a7.out.map.ne i rfl)
  have cr:=p.out.size;have cs:=j.size;have dk:=m.size;refine⟨_,rfl,il ⟨rfl,t,br k fsD,br k fsN,F,⟨b6.out,rfl,ir ⟨by rw [ao.out],by rw [ao.out],b7.out.nd,b8.out.nd⟩⟩,Z.out.kept (m.block g Z.out.lt (fun a=>a.elim a9 c5)),⟨⟨n,nb,aK (aK C),aK (aK z),D,bg,bk,c9.dec.dec,c3.dec.dec,N,H,T⟩,fun c b=>HD.out.sD c (cg.subset b),fun c b=>HD.out.sN c (cg.subset b),HD.out.own,fun Q K=>by have:=HD.out.lt Q K;omega⟩,fun Q K=>il K,?_⟩⟩
  refine ((ae.of_below p.out).then j (fun bd _ a=>?_)).then m (fun bd _ a=>?_)
  ·rcases a with a | a
   ·exact ir (a▸HD.out.own)
   ·exact ir (a▸H)
  ·rcases a with a | a
   ·exact ir (a▸HD.out.own)
   ·exact ir (a▸N)
structure az (P:World->Nat->(NP)->Prop)(w:World)(st:Int)(sb:Nat)(time adm blk:Int)(es:Es)(F:NP):Prop where
 mem:∃ mp g FD,w.heap[sb]?=some (OW st time blk mp g adm)/\aH w mp es/\P w g FD/\g<w.heap.size/\(∀ b,FD b->F b)/\F mp/\F g/\¬FD g/\¬FD mp/\mp≠g/\¬FD sb/\sb≠g/\sb≠mp
 own:F sb
 lt:∀ b,F b->b<w.heap.size
def jS (P:World->Nat->(NP)->Prop):Prop:=∀ {b c:World}{a:Nat}{d:NP},P b a d->b.heap.size<=c.heap.size->c.heap[a]?=b.heap[a]?->(∀ e,d e->c.heap[e]?=b.heap[e]?)->P c a d
theorem az.kept {P:World->Nat->(NP)->Prop}(v:jS P){w w':World}{n:Int}{f:Nat}{o adm blk:Int}{g:Es}{F:NP}(a:az P w n f o adm blk g F)(e:w.heap.size<=w'.heap.size)(c:∀ b,F b->w'.heap[b]?=w.heap[b]?):az P w' n f o adm blk g F:=by
 obtain⟨m,i,p,q,r,s,t,j,k,l,u⟩:=a.mem;exact⟨⟨m,i,p,(c f a.own).trans q,ap.kept r (c m k),v s e (c i l) (fun b d=>c b (j b d)),ll t e,j,k,l,u⟩,a.own,fun b d=>ll (a.lt b d) e⟩
theorem az.below {P:World->Nat->(NP)->Prop}(k:jS P){w w':World}{f:Int}{e:Nat}{g adm blk:Int}{b:Es}{F:NP}(c:az P w f e g adm blk b F){B:Nat}(d:Below B w w')(i:w.heap.size<=B):az P w' f e g adm blk b F:=
 c.kept k d.size fun a j=>d.block a (ll (c.lt a j) i)
theorem az.pp {P:World->Nat->(NP)->Prop}(c:jS P)(g:Int)(f:Nat)(i adm blk:Int)(b:Es):PP (fun w F=>az P w g f i adm blk b F):=⟨fun a e d=>a.kept c e d,fun a=>a.lt⟩
theorem az.turn {P:World->Nat->(NP)->Prop}(D:jS P){w w':World}{s:Int}{e g:Nat}{t adm blk:Int}{v j:Es}{F:NP}(a:az P w s e t adm blk v F)(q:w.cell? ⟨e,4,none⟩=some (.map (some g)))(E:aH w' g j)(c:ae (fun b=>b=g) w w'):az P w' s e t adm blk j F:=by
 obtain⟨r,i,u,k,G,z,A,n,B,o,C,p,l,x,y,m⟩:=a.mem;have d:r=g:=by
  rw [ab k 4] at q;simpa using q
 subst d;exact⟨⟨r,i,u,(c.block e (a.lt e a.own) m).trans k,E,D z c.size (c.block i (a.lt i o) (fun d=>l d.symm)) (fun b f=>c.block b (a.lt b (n b f)) (fun d=>p (d▸f))),ll A c.size,n,B,o,C,p,l,x,y,m⟩,a.own,fun b f=>ll (a.lt b f) c.size⟩
theorem az.serve {P:World->Nat->(NP)->Prop}(H:jS P){w w':World}{t u:Int}{e:Nat}{v x adm j blk:Int}{k:Es}{F:NP}(a:az P w t e v adm blk k F)(I:∀ r s,w.heap[e]?=some (.cells #[.int .i32 t,.int .u32 0,.int .u64 v,.int .u64 blk,r,s,.int .u64 adm] 130)->w'.heap[e]?=some (.cells #[.int .i32 u,.int .u32 0,.int .u64 x,.int .u64 blk,r,s,.int .u64 j] 130))(c:ae (fun b=>b=e) w w'):az P w' u e x j blk k F:=by
 obtain⟨i,g,y,z,B,C,D,o,p,q,E,G,A,l,m,n⟩:=a.mem;exact⟨⟨i,g,y,I _ _ z,ap.kept B (c.block i (a.lt i p) (fun d=>n d.symm)),H C c.size (c.block g (a.lt g q) (fun d=>m d.symm)) (fun b f=>c.block b (a.lt b (o b f)) (fun d=>l (d▸f))),ll D c.size,o,p,q,E,G,A,l,m,n⟩,a.own,fun b f=>ll (a.lt b f) c.size⟩
def mM (db:Nat)(k:Bu)(turn:Int)(fsD fsN:Fs)(w:World)(g:Nat)(a:NP):Prop:=aY w g db turn/\bP w db k fsD fsN a
theorem mM.fra {db:Nat}{k:Bu}{turn:Int}{fsD fsN:Fs}:jS (mM db k turn fsD fsN):=fun a d c b=>⟨a.1.kept c,a.2.kept d b⟩
theorem jfs {w:World}{e:Int}{d db:Nat}{k:Bu}{f adm blk:Int}{b:Es}{turn:Int}{fsD fsN:Fs}{F:NP}(a:az (mM db k turn fsD fsN) w e d f adm blk b F):dw w e d db k ⟨f,adm,blk,b,turn,fsD,fsN⟩ F:=by
 obtain⟨n,i,g,j,l,c,o,m⟩:=a.mem;exact⟨⟨n,i,g,j,l,c.1,c.2,m⟩,a.own,a.lt⟩
def ed (db:Nat)(fsD fsN:Fs)(pd:Pd)(dn:Bool)(w:World)(g:Nat)(a:NP):Prop:=(∃ b,w.cell? ⟨g,261,none⟩=some (cJ b))/\iG w db fsD fsN pd dn a
theorem ed.fra {db:Nat}{fsD fsN:Fs}{pd:Pd}{dn:Bool}:jS (ed db fsD fsN pd dn):=fun b g f e=>by
 obtain⟨⟨a,c⟩,d⟩:=b;exact⟨⟨a,(World.cell?_of_block f).trans c⟩,d.kept g e⟩
def PLf (c:Bu)(db:Nat)(l f turn:Int)(fsD fsN:Fs)(w:World)(g:Nat)(a:NP):Prop:=mM db c turn fsD fsN w g a/\∃ b nb,w.heap[db]?=some (ox b nb l f)
theorem PLf.fra {j:Bu}{db:Nat}{l f turn:Int}{fsD fsN:Fs}:jS (PLf j db l f turn fsD fsN):=fun c g e b=>by
 obtain⟨a,i,nb,d⟩:=c;exact⟨mM.fra a g e b,i,nb,(b db a.2.own).trans d⟩
theorem dw.lf {w:World}{g:Int}{e db:Nat}{i:Bu}{c:de}{F:NP}(a:dw w g e db i c F):∃ l f,az (PLf i db l f c.turn c.fsD c.fsN) w g e c.time c.adm c.blk c.es F:=by
 obtain⟨r,k,j,m,n,b,d,o⟩:=a.mem;obtain⟨q,nb,l,f,p,_⟩:=d.mem;exact⟨l,f,⟨r,k,j,m,n,⟨⟨b,d⟩,q,nb,p⟩,b.lt,o⟩,a.own,a.lt⟩
def fP (Z:Prop)(i:Int)(g db:Nat)(c:de)(b:Es)(w:World)(F:NP):Prop:=
 ∃ (e:List Ky) (f:Pd) (a:Bool) (d:Fs),e.Perm (b.map Prod.fst)/\FlO Z (au c.turn % 2==1) (strOfNums (aX (au c.turn) c.time b e)) c.fsN d f a/\az (ed db c.fsD d f a) w i g c.time c.adm c.blk c.es F
theorem fP.pp (Z:Prop)(o:Int)(n db:Nat)(c:de)(b:Es):PP (fP Z o n db c b):=⟨fun ⟨l,m,a,d,f,g,i⟩ k j=>⟨l,m,a,d,f,g,i.kept ed.fra k j⟩,fun ⟨_,_,_,_,_,_,e⟩=>e.lt⟩
theorem jb1 (E:Bu)(l f:Int)(bv:¬jk l f)(a9:Int)(g db u:Nat)(c:de)(F:NP)(m:Es)(a2 a0 a1:Int)(w:World)(a:az (PLf E db l f c.turn c.fsD c.fsN) w a9 g c.time c.adm c.blk c.es F)(I:c.ok)(R:aH w u m)(Y:¬F u)(b3:(m.map Prod.fst).Nodup)(b4:∀ p∈m,p.1.ok)(b0:∀ p∈m,p.2.2.fit)(b6:m.length<=12) :
  Calls prog 134 #[pO g 2,.map (some u),ot a2 a0 a1] w fun e w'=>e=.returned (Ok)/\∃ k,(fP (E.l<2) a9 g db c m w' k/\w'.heap[g]?=w.heap[g]?)/\ae F w w'/\∀ b,k b->F b\/w.heap.size<=b\/b=u:=by
 obtain⟨o,j,G,O,ci,⟨⟨ck,cl⟩,a8⟩,cy,C,D,z,a6,a7,a3,a4,a5,ch⟩:=a.mem;obtain⟨i,A⟩:∃ i,i=(w.alloc (oI a2 a0 a1)).alloc (og):=⟨_,rfl⟩;have H:ae (fun _=>False) w i:=A▸((ae.refl _ w).alloc _).alloc _;have b5:i.heap[w.heap.size+1]?=some (og):=A▸aC (by simp);have S:i.heap[g]?=_:=(H.block g (am O) (fun a=>a)).trans O;have ad:ie E l f w j db u c.turn c.time m c.fsD c.fsN G:=⟨R,b3,b4,b0,b6,I.turn.1,I.turn.2,I.time.1,I.time.2,ck,cl,a8,a6,fun b1=>Y (C _ b1),fun e=>Y (e▸z)⟩;have cs:∀ (X:Fn) (first W:Array Value) (w:World),(Instr.makeFunc X first W).run prog w=.ok (.func X first W) w:=fun _ _ _ _=>rfl;have t:=a.lt;have bd:=aa (jbZ E l f bv j db u c.turn c.time m c.fsD c.fsN G i.drew ((ad.to H).to ⟨rfl,rfl,rfl,lz,fun _ _ _=>rfl⟩));have bb:=aa a;have T:=aa H;have bl:=ab S;have cp:=aa R;clear ad a H R a8;go_enter func134,ntmps134
 go_upto_region 1 with fail
 rw [<-A];have bj:=aa A;clear A;go_cut [7] (fun z cn=>∃ (V:World) (x:Int),V=cn/\z=.iface 53 (.int .i64 x)/\ku (E.l<2) i V j db c.turn c.time m c.fsD c.fsN G x)
 case first=>
  go_region_law (refine aO (by rfl) 154 kJ _ _ (by rfl) #[pO j 0,.int .u64 c.time,.func (.func 143) #[.map (some u)] #[]] (by simp only [List.map_toArray,List.map_cons,List.map_nil];rfl) bd.out ?_;rintro e q ⟨x,rfl,r⟩;refine⟨_,rfl,?_⟩;have bk:=aa r;clear r)
  all_goals (go_wp2_with fail;go_meet)
  all_goals exact⟨q,x,rfl,rfl,bk.out.from (w:=i) ⟨rfl,rfl,rfl,lz,fun _ _ _=>rfl⟩⟩
 case rest=>
  obtain⟨q,x,rfl,rfl,cb,cc,bo,bu,k,L,M,B,N,s,y⟩:=hcut;have cx:i.heap.size=w.heap.size+2:=by rw [bj.out];simp
  have cw:=am O;have J:∀ d,d<i.heap.size->¬(d=j\/G d)->q.heap[d]?=i.heap[d]?:=fun d n b2=>y.block d n b2;have av:q.heap[g]?=_:=(J g (am S) (fun a=>a.elim a5 a4)).trans S;have ct:=t j z;have ao:=(J (w.heap.size+1) (by omega) (fun a=>a.elim (fun e=>by omega) (fun e=>by have:=t _ (C _ e);omega))).trans b5;have Z:aH q o c.es:=ap.kept ci ((J o (by have:=t _ D;omega) (fun a=>a.elim a3 a7)).trans (T.out.block o (t _ D) (fun a=>a)));have bs:=ab ao;have cq:=ag ao;have bi:=aa (aN L (aN M (aN B (aN N (aN s y)))));have bg:=aa Z;have U:=aa av;clear L M B s y N bl J Z av;go_wp2
  obtain⟨L,M,B,N,s,y⟩:=bi.out;have bw:¬k j:=fun e=>(s j e).elim a6 (fun e=>by omega);have bz:¬k o:=fun e=>(s o e).elim a7 (fun e=>by have:=t _ D;omega);have bK:¬k g:=fun e=>(s g e).elim a4 (fun e=>by omega);have bF:¬k (w.heap.size+1):=fun e=>(s _ e).elim (fun e=>by have:=t _ (C _ e);omega) (fun e=>by omega);have cz:=y.size;have cv:=t o D;obtain⟨P,K⟩:∃ P,P=((q.setCell ⟨w.heap.size+1,0,none⟩ (.int .u8 7)).setCell ⟨w.heap.size+1,1,none⟩ (.int .u64 0)).setCell ⟨w.heap.size+1,2,none⟩ (.int .u64 0):=⟨_,rfl⟩;have r:∀ d,d≠w.heap.size+1->P.heap[d]?=q.heap[d]?:=fun d Q=>by rw [K,ac Q,ac Q,ac Q]
  have b7:P.heap.size=q.heap.size:=by rw [K];simp
  refine bodyPost_ret (v:=Ok) (by simp [results,results134,go_sem,bs]) rfl ⟨rfl,?_⟩
  rw [<-K];refine⟨fun d=>d=g\/d=o\/d=j\/k d,⟨⟨cb,cc,bo,bu,L,N,⟨o,j,k,(r g (by omega)).trans U.out,ap.kept bg.out (r o (by omega)),⟨⟨x,(World.cell?_of_block (r j (by omega))).trans M⟩,B.kept (by omega) (fun d n=>r d (fun e=>bF (e▸n)))⟩,by omega,fun d n=>ir (ir (ir n)),ir (il rfl),ir (ir (il rfl)),bw,bz,a3,bK,a5,ch⟩,il rfl,fun d n=>?_⟩,((r g (by omega)).trans U.out).trans O.symm⟩,?_,fun d n=>?_⟩
  ·rw [b7];rcases n with a | a | a | a
   ·rw [a];omega
   ·rw [a];omega
   ·rw [a];omega
   ·exact B.lt d a
  ·have b9:ae F w q:=(T.out.mono (fun _ a _=>a.elim)).then y (fun b8 cr a=>a.elim (fun e=>e▸z) (C b8));rw [K];exact ((b9.set (ir (by omega)) _ _).set (ir (by omega)) _ _).set (ir (by omega)) _ _
  ·rcases n with a | a | a | a
   ·exact il (a▸bb.out.own)
   ·exact il (a▸D)
   ·exact il (a▸z)
   ·exact (s d a).imp (C d) (fun a=>il (by omega))
theorem jb2 (db:Nat)(fsD fsN:Fs)(pd:Pd)(dn:Bool)(G:Int)(c k:Nat)(l adm blk:Int)(x:Es)(F:NP)(D B C:Int)(w:World)(o:az (ed db fsD fsN pd dn) w G c l adm blk x F) :
  Calls prog 134 #[pO c 2,.map (some k),ot D B C] w fun e w'=>e=.returned (Ok)/\∃ r,(az (ed db fsD fsN pd dn) w' G c l adm blk x r/\w'.heap[c]?=w.heap[c]?)/\ae F w w'/\∀ b,r b->F b\/w.heap.size<=b\/b=k:=by
 obtain⟨W,n,T,q,ao,⟨⟨u,Q⟩,av⟩,R,a0,a1,E,a2,a3,X,Y,Z,ad⟩:=o.mem;obtain⟨a,f⟩:∃ a,a=(w.alloc (oI D B C)).alloc (og):=⟨_,rfl⟩;have j:B7 w a:=f▸(ba w).alloc (by simp) _;have O:a.heap[w.heap.size+1]?=some (og):=f▸aC (by simp);have P:a.heap[c]?=_:=(j.block c (am q)).trans q;have V:∀ (y:Fn) (first t:Array Value) (w:World),(Instr.makeFunc y first t).run prog w=.ok (.func y first t) w:=fun _ _ _ _=>rfl;have I:=aa (jdQ n k u l a.drew ((World.cell?_of_block (w:=w) (j.block n R)).trans Q));have H:=aa o;have d:=aa j;have L:=ab P;clear o j;go_enter func134,ntmps134
 go_upto_region 1 with fail
 rw [<-f];have J:=aa f;clear f;go_cut [7] (fun E S=>∃ (s:World),s=S/\E=.iface 53 (.int .i64 u)/\B7 a s)
 case first=>
  go_region_law (refine aO (by rfl) 154 kJ _ _ (by rfl) #[pO n 0,.int .u64 l,.func (.func 143) #[.map (some k)] #[]] (by simp only [List.map_toArray,List.map_cons,List.map_nil];rfl) I.out ?_;rintro e i ⟨rfl,z⟩;refine⟨_,rfl,?_⟩;have K:=aa z;clear z)
  all_goals (go_wp2_with fail;go_meet)
  all_goals exact⟨i,rfl,rfl,(Below.refl a.heap.size a).drew.trans K.out⟩
 case rest=>
  obtain⟨i,rfl,rfl,p⟩:=hcut;have a4:a.heap.size=w.heap.size+2:=by rw [J.out];simp
  have A:=(p.block (w.heap.size+1) (by omega)).trans O;have M:=ab A;have U:=ag A;have m:=aa p;clear p L;go_wp2
  refine bodyPost_ret (v:=Ok) (by simp [results,results134,go_sem,M]) rfl ⟨rfl,F,⟨?_,?_⟩,?_,fun b N=>il N⟩
  ·have g:B7 w i:=d.out.trans (m.out.mono d.out.size);exact H.out.below ed.fra (((g.setCell (by simp) _).setCell (by simp) _).setCell (by simp) _) lz
  ·have g:B7 w i:=d.out.trans (m.out.mono d.out.size);exact (((g.setCell (by simp) _).setCell (by simp) _).setCell (by simp) _).block c (am q)
  ·have g:B7 w i:=d.out.trans (m.out.mono d.out.size);exact ae.of_below (((g.setCell (by simp) _).setCell (by simp) _).setCell (by simp) _)
def wA (w w':World)(g db:Nat)(F:NP)(k:Fs->Fs->Pd->Bool->Prop):Prop:=∃ (j:Int) (e f:Fs) (i:Pd) (d:Bool) (b:NP),k e f i d/\aY w' g db j/\iG w' db e f i d b/\(∀ a,b a->F a\/w.heap.size<=a)/\ae (fun c=>c=g\/F c) w w'
theorem wA.set {w V w':World}{g db:Nat}{F:NP}{i:Fs->Fs->Pd->Bool->Prop}(a:wA V w' g db F i){x:Nat}(A:x<V.heap.size)(r:¬F x)(s:x≠g)(f:ae (fun _=>False) w V)(t:w.heap.size<=x)(u:Nat)(v:Value):wA w (w'.setCell ⟨x,u,none⟩ v) g db F i:=by
 obtain⟨z,l,m,y,k,j,n,o,p,e,q⟩:=a;refine⟨z,l,m,y,k,j,n,o.kept (ac (fun c=>s c.symm) _ _),p.kept (by rw [World.size_setCell];exact lz) (fun b d=>ac (fun c=>?_) _ _),fun b d=>(e b d).imp id (fun a=>lq f.size a),((f.mono (fun _ a _=>a.elim)).trans q).set (ir t) _ _⟩
 subst c;rcases e b d with a | a
 ·exact r a
 ·omega
def IllX (w w':World)(g db:Nat)(F:NP)(k:Fs->Fs->Pd->Bool->Prop)(j:Int):Prop:=∃ (e f:Fs) (i:Pd) (d:Bool) (b:NP),k e f i d/\w'.cell? ⟨g,261,none⟩=some (cJ j)/\iG w' db e f i d b/\(∀ a,b a->F a\/w.heap.size<=a)/\ae (fun c=>c=g\/F c) w w'
theorem wA.ill {w w':World}{g db:Nat}{F:NP}{d:Fs->Fs->Pd->Bool->Prop}(a:wA w w' g db F d)(q:¬F g)(t:g<w.heap.size)(b:Int):IllX w (w'.setCell ⟨g,261,none⟩ (cJ b)) g db F d b:=by
 obtain⟨u,k,l,s,i,e,m,n,o,c,p⟩:=a;refine⟨k,l,s,i,e,m,World.cell?_setCell_same _ _ _ n.err,o.kept (by rw [World.size_setCell];exact lz) (fun f r=>ac (fun j=>?_) _ _),c,p.set (il (il rfl)) _ _⟩
 subst j;rcases c f r with a | a
 ·exact q a
 ·omega
theorem IllX.from {w V w':World}{g db:Nat}{F:NP}{d:Fs->Fs->Pd->Bool->Prop}{b:Int}(a:IllX V w' g db F d b)(c:ae (fun _=>False) w V):IllX w w' g db F d b:=by
 obtain⟨j,k,r,i,e,l,m,n,o,p⟩:=a;exact⟨j,k,r,i,e,l,m,n,fun f q=>(o f q).imp id (fun a=>lq c.size a),(c.mono (fun _ a _=>a.elim)).trans p⟩
structure RnE (κ:Bu)(turn time:Int)(es:Es)(fsD fsN:Fs)(Ψ:Fs->Fs->Pd->Bool->Prop):Prop where
 wr:∀ (ks:List Ky) (pd:Pd) (dn:Bool) (fsN':Fs),ks.Perm (es.map Prod.fst)->FlO (κ.l<4) (au turn % 2==1) (strOfNums (aX (au turn) time es ks)) fsN fsN' pd dn->Ψ fsD fsN' pd dn
 sw:∀ (ks:List Ky) (a d:Nat) (pd:Pd) (dn:Bool) (fsN':Fs),ks.Perm (es.map Prod.fst)->FlR (κ.l<4) (IntKind.u64.wrap (au turn - 1) % 2==1) (aJ (au turn % 2==1) (d,strOfNums (aX (au turn) time es ks)) fsN) fsN' pd dn->Ψ (aJ (au turn % 2==1) (a,strOfNums (aX (au turn) time es ks)) fsD) fsN' pd dn
def RnJ (a:Bu)(w w':World)(g db:Nat)(F:NP)(c:Int->Fs->Fs->Prop)(d:Fs->Fs->Pd->Bool->Prop)(v:Value):Prop:=(v=.nilIface/\dW w w' g db (a.dn 4) F c)\/∃ b,v=cJ b/\(a.l<4\/a.f<4)/\wA w w' g db F d
theorem jaM (j:Bu)(l f:Int)(k B C g db b:Nat)(turn u:Int)(z:Es)(fsD fsN:Fs)(F:NP)(w:World)(a:ie j l f w g db b turn u z fsD fsN F){D:Int->Fs->Fs->Prop}(bb:Hid (RnW turn u z fsD fsN D)){E:Fs->Fs->Pd->Bool->Prop}(Z:Hid (RnE j turn u z fsD fsN E))(bd:¬F k)(bi:k≠g)
  (J:w.heap[k]?=some (oW g)) (a5:w.heap[B]?=some (uf u)) (a6:w.heap[C]?=some (.cells #[.func (.func 143) #[.map (some b)] #[]] 278)) :
  Calls prog 160 #[pO k 0,.pointer (some ⟨B,0,none⟩),.pointer (some ⟨C,0,none⟩)] w fun e w'=>∃ v,e=.returned v/\IsE v/\RnJ j w w' g db F D E v:=by
 have a1:=aa (rG j l f g db b turn u z fsD fsN F w a);have S:=ab J;have T:=ab a5;have U:=ab a6;have bz:=a.s.lt;have a3:=aa a.gF;have a2:=aa (fun a7=>a.few a7);clear a;go_enter func160,ntmps160
 go_wp2_with fail
 refine a1.out.mono ?_
 rintro e ao ⟨v,rfl,⟨rfl,_,A,av,a0,y,r,s,t,c,d⟩ | ⟨i,rfl,a9,A,q,o,p,y,r,s,t,ad,c,d⟩⟩
 ·have X:=(d.block k (am J) (fun a=>a.elim bi bd)).trans J;have bw:=ab X;have bg:¬y g:=fun a=>(c g a).elim a3.out (fun a=>by omega);have a4:=aa (jfT (j.dn 2) g db ao _ _ _ y (dP turn) s t bg);have R:=aa (aN c d);have H:=aa r;clear r s t c d S T U X;go_wp2_with fail
  refine a4.out.mono ?_
  rintro e bv ⟨v,rfl,K⟩;have Y:IsE v:=K.imp (fun a=>a.1) (fun ⟨i,a,_⟩=>⟨i,a⟩);have n:=aa K;clear K;have I:Hid (IsE v->RnJ j w bv g db F D E v):=aa (fun _=>by
    obtain⟨c,d⟩:=R.out;rcases n.out with ⟨rfl,bu,V,W,G,⟨bj,bk,bl⟩,N,O,P,Q⟩ | ⟨i,rfl,bo,q,o,p,G,N,O,bs,P,Q⟩
    · refine il ⟨rfl,bu,V,W,G,⟨bj,by rw [bk];exact bb.out A av a0 V W H.out bl⟩,N,O.less ⟨by dsimp only [Bu.dn];omega,by dsimp only [Bu.dn];omega⟩,fun x L=>?_,d.then Q (fun M a8 a=>?_)⟩
      · rcases P x L with a | a
        · exact c x a
        · exact ir (lq d.size a)
      · rcases a with a | a
        · exact il a
        · exact (c M a).elim ir (fun a=>by omega)
    · refine ir ⟨i,rfl,bo.imp (fun a=>by dsimp only [Bu.dn] at a;omega) (fun a=>by dsimp only [Bu.dn] at a;omega),_,_,p,q,o,G,Z.out.sw A av a0 q o p H.out (bs.imp id (fun a=>⟨a.1,a.2.imp (fun a=>⟨a.1,by have:=a.2;show j.l<4;dsimp only [Bu.dn] at this;omega⟩) id⟩)),N,O,fun x L=>?_,d.then Q (fun M a8 a=>?_)⟩
      · rcases P x L with a | a
        · exact c x a
        · exact ir (lq d.size a)
      · rcases a with a | a
        · exact il a
        · exact (c M a).elim ir (fun a=>by omega))
  clear n R H;have m:=aa Y;rcases Y with rfl | ⟨i,rfl⟩
  ·go_wp2
   go_ret
   exact⟨.nilIface,rfl,m.out,I.out m.out⟩
  ·unfold cJ at I m ⊢;go_wp2
   go_ret
   exact⟨cJ i,rfl,m.out,I.out m.out⟩
 ·have n:Hid (RnJ j w ao g db F D E (cJ i)):=aa (ir ⟨i,rfl,(a2.out a9).imp (fun a=>by omega) (fun a=>by omega),_,fsD,p,q,o,y,Z.out.wr A q o p r (ad.imp id (fun a=>⟨a.1,a.2.imp (fun a=>⟨a.1,by have:=a.2;show j.l<4;omega⟩) id⟩)),s,t,c,d⟩);clear r s t c d ad S T U;unfold cJ at n ⊢;go_wp2
  go_ret
  exact⟨cJ i,rfl,ir ⟨i,rfl⟩,n.out⟩
def RnX (a:Bu)(w w':World)(g db:Nat)(F:NP)(c:Int->Fs->Fs->Prop)(d:Fs->Fs->Pd->Bool->Prop)(v:Value):Prop:=(v=.nilIface/\dW w w' g db (a.dn 4) F c)\/∃ b,v=cJ b/\(a.l<4\/a.f<4)/\IllX w w' g db F d b
theorem jf2 (m:Bu)(l f:Int)(c B C g db b:Nat)(turn j:Int)(n:Es)(fsD fsN:Fs)(F:NP)(w:World)(d:ie m l f w g db b turn j n fsD fsN F){t:Int->Fs->Fs->Prop}(M:Hid (RnW turn j n fsD fsN t)){u:Fs->Fs->Pd->Bool->Prop}(N:Hid (RnE m turn j n fsD fsN u))(O:¬F c)(P:c≠g)
  (A:w.heap[c]?=some (oW g)) (D:w.heap[B]?=some (uf j)) (E:w.heap[C]?=some (.cells #[.func (.func 143) #[.map (some b)] #[]] 278)) :
  Calls prog 159 #[pO g 0,.func (.func 160) #[] #[pO c 0,.pointer (some ⟨B,0,none⟩),.pointer (some ⟨C,0,none⟩)]] w fun e w'=>∃ v,e=.returned v/\RnX m w w' g db F t u v:=by
 have s:=d.s.lt;have r:ae (fun _=>False) w (w.alloc (OD)):=(ae.refl _ w).alloc _;have q:¬F w.heap.size:=fun G=>by have:=d.d.lt _ G;omega
 refine (jbg g 160 #[pO c 0,.pointer (some ⟨B,0,none⟩),.pointer (some ⟨C,0,none⟩)] jbq w (fun v k=>RnJ m (w.alloc (OD)) k g db F t u v) d.s.err s (by
   refine (jaM m l f c B C g db b turn j n fsD fsN F _ (d.to r) M N O P (aB A _) (aB D _) (aB E _)).mono ?_
   rintro e k ⟨v,rfl,L,a⟩;have I:ae (fun x=>x=g\/F x) (w.alloc (OD)) k/\∃ i,aY k g db i:=by
     rcases a with ⟨_,a⟩ | ⟨_,_,_,a⟩
     · obtain⟨i,_,_,_,_,o,_,_,p⟩:=a;exact⟨p,i,o⟩
     · obtain⟨i,_,_,_,_,_,_,o,_,_,p⟩:=a;exact⟨p,i,o⟩
   obtain⟨J,i,z⟩:=I;refine⟨v,rfl,L,?_,⟨z.err,z.fro 261 (by omega)⟩,a⟩
   exact (J.block w.heap.size (by simp) (fun H=>H.elim (fun e=>by omega) q)).trans (af _ _))).mono ?_
 rintro e w' ⟨v,rfl,k,a,rfl⟩;refine⟨v,rfl,?_⟩
 rcases a with ⟨rfl,a⟩ | ⟨y,rfl,K,a⟩
 ·exact il ⟨rfl,(a.set (by simp) q (by omega) r lz _ _).err d.gF s⟩
 ·exact ir ⟨y,rfl,K,(a.set (by simp) q (by omega) r lz _ _).ill d.gF s y⟩
theorem jfH (k:Bu)(l f:Int)(g db b:Nat)(turn d:Int)(m:Es)(fsD fsN:Fs)(F:NP)(w:World)(a:ie k l f w g db b turn d m fsD fsN F){q:Int->Fs->Fs->Prop}(H:Hid (RnW turn d m fsD fsN q)){r:Fs->Fs->Pd->Bool->Prop}(I:Hid (RnE k turn d m fsD fsN r)) :
  Calls prog 142 #[pO g 0,.int .u64 d,.func (.func 143) #[.map (some b)] #[]] w fun e w'=>∃ v,e=.returned v/\RnX k w w' g db F q r v:=by
 have M:∀ (u:Fn) (first t:Array Value) (w:World),(Instr.makeFunc u first t).run prog w=.ok (.func u first t) w:=fun _ _ _ _=>rfl;obtain⟨c,i⟩:∃ c,c=((w.alloc (oW g)).alloc (uf d)).alloc (.cells #[.func (.func 143) #[.map (some b)] #[]] 278):=⟨_,rfl⟩;have x:c.heap[w.heap.size]?=some (oW g):=i▸aB (aB (af _ _) _) _;have C:c.heap[w.heap.size+1]?=some (uf d):=i▸aB (aC (by simp)) _;have D:c.heap[w.heap.size+2]?=some (.cells #[.func (.func 143) #[.map (some b)] #[]] 278):=i▸aC (by simp);have o:ae (fun _=>False) w c:=i▸(((ae.refl _ w).alloc _).alloc _).alloc _;have L:=a.s.lt;have y:=aa (jf2 k l f w.heap.size (w.heap.size+1) (w.heap.size+2) g db b turn d m fsD fsN F c (a.to o) H I (fun E=>by have:=a.d.lt _ E;omega) (by omega) x C D);have s:=aa o;have K:=ab x;clear a o;go_enter func142,ntmps142
 go_upto_region 1 with fail
 rw [<-i];clear i;go_wp2_with fail
 refine y.out.mono ?_
 rintro e J ⟨v,rfl,p⟩;have G:IsE v:=p.imp (fun a=>a.1) (fun ⟨j,a,_⟩=>⟨j,a⟩);have n:Hid (RnX k w J g db F q r v):=aa (p.imp (fun a=>⟨a.1,a.2.from s.out⟩) (fun ⟨j,z,A,B⟩=>⟨j,z,A,B.from s.out⟩));clear p;rcases G with rfl | ⟨j,rfl⟩
 ·go_wp2
  go_ret
  exact⟨.nilIface,rfl,n.out⟩
 ·unfold cJ at n ⊢;go_wp2
  go_ret
  exact⟨cJ j,rfl,n.out⟩
theorem jcI (g b:Nat)(c n:Int)(w:World)(f:w.cell? ⟨g,261,none⟩=some (cJ c)) :
  Calls prog 142 #[pO g 0,.int .u64 n,.func (.func 143) #[.map (some b)] #[]] w fun e w'=>e=.returned (cJ c)/\B7 w w':=by
 have u:∀ (l:Fn) (first k:Array Value) (w:World),(Instr.makeFunc l first k).run prog w=.ok (.func l first k) w:=fun _ _ _ _=>rfl;obtain⟨a,d⟩:∃ a,a=((w.alloc (oW g)).alloc (uf n)).alloc (.cells #[.func (.func 143) #[.map (some b)] #[]] 278):=⟨_,rfl⟩;have r:a.heap[w.heap.size]?=some (oW g):=d▸aB (aB (af _ _) _) _;have s:=bT f;have i:B7 w a:=d▸((ba w).alloc (by simp) _).alloc (by simp;omega) _;have j:a.cell? ⟨g,261,none⟩=some (cJ c):=(World.cell?_of_block (w:=w) (i.block g s)).trans f;have o:=aa (fun q=>jbh g c q a j);have t:=ab r;clear f j;go_enter func142,ntmps142
 go_upto_region 1 with fail
 rw [<-d];clear d;go_wp2_with fail
 refine (o.out _).mono ?_
 rintro e v ⟨rfl,m⟩;have p:=aa m;clear m;go_wp2
 go_ret
 exact⟨rfl,i.trans (p.out.mono i.size)⟩
structure eJ (es:Es):Prop where
 nd:(es.map Prod.fst).Nodup
 key:∀ p∈es,p.1.ok
 qt:∀ p∈es,p.2.1.ok
 len:es.length<=12
theorem de.ok.eso {c:de}(a:c.ok):eJ c.es:=⟨a.nd,a.key,a.qt,a.len⟩
theorem az.out {P:World->Nat->(NP)->Prop}(g:jS P){w w':World}{e:Int}{d:Nat}{f adm blk:Int}{b:Es}{F:NP}(a:az P w e d f adm blk b F)(c:B7 w w'):cB w F w' (fun w F=>az P w e d f adm blk b F):=
 ⟨F,a.below g c lz,ae.of_below c,fun _ a=>il a⟩
def defB (L:Ld)(q:Rq):Prop:=cM q.kd q.x q.y/\aZ q.key L.ks=none/\L.ks.length<12
theorem pj {L:Ld}{q:Rq}(d:q.op=1)(a:defB L q):aS L q=(⟨L.time,L.adm,L.ks ++ [(q.key,⟨q.kd,q.x,q.y,0,0⟩)]⟩,⟨1,0,0⟩):=by
 obtain⟨b,c,e⟩:=a;unfold aS;rw [if_pos d,if_neg (not_not_intro b),if_neg (by rw [c];simp),if_neg (by omega)]
theorem jw {P:World->Nat->(NP)->Prop}(j:jS P)(t:Int)(g:Nat)(b adm blk:Int)(a:Es)(F:NP)(q:Rq)(w:World)(p:q.op=1)(k:q.ok)(i:az P w t g b adm blk a F)(u:¬defB ⟨b,adm,stands a⟩ q) :
  (aS ⟨b,adm,stands a⟩ q).1=⟨b,adm,stands a⟩/\(aS ⟨b,adm,stands a⟩ q).2.c≠1/\(aS ⟨b,adm,stands a⟩ q).2.c≠2/\Calls prog 109 #[pO g 2,oE q.k0 q.k1 q.k2 q.k3 q.k4 q.k5 q.k6 q.k7,ot q.kd q.x q.y] w fun e w'=>e=.returned (ot (aS ⟨b,adm,stands a⟩ q).2.c (aS ⟨b,adm,stands a⟩ q).2.a (aS ⟨b,adm,stands a⟩ q).2.b)/\cB w F w' (fun w F=>az P w t g b adm blk a F):=by
 obtain⟨n,y,x,l,m,_⟩:=i.mem;have A:(stands a).length=a.length:=dF a;by_cases d:cM q.kd q.x q.y
 ·cases c:aZ q.key (stands a) with
  | some r=>
   obtain⟨s,o⟩:=cj c;have e:aS ⟨b,adm,stands a⟩ q=(⟨b,adm,stands a⟩,⟨9,0,0⟩):=by unfold aS;rw [if_pos p,if_neg (not_not_intro d),if_pos (by show (aZ q.key (stands a)).isSome=true;rw [c];rfl)]
   rw [e];refine⟨rfl,by simp,by simp,(qg g n _ _ _ _ b blk a q.key w l m k.key q.kd q.x q.y d r s o).mono ?_⟩
   rintro e w' ⟨rfl,f⟩;exact⟨rfl,i.out j f⟩
  | none=>
   have v:12<=a.length:=Nat.le_of_not_lt fun z=>u ⟨d,c,by show (stands a).length<12;omega⟩;have e:aS ⟨b,adm,stands a⟩ q=(⟨b,adm,stands a⟩,⟨5,0,0⟩):=by unfold aS;rw [if_pos p,if_neg (not_not_intro d),if_neg (by show ¬(aZ q.key (stands a)).isSome=true;rw [c];simp),if_pos (by show (12:Nat)<=(stands a).length;omega)]
   rw [e];refine⟨rfl,by simp,by simp,(wI g n _ _ _ _ b blk a q.key w l m k.key q.kd q.x q.y d (ee c) v).mono ?_⟩
   rintro e w' ⟨rfl,f⟩;exact⟨rfl,i.out j f⟩
 ·have e:aS ⟨b,adm,stands a⟩ q=(⟨b,adm,stands a⟩,⟨8,0,0⟩):=by unfold aS;rw [if_pos p,if_pos d]
  rw [e];cases c:aZ q.key (stands a) with
  | some r=>
   obtain⟨s,o⟩:=cj c;refine⟨rfl,by simp,by simp,(wH g n _ _ _ _ b blk a q.key w l m k.key q.kd q.x q.y d r s o).mono ?_⟩
   rintro e w' ⟨rfl,f⟩;exact⟨rfl,i.out j f⟩
  | none=>
   refine⟨rfl,by simp,by simp,(wG g n _ _ _ _ b blk a q.key w l m k.key q.kd q.x q.y d (ee c)).mono ?_⟩
   rintro e w' ⟨rfl,f⟩;exact⟨rfl,i.out j f⟩
theorem qR {P:World->Nat->(NP)->Prop}(j:jS P)(s:Int)(d:Nat)(a adm blk:Int)(b:Es)(F:NP)(q:Rq)(w:World)(l:q.op=3)(m:q.ok)(n:U7 a)(t:eJ b)(g:az P w s d a adm blk b F) :
  (aS ⟨a,adm,stands b⟩ q).1=⟨a,adm,stands b⟩/\Calls prog 112 #[pO d 2,oE q.k0 q.k1 q.k2 q.k3 q.k4 q.k5 q.k6 q.k7] w fun e w'=>e=.returned (ot (aS ⟨a,adm,stands b⟩ q).2.c (aS ⟨a,adm,stands b⟩ q).2.a (aS ⟨a,adm,stands b⟩ q).2.b)/\cB w F w' (fun w F=>az P w s d a adm blk b F):=by
 obtain⟨r,z,y,o,p,_⟩:=g.mem;cases f:aZ q.key (stands b) with
 | none=>
  have e:aS ⟨a,adm,stands b⟩ q=(⟨a,adm,stands b⟩,⟨4,0,0⟩):=by
   unfold aS;rw [if_neg (by omega),if_neg (by omega),if_pos l];show (match aZ q.key (stands b) with | none=>_ | some c=>_)=_
   rw [f]
  rw [e];refine⟨rfl,(qi d r _ _ _ _ a blk b q.key w o p m.key (ee f)).mono ?_⟩
  rintro e w' ⟨rfl,i⟩;exact⟨rfl,g.out j i⟩
 | some c=>
  obtain⟨x,k⟩:=cj f;have e:aS ⟨a,adm,stands b⟩ q=(⟨a,adm,stands b⟩,⟨1,(aG c a).lv,(aG c a).wn⟩):=by
   unfold aS;rw [if_neg (by omega),if_neg (by omega),if_pos l];show (match aZ q.key (stands b) with | none=>_ | some c=>_)=_
   rw [f]
  rw [e];have u:c.ok:=t.qt _ (aR k);refine⟨rfl,(qj d r _ _ _ _ a blk b q.key w o p m.key c x k 1 (aG c a).lv (aG c a).wn (aa (fun v=>tD c a v u n.1 n.2))).mono ?_⟩
  rintro e w' ⟨rfl,i⟩;exact⟨rfl,g.out j i⟩
theorem nx {P:World->Nat->(NP)->Prop}(i:jS P)(g:Int)(c:Nat)(b adm blk:Int)(a:Es)(F:NP)(q:Rq)(w:World)(k:q.op=4)(l:q.ok)(d:az P w g c b adm blk a F)(f:aZ q.key (stands a)=none) :
  aS ⟨b,adm,stands a⟩ q=(⟨b,adm,stands a⟩,⟨4,0,0⟩)/\Calls prog 113 #[pO c 2,oE q.k0 q.k1 q.k2 q.k3 q.k4 q.k5 q.k6 q.k7] w fun e w'=>e=.returned (OP)/\cB w F w' (fun w F=>az P w g c b adm blk a F):=by
 obtain⟨o,r,p,m,n,_⟩:=d.mem;have e:aS ⟨b,adm,stands a⟩ q=(⟨b,adm,stands a⟩,⟨4,0,0⟩):=by
  unfold aS;rw [if_neg (by omega),if_neg (by omega),if_neg (by omega),if_pos k];show (match aZ q.key (stands a) with | none=>_ | some s=>_)=_
  rw [f]
 refine⟨e,(pg c o _ _ _ _ b blk a q.key w m n l.key (ee f)).mono ?_⟩
 rintro e w' ⟨rfl,j⟩;exact⟨rfl,d.out i j⟩
def kA (z:Qt)(a n:Int):Prop:=(aI z a n).2.c=2/\n≠0
theorem nt {P:World->Nat->(NP)->Prop}(m:jS P)(u:Int)(d:Nat)(a adm blk:Int)(b:Es)(F:NP)(q:Rq)(w:World)(f:q.ok)(p:U7 a)(x:eJ b)(g:az P w u d a adm blk b F)(v:∀ z,aZ q.key (stands b)=some z->¬kA z a q.n) :
  (fY ⟨a,adm,stands b⟩ q).1=⟨a,adm,stands b⟩/\Calls prog 111 #[pO d 2,oE q.k0 q.k1 q.k2 q.k3 q.k4 q.k5 q.k6 q.k7,.int .u64 q.n] w fun e w'=>e=.returned (ot (fY ⟨a,adm,stands b⟩ q).2.c (fY ⟨a,adm,stands b⟩ q).2.a (fY ⟨a,adm,stands b⟩ q).2.b)/\cB w F w' (fun w F=>az P w u d a adm blk b F):=by
 obtain⟨t,J,I,r,s,_⟩:=g.mem;cases c:aZ q.key (stands b) with
 | none=>
  have e:fY ⟨a,adm,stands b⟩ q=(⟨a,adm,stands b⟩,⟨4,0,0⟩):=by
   unfold fY;show (match aZ q.key (stands b) with | none=>_ | some z=>_)=_
   rw [c]
  rw [e];refine⟨rfl,(qe d t _ _ _ _ a blk b q.key w r s f.key (ee c) q.n).mono ?_⟩
  rintro e w' ⟨rfl,i⟩;exact⟨rfl,g.out m i⟩
 | some z=>
  obtain⟨D,n⟩:=cj c;have B:z.ok:=x.qt _ (aR n);have j:¬((aI z a q.n).2.c=2/\q.n≠0):=v z c;have e:fY ⟨a,adm,stands b⟩ q=(⟨a,adm,stands b⟩,(aI z a q.n).2):=by
   unfold fY;show (match aZ q.key (stands b) with | none=>_ | some z=>_)=_
   rw [c];show (⟨a,adm,jH q.key (eM z a q.n).1 (stands b)⟩,(eM z a q.n).2)=(_:Ld×Rp);unfold eM;rw [if_neg j,mc c]
  rw [e];have o:=fun C=>iz z a q.n C B p.1 p.2 f.n.1 f.n.2 _ rfl;refine⟨rfl,?_⟩
  generalize aI z a q.n=zr at o j;obtain⟨H,k,E,G⟩:=zr;have A:k≠2\/q.n=0:=by
   by_cases l:k=2
   ·exact ir (Decidable.byContradiction fun y=>j ⟨l,y⟩)
   ·exact il l
  refine (rW d t _ _ _ _ a blk b q.key w r s f.key z D n q.n H k E G (aa o) A).mono ?_
  rintro e w' ⟨rfl,i⟩;exact⟨rfl,g.out m i⟩
theorem nu {P:World->Nat->(NP)->Prop}(v:jS P)(t:Int)(f:Nat)(a adm blk:Int)(b:Es)(F:NP)(q:Rq)(w:World)(i:q.ok)(p:U7 a)(l:eJ b)(k:az P w t f a adm blk b F)(z c:Qt)(m:ar q.key b=some (z,c))(y:kA z a q.n)(x:cT c (aI z a q.n).1=true) :
  Calls prog 111 #[pO f 2,oE q.k0 q.k1 q.k2 q.k3 q.k4 q.k5 q.k6 q.k7,.int .u64 q.n] w fun e w'=>e=.returned (Oi (aI z a q.n).2.a (aI z a q.n).2.b)/\cB w F w' (fun w F=>az P w t f a adm blk (aJ q.key ((aI z a q.n).1,c) b) F):=by
 obtain⟨E,M,K,r,s,N,O,Q,D,_⟩:=k.mem;have C:z.ok:=l.qt _ (aR m);have o:=fun j=>iz z a q.n j C p.1 p.2 i.n.1 i.n.2 _ rfl;have g:=fun j=>vX c (aI z a q.n).1 j;obtain⟨d,B⟩:=y;rw [x] at g;generalize aI z a q.n=zr at o d g;obtain⟨J,I,G,H⟩:=zr;have d:I=2:=d;subst d;refine (rV f E _ _ _ _ a blk b q.key w r s i.key z c m q.n J 2 G H (aa o) (aa rfl) B l.len (ap.lt s) (aa g)).mono ?_
 rintro e w' ⟨rfl,A,n⟩;exact⟨rfl,F,k.turn v (ab r 4) A n,n.mono (fun L e _=>e▸D),fun _ u=>il u⟩
structure jI where
 q:Rq
 zq:Qt
def msk (M:List Ky)(b:Es):Es:=b.map fun a=>if a.1∈M then (a.1,(a.2.1,⟨0,0,0,0,0⟩)) else a
theorem kh (a:Es):msk [] a=a:=by unfold msk;simp
theorem jdW (M:List Ky)(b:Es):(msk M b).map Prod.fst=b.map Prod.fst:=by
 unfold msk;rw [List.map_map];refine List.map_congr_left fun a _=>?_
 show (if a.1∈M then _ else a).1=a.1;split <;> rfl
theorem tf (M:List Ky)(b:Es):stands (msk M b)=stands b:=by
 unfold stands msk;rw [List.map_map];refine List.map_congr_left fun a _=>?_
 show ((if a.1∈M then _ else a).1,(if a.1∈M then _ else a).2.1)=(a.1,a.2.1);split <;> rfl
theorem jdX (M:List Ky)(a:Es):(msk M a).length=a.length:=by unfold msk;rw [List.length_map]
theorem vP {M:List Ky}{b:Es}{p:Ky×(Qt×Qt)}(c:p∈msk M b):∃ x∈b,p.1=x.1/\p.2.1=x.2.1:=by
 unfold msk at c;obtain⟨x,d,a⟩:=List.mem_map.1 c;refine⟨x,d,?_⟩
 split at a
 ·rw [<-a];exact⟨rfl,rfl⟩
 ·rw [<-a];exact⟨rfl,rfl⟩
theorem eJ.msk {f:Es}(a:eJ f)(M:List Ky):eJ (msk M f):=by
 refine⟨by rw [jdW];exact a.nd,fun g c=>?_,fun g c=>?_,by rw [jdX];exact a.len⟩
 ·obtain⟨e,d,b,_⟩:=vP c;rw [b];exact a.key e d
 ·obtain⟨e,d,_,b⟩:=vP c;rw [b];exact a.qt e d
theorem iQ (M:List Ky)(k:Ky):∀ d:Es,ar k (msk M d)=(ar k d).map (fun v=>if k∈M then (v.1,⟨0,0,0,0,0⟩) else v)
 | []=>rfl
 | (k',v) :: r=>by
  have c:=iQ M k r;unfold msk at c ⊢;rw [List.map_cons];by_cases b:k'=k
  ·subst b;by_cases a:k'∈M
   ·simp [ar,a]
   ·simp [ar,a]
  ·by_cases a:k'∈M
   ·simp only [ar,a,if_true,if_neg b];exact c
   ·simp only [ar,a,if_false,if_neg b];exact c
theorem wk (M:List Ky)(k:Ky)(v:Qt×Qt)(d:k ∉ M):∀ c:Es,bO k v (msk M c)=msk M (bO k v c)
 | []=>rfl
 | (k',x) :: r=>by
  have b:=wk M k v d r;unfold msk at b ⊢;by_cases a:k'=k
  ·subst a;simp [bO,d]
  ·by_cases e:k'∈M
   ·simp only [List.map_cons,bO,e,if_true,if_neg a];rw [b]
   ·simp only [List.map_cons,bO,e,if_false,if_neg a];rw [b]
theorem jd8 {M:List Ky}{k:Ky}{v:Qt×Qt}{a:Es}(d:k ∉ M)(b:(ar k a).isSome=true):aJ k v (msk M a)=msk M (aJ k v a):=by
 rw [bf b,bf (by rw [iQ];cases c:ar k a <;> simp [c] at b ⊢),wk M k v d]
theorem qY {M:List Ky}{k:Ky}{z m:Qt}{a:Es}(g:(a.map Prod.fst).Nodup)(d:ar k a=some (z,m)):aJ k (z,⟨0,0,0,0,0⟩) (msk M a)=msk (k :: M) a:=by
 rw [bf (by rw [iQ,d];rfl)];have r:∀ a:Es,(a.map Prod.fst).Nodup->ar k a=some (z,m)->bO k (z,⟨0,0,0,0,0⟩) (msk M a)=msk (k :: M) a:=fun a=>by
  induction a with
  | nil=>intro _ c;simp [ar] at c
  | cons b j o=>
   obtain⟨e,u⟩:=b;intro g d;rw [List.map_cons,List.nodup_cons] at g;unfold msk at o ⊢;by_cases c:e=k
   ·subst c;simp [ar] at d;have t:∀ i∈j,¬i.1=e:=fun i l p=>g.1 (List.mem_map.2 ⟨i,l,p⟩);have q:j.map (fun b=>if b.1∈M then (b.1,(b.2.1,(⟨0,0,0,0,0⟩:Qt))) else b)=j.map (fun b=>if b.1∈e :: M then (b.1,(b.2.1,(⟨0,0,0,0,0⟩:Qt))) else b):=List.map_congr_left fun i l=>by simp [t i l]
    simp only [List.map_cons,bO];rw [<-q];by_cases f:e∈M
    ·simp [f,d]
    ·simp [f,d]
   ·have n:e∈k :: M↔e∈M:=by simp [c]
    have s:ar k j=some (z,m):=by simpa [ar,c] using d
    have:=o g.2 s;by_cases f:e∈M
    ·simp only [List.map_cons,bO,f,if_true,if_neg c,n];rw [this]
    ·simp only [List.map_cons,bO,f,if_false,if_neg c,n];rw [this]
 exact r a g d
def fk (φ:jI)(blk:Int)(a:Es):Es:=
 if φ.q.op=1 then a ++ [(φ.q.key,(⟨φ.q.kd,φ.q.x,φ.q.y,0,0⟩,⟨φ.q.kd,φ.q.x,φ.q.y,0,0⟩))]
 else if φ.q.op=4 then br φ.q.key a
 else if φ.q.op=2 then aJ φ.q.key (φ.zq,bA φ.zq blk) a
 else a
def vT (pd:Pd)(x:Nat)(fs:Fs):Fs:=match pd with
 | none=>fs
 | some (b,some s)=>aJ b (x,s) fs
 | some (b,none)=>br b fs
structure jT (φ:jI)(es:Es):Prop where
 q:φ.q.ok
 d:φ.q.op=1->cM φ.q.kd φ.q.x φ.q.y/\ar φ.q.key es=none/\es.length<12
 r:φ.q.op=4->(ar φ.q.key es).isSome=true
 a:φ.q.op=2->∃ z z2,ar φ.q.key es=some (z,z2)/\φ.zq.ok/\φ.zq.kd=z.kd/\φ.zq.x=z.x/\φ.zq.y=z.y/\z2.wn<=φ.zq.wn/\(z2.wn=φ.zq.wn->z2.lv<φ.zq.lv)/\(φ.zq.kd≠1->φ.zq.lv<=φ.zq.x)/\(φ.zq.kd=1->φ.zq.wn=z2.wn)
theorem jT.put {φ:jI}{c:Es}(d:jT φ c){k:Ky}{z i z':Qt}(g:ar k c=some (z,i))(s:z'.kd=z.kd)(t:z'.x=z.x)(u:z'.y=z.y):jT φ (aJ k (z',i) c):=by
 have v:(ar k c).isSome=true:=by rw [g];rfl
 refine⟨d.q,fun b=>?_,fun b=>?_,fun b=>?_⟩
 ·obtain⟨p,f,q⟩:=d.d b;have a:φ.q.key≠k:=fun r=>by rw [r,g] at f;cases f
  exact⟨p,by rw [be _ _ a];exact f,by rw [bf v,cQ];exact q⟩
 ·by_cases a:φ.q.key=k
  ·rw [a,bm];rfl
  ·rw [be _ _ a];exact d.r b
 ·obtain⟨w,x,e,j,l,m,n,o⟩:=d.a b;by_cases a:φ.q.key=k
  ·rw [a,g] at e;cases e
   exact⟨z',i,by rw [a,bm],j,l.trans s.symm,m.trans t.symm,n.trans u.symm,o⟩
  ·exact⟨w,x,by rw [be _ _ a];exact e,j,l,m,n,o⟩
theorem eJ.put {a:Es}(b:eJ a){k:Ky}{v:Qt×Qt}(c:k.ok)(e:v.1.ok)(d:(aJ k v a).length<=12):eJ (aJ k v a):=
 ⟨dj b.nd,qX c b.key,vU e b.qt,d⟩
theorem eJ.vir {φ:jI}{blk:Int}{c:Es}(a:eJ c)(b:jT φ c):eJ (fk φ blk c):=by
 unfold fk;split
 ·rename_i d
  obtain⟨k,g,l⟩:=b.d d;rw [<-ja g];refine a.put b.q.key ⟨k,b.q.x,b.q.y,by simp,by simp⟩ ?_
  rw [ja g];simp;omega
 split
 ·exact⟨a.nd.sublist (cg.map _),fun f e=>a.key f (cg.subset e),fun f e=>a.qt f (cg.subset e),lq cg.length_le a.len⟩
 split
 ·rename_i d
  obtain⟨m,n,i,j,_⟩:=b.a d;refine a.put b.q.key j ?_
  rw [bf (by rw [i];rfl),cQ];exact a.len
 ·exact a
theorem lj {D c adm blk:Int}{a:Es}{turn:Int}{fs:Fs}(fsN:Fs)(j:U7 c)(f:U7 adm)(g:U7 blk)(b:eJ a)(k:U7 turn)(d:fE D c blk a turn fs)(e:0<=D):(⟨c,adm,blk,a,turn,fs,fsN⟩:de).ok/\(⟨c,adm,blk,a,turn,fs,fsN⟩:de).has D:=
 ⟨⟨j,f,g,k,b.nd,b.key,b.qt,fun l i=>(d.res l i).ok.fit,b.len,d.less e⟩,d⟩
structure cY (D time blk:Int)(φ:jI)(M:List Ky)(es:Es)(fsD:Fs)(pd:Pd):Prop where
 eo:eJ es
 a:∃ t:Int,(U7 t)/\fE D time blk es t fsD
 b:pd≠none->∃ t:Int,(U7 t)/\∀ x,fE D time blk (fk φ blk es) t (vT pd x fsD)
 c:∀ b s,pd=some (b,some s)->∃ t:Int,(U7 t)/\∀ x n,n<s.size->fE D time blk es t (aJ b (x,s.extract 0 n) fsD)
 v:jT φ es
 m:φ.q.op=4->φ.q.key∈M
 sz:∀ b s,pd=some (b,some s)->s.size<=1000000
 n:∀ b,pd=some (b,none)->br b fsD≠[]
theorem cY.pass {D f g blk:Int}{φ:jI}{M:List Ky}{e:Es}{fsD:Fs}{pd:Pd}(a:cY D f blk φ M e fsD pd)(c:f<=g):cY D g blk φ M e fsD pd:=by
 obtain⟨b,i,j⟩:=a.a;refine⟨a.eo,⟨b,i,j.pass c⟩,fun q=>?_,fun k t r=>?_,a.v,a.m,a.sz,a.n⟩
 ·obtain⟨b,l,m⟩:=a.b q;exact⟨b,l,fun d=>(m d).pass c⟩
 ·obtain⟨b,n,o⟩:=a.c k t r;exact⟨b,n,fun d s p=>(o d s p).pass c⟩
theorem wm {a V:Type} [DecidableEq a] (k:a)(v c:V):∀ l:List (a×V),bO k v (bO k c l)=bO k v l
 | []=>rfl
 | (k',x) :: r=>by
  by_cases b:k'=k
  ·simp [bO,b]
  ·simp only [bO,if_neg b];rw [wm k v c r]
theorem rK {d V:Type} [DecidableEq d] {k a:d}(f:k≠a)(v e:V):∀ l:List (d×V),bO k v (bO a e l)=bO a e (bO k v l)
 | []=>rfl
 | (k',x) :: r=>by
  have i:=rK f v e r;by_cases b:k'=k
  ·have c:¬k'=a:=fun g=>f (b.symm.trans g);simp only [bO,if_neg c,if_pos b]
  ·by_cases c:k'=a
   ·simp only [bO,if_neg b,if_pos c]
   ·simp only [bO,if_neg b,if_neg c];rw [i]
theorem vz {d V:Type} [DecidableEq d] {k a:d}(e:k≠a)(v:V):∀ l:List (d×V),br k (bO a v l)=bO a v (br k l)
 | []=>rfl
 | (k',x) :: r=>by
  have g:=vz e v r;by_cases b:k'=k
  ·have c:¬k'=a:=fun f=>e (b.symm.trans f);simp only [bO,br,if_neg c,if_pos b]
  ·by_cases c:k'=a
   ·simp only [bO,br,if_neg b,if_pos c]
   ·simp only [bO,br,if_neg b,if_neg c];rw [g]
theorem wj {b V:Type} [DecidableEq b] {k:b}(v:V):∀ (l a:List (b×V)),(ar k l).isSome=true->bO k v (l ++ a)=bO k v l ++ a
 | [],_,h=>by simp [ar] at h
 | (k',x) :: r,a,h=>by
  by_cases c:k'=k
  ·simp [bO,c]
  ·have d:(ar k r).isSome=true:=by simpa [ar,c] using h
   simp only [List.cons_append,bO,if_neg c];rw [wj v r a d]
theorem jdw {φ:jI}{blk:Int}{a:Es}{M:List Ky}(q:jT φ a)(p:φ.q.op=4->φ.q.key∈M){k:Ky}{z c z':Qt}(g:ar k a=some (z,c))(o:k ∉ M):(fk φ blk (aJ k (z',c) a)=fk φ blk a)\/(ar k (fk φ blk a)=some (z,c)/\fk φ blk (aJ k (z',c) a)=aJ k (z',c) (fk φ blk a)):=by
 have e:(ar k a).isSome=true:=by rw [g];rfl
 unfold fk;by_cases l:φ.q.op=1
 ·rw [if_pos l,if_pos l];have b:ar k (a ++ [(φ.q.key,((⟨φ.q.kd,φ.q.x,φ.q.y,0,0⟩:Qt),(⟨φ.q.kd,φ.q.x,φ.q.y,0,0⟩:Qt)))])=some (z,c):=by rw [dx,if_pos e,g]
  exact ir ⟨b,by rw [bf e,bf (by rw [b];rfl),wj _ _ _ e]⟩
 rw [if_neg l,if_neg l];by_cases j:φ.q.op=4
 ·rw [if_pos j,if_pos j];have d:k≠φ.q.key:=fun b=>o (b▸p j);have b:ar k (br φ.q.key a)=some (z,c):=by rw [bt d,g]
  exact ir ⟨b,by rw [bf e,bf (by rw [b];rfl),vz (fun f=>d f.symm)]⟩
 rw [if_neg j,if_neg j];by_cases i:φ.q.op=2
 ·rw [if_pos i,if_pos i];obtain⟨r,s,n,_⟩:=q.a i;have m:(ar φ.q.key a).isSome=true:=by rw [n];rfl
  by_cases d:k=φ.q.key
  ·subst d;left
   rw [bf (by rw [bm];rfl),bf e,bf e,wm]
  ·have b:ar k (aJ φ.q.key (φ.zq,bA φ.zq blk) a)=some (z,c):=by rw [be _ _ d,g]
   right
   refine⟨b,?_⟩
   rw [bf (by rw [be _ _ (fun f=>d f.symm)];exact m),bf e,bf (by rw [b];rfl),bf m,rK (fun f=>d f.symm)]
 ·rw [if_neg i,if_neg i];exact ir ⟨g,rfl⟩
theorem cY.cover {D l blk:Int}{φ:jI}{M:List Ky}{d:Es}{fsD:Fs}{pd:Pd}(a:cY D l blk φ M d fsD pd){k:Ky}{z i z':Qt}(b:ar k d=some (z,i))(w:k ∉ M)(g:gL blk z' i)(B:z'.ok)(t:z'.kd=z.kd)(u:z'.x=z.x)(v:z'.y=z.y):cY D l blk φ M (aJ k (z',i) d) fsD pd:=by
 have E:(ar k d).isSome=true:=by rw [b];rfl
 obtain⟨c,m,n⟩:=a.a;refine⟨a.eo.put (a.eo.key _ (aR b)) B (by rw [bf E,cQ];exact a.eo.len),⟨c,m,n.cover b g⟩,fun y=>?_,fun o F A=>?_,a.v.put b t u v,a.m,a.sz,a.n⟩
 ·obtain⟨c,p,j⟩:=a.b y;refine⟨c,p,fun e=>?_⟩
  rcases jdw a.v a.m b w (blk:=blk) (z':=z') with f | ⟨f,s⟩
  ·rw [f];exact j e
  ·rw [s];exact (j e).cover f g
 ·obtain⟨c,q,r⟩:=a.c o F A;exact⟨c,q,fun e C x=>(r e C x).cover b g⟩
theorem jcX (a:List Int)(n:Nat):(strOfNums a).extract 0 n=strOfNums (a.take n):=by
 apply ByteArray.ext
 apply Array.ext'
 simp [strOfNums,ByteArray.data_extract]
theorem jeH {turn b:Int}{a:Es}{ks:List Ky}(d:(⟨turn,b,a,ks⟩:Ig).ok){n:Nat}(c:n<(strOfNums (aX turn b a ks)).size):ky ((strOfNums (aX turn b a ks)).extract 0 n):=by
 rw [strOfNums_size] at c;exact⟨⟨turn,b,a,ks⟩,n,d,c,jcX _ _⟩
theorem cY.first {Z:Prop}{c:de}{D:Int}(b:c.ok)(f:c.has D){φ:jI}{M:List Ky}(m:jT φ c.es)(q:φ.q.op=4->φ.q.key∈M)(l:∀ p∈fk φ c.blk c.es,gL c.blk p.2.1 p.2.2)(v:∀ p∈fk φ c.blk c.es,p.2.2.kd=2->p.2.2.wn<=c.time / p.2.2.y){ks:List Ky}(k:ks.Perm ((fk φ c.blk c.es).map Prod.fst)){o:Fs}{pd:Pd}{dn:Bool}(g:FlO Z (au c.turn % 2==1) (strOfNums (aX (au c.turn) c.time (fk φ c.blk c.es) ks)) c.fsN o pd dn) :
  cY D c.time c.blk φ M c.es c.fsD pd/\(dn=false->Sm c.fsD c.fsN->∀ x,Sm (vT pd x c.fsD) o)/\(dn=true->Z):=by
 have d:=b.eso.vir (blk:=c.blk) m;have s:=f.le b;have i:(au c.turn % 2==1)=!(c.turn % 2==1):=fu c.turn;rcases g with ⟨rfl,rfl,rfl⟩ | ⟨rfl,g⟩
 ·exact⟨⟨b.eso,⟨c.turn,b.turn,f⟩,fun a=>absurd rfl a,(fun e n a=>by cases a),m,q,(fun e n a=>by cases a),(fun e a=>by cases a)⟩,fun _ a _=>a,(fun a=>by cases a)⟩
 ·refine⟨⟨b.eso,⟨c.turn,b.turn,f⟩,fun _=>⟨au c.turn,dP _,fun x=>(fE.keep f b.turn b.time b.nd b.key b.len l v k x).less s⟩,fun e n a=>?_,m,q,fun e n a=>?_,(fun e a=>by cases a)⟩,fun j u x=>?_,fun j=>?_⟩
  ·cases a
   refine⟨c.turn,b.turn,fun x y t=>f.torn i x (jeH ?_ t)⟩
   exact (igOf l (dP _) b.time.2 d.nd d.key d.len k b.time.1 (Int.le_refl _)).1
  ·cases a
   have r:=(igOf l (dP c.turn) b.time.2 d.nd d.key d.len k b.time.1 (Int.le_refl _)).1;have i:=(⟨au c.turn,c.time,fk φ c.blk c.es,ks⟩:Ig).blen;have w:=r.len;rw [strOfNums_size];show (⟨au c.turn,c.time,fk φ c.blk c.es,ks⟩:Ig).bytes.length<=1000000;rw [i];omega
  ·rcases g with ⟨rfl,_⟩ | ⟨_,z,rfl⟩
   ·cases j
   ·exact u.put _ _ _ _
  ·rcases g with ⟨_,a⟩ | ⟨rfl,_⟩
   ·exact a
   ·cases j
theorem cY.renew (t:Bu){c:de}{D:Int}(b:c.ok)(j:c.has D){φ:jI}(A:φ.q.ok)(r:φ.q.op≠1)(g:φ.q.op≠2)(i:φ.q.op≠4)(s:(c.fsD.map Prod.fst).Nodup)(y:(c.fsN.map Prod.fst).Nodup) :
  RnE t c.turn c.time c.es c.fsD c.fsN (fun fsD fsN pd dn=>cY D c.time c.blk φ [] c.es fsD pd/\(dn=false->Sm c.fsD c.fsN->∀ x,Sm (vT pd x fsD) fsN)/\(dn=true->t.l<4)):=by
 have n:jT φ c.es:=⟨A,fun a=>absurd a r,fun a=>absurd a i,fun a=>absurd a g⟩;have f:fk φ c.blk c.es=c.es:=by unfold fk;rw [if_neg r,if_neg i,if_neg g]
 have w:=j.le b;refine⟨fun o pd dn v m d=>?_,fun o q E pd dn v m d=>?_⟩
 ·exact cY.first b j n (fun a=>absurd a i) (by rw [f];exact b.dur.res) (by rw [f];exact b.dur.wnd) (ks:=o) (by rw [f];exact m) (by rw [f];exact d)
 ·have k:=(fE.keep j b.turn b.time b.nd b.key b.len b.dur.res b.dur.wnd m q).less w;have C:(IntKind.u64.wrap (au c.turn - 1) % 2==1)=!(au c.turn % 2==1):=by
   rw [fu,Bool.not_not];have:IntKind.u64.wrap (au c.turn - 1)=c.turn:=by have:=b.turn;unfold au;rw [IntKind.wrap_u64];omega
   rw [this]
  rw [C] at d;rcases d with ⟨rfl,rfl,rfl⟩ | ⟨rfl,d⟩
  ·exact⟨⟨b.eso,⟨au c.turn,dP _,k⟩,fun a=>absurd rfl a,(fun e p a=>by cases a),n,fun a=>absurd a i,(fun e p a=>by cases a),(fun e a=>by cases a)⟩,fun _ a _=>a.put _ _ _ _,(fun a=>by cases a)⟩
  ·refine⟨⟨b.eso,⟨au c.turn,dP _,k⟩,fun _=>⟨au c.turn,dP _,fun x=>?_⟩,(fun e p a=>by cases a),n,fun a=>absurd a i,(fun e p a=>by cases a),fun e a=>?_⟩,fun l B x=>?_,fun l=>?_⟩
   ·rw [f];exact k.swept (dj s)
   ·cases a
    intro u;have z:(au c.turn % 2==1)≠(!(au c.turn % 2==1)):=by cases (au c.turn % 2==1) <;> simp
    have g:=bt z (ks:=aJ (au c.turn % 2==1) (q,strOfNums (aX (au c.turn) c.time c.es o)) c.fsD);rw [u,bm] at g;cases g
   ·rcases d with ⟨rfl,_⟩ | ⟨_,rfl⟩
    ·cases l
    ·exact (B.put _ _ _ _).del _ (dj s) (dj y)
   ·rcases d with ⟨_,a⟩ | ⟨rfl,_⟩
    ·exact a
    ·cases l
theorem jci (db g nb:Nat)(blk:Int)(w:World)(J:U7 blk)(s:w.heap[db]?=some (oB g nb))(u:ak w g [])(r:ak w nb [])(M:g≠nb) :
  Calls prog 34 #[.iface 78 (.pointer (some ⟨db,0,none⟩)),.int .u64 blk] w fun e w'=>∃ A F,e=.returned (.tuple #[pO A 0,.nilIface])/\w.heap.size<=A/\aU db blk ⟨0,true⟩ (bu 4000000) w' 0 A ⟨0,0,[]⟩ F/\(∀ b,F b->b=db\/b=g\/b=nb\/w.heap.size<=b)/\B7 w w':=by
 have E:=aa (lE db nb _ _ _ _ blk w s r);have K:=am s;have L:=u.map.lt;have N:=r.map.lt;have HD:=aa s;have C:=aa u;have D:=aa r;clear s u r;go_enter func34,ntmps34
 go_wp2_with fail
 refine E.out.mono ?_
 rintro e k ⟨n,o,rfl,y,z,t,p,q,m⟩;have G:=aa (aN y (aN z (aN t (aN p (aN q m)))));clear y z t p q m;go_wp2
 go_ret2
 obtain⟨y,z,t,p,q,m⟩:=G.out;have Q:=m.size;have H:=q.lt;have P:=am p;obtain⟨i,l⟩:∃ i,i=(k.alloc (.cells #[.int .u64 0,.int .u64 blk,.map (some o),.pointer (some ⟨n,0,none⟩)] 124)).alloc (.cells #[.int .i32 0,.int .u32 0,.int .u64 0,.int .u64 blk,.map (some o),.pointer (some ⟨n,0,none⟩),.int .u64 0] 130):=⟨_,rfl⟩;have B:∀ f,f<k.heap.size->i.heap[f]?=k.heap[f]?:=fun f v=>by rw [l,ah _ _ (by simp;omega),ah _ _ v]
 have x:∀ f,f<w.heap.size->i.heap[f]?=w.heap[f]?:=fun f v=>(B f (by omega)).trans (m.block f v);have O:i.heap[k.heap.size+1]?=_:=l▸aC (by simp);have R:i.heap.size=k.heap.size+2:=by rw [l];simp
 have I:B7 w i:=l▸(m.alloc Q _).alloc (by simp;omega) _;refine⟨k.heap.size+1,fun b=>b=db\/b=g\/b=nb\/b=k.heap.size+1\/b=o\/b=n,by simp,by omega,?_,fun b j=>?_,by rw [<-l];exact I⟩
 ·rw [<-l];refine⟨⟨0,0,blk,[],0,[],[]⟩,⟨by simp,by simp,J,by simp,by simp,fun d c=>(by cases c),fun d c=>(by cases c),fun d c=>(by cases c),by simp,⟨fun d c=>(by cases c),il ⟨fun b d c=>(by simp [ar] at c),rfl,Int.le_refl _,rfl⟩,fun d c=>(by simp [ar] at c)⟩⟩,rfl,⟨rfl,⟨fun d c=>(by cases c),il ⟨fun b d c=>(by simp [ar] at c),rfl,Int.le_refl _,rfl⟩,fun d c=>(by simp [ar] at c)⟩,fun _ d c=>(by cases c),fun _=>rfl⟩,⟨⟨o,n,fun b=>b=db\/b=g\/b=nb,O,ap.empty ((B o P).trans p),q.kept (B n H),⟨⟨g,nb,-1,-1,(x db K).trans HD.out,C.out.kept (x g L) (fun d c=>(by cases c)),D.out.kept (x nb N) (fun d c=>(by cases c)),fC.neg (by omega) (by omega) (by decide),fC.neg (by omega) (by omega) (by decide),ir (il rfl),ir (ir rfl),M⟩,fun d c=>(by cases c),fun d c=>(by cases c),il rfl,fun b j=>?_⟩,fun b j=>?_,?_,?_,fun a=>?_,fun a=>?_,fun e=>t e.symm,fun a=>?_,by omega,by omega⟩,?_,fun b j=>?_⟩⟩
  ·rcases j with a | a | a <;> (rw [a];omega)
  ·rcases j with a | a | a
   ·exact il a
   ·exact ir (il a)
   ·exact ir (ir (il a))
  ·exact ir (ir (ir (ir (il rfl))))
  ·exact ir (ir (ir (ir (ir rfl))))
  ·rcases a with a | a | a <;> omega
  ·rcases a with a | a | a <;> omega
  ·rcases a with a | a | a <;> omega
  ·exact ir (ir (ir (il rfl)))
  ·rcases j with a | a | a | a | a | a <;> (rw [a];omega)
 ·rcases j with a | a | a | a | a | a
  ·exact il a
  ·exact ir (il a)
  ·exact ir (ir (il a))
  ·exact ir (ir (ir (by omega)))
  ·exact ir (ir (ir (by omega)))
  ·exact ir (ir (ir (by omega)))
theorem jaf (a:Nat)(w:World):Calls prog 29 #[pO a 0] w fun e w'=>e=.returned (.pointer (some ⟨w.heap.size,0,none⟩))/\w'=w.alloc (OT a):=by
 go_enter func29,ntmps29
 go_wp2
 go_ret
 exact⟨rfl,rfl⟩
theorem aU.dskF {db:Nat}{blk:Int}{D:Dx}{k:Bu}{w:World}{e:Int}{d:Nat}{L:Ld}{F:NP}(a:aU db blk D k w e d L F):F db:=by
 obtain⟨g,_,_,_,a⟩:=a;obtain⟨j,i,f,_,_,_,b,c,_⟩:=a.mem;exact c db b.own
theorem aU.dsk {db:Nat}{blk:Int}{D:Dx}{k:Bu}{w:World}{g:Int}{e:Nat}{L:Ld}{F:NP}(a:aU db blk D k w g e L F):∃ b nb l f,w.heap[db]?=some (ox b nb l f):=by
 obtain⟨j,_,_,_,a⟩:=a;obtain⟨n,m,i,_,_,_,d,_⟩:=a.mem;obtain⟨b,nb,l,f,c,_⟩:=d.mem;exact⟨b,nb,l,f,c⟩
theorem aU.refill {db:Nat}{blk:Int}{D:Dx}{k:Bu}{w w':World}{K:Int}{n:Nat}{L:Ld}{F:NP}(g:aU db blk D k w K n L F){j nb:Nat}{l f:Int}(m:w.heap[db]?=some (ox j nb l f))
  (T:w'.heap[db]?=some (oB j nb)) (G:w.heap.size<=w'.heap.size) (e:∀ b,F b->b≠db->w'.heap[b]?=w.heap[b]?):aU db blk D (bu 4000000) w' K n L F:=by
 obtain⟨M,V,W,X,g⟩:=g;obtain⟨u,p,y,N,R,S,c,i,A,B,C,E,O,z,P,Q⟩:=g.mem;obtain⟨a2,a3,av,ao,r,s,t,a0,a1,H,I,Y⟩:=c.mem;rw [m] at r;simp at r;obtain⟨rfl,rfl,_,_⟩:=r;have v:∀ x,¬y x->x≠db:=fun x U o=>U (o▸c.own);have Z:j≠db:=s.map.ne m;have ad:nb≠db:=t.map.ne m;have J:∀ (a:Bool×(Nat×ByteArray)),w.heap[a.2.1]?=some (Ub a.2.2)->a.2.1≠db:=fun a d o=>by rw [o,m] at d;simp at d
 exact⟨M,V,W,X,⟨⟨u,p,y,(e n g.own (v n z)).trans N,ap.kept R (e u A (v u E)),S.kept (e p B (v p C)),⟨⟨j,nb,-1,-1,T,s.kept (e j (i _ H) Z) (fun a d=>e _ (i _ (c.sD a d)) (J a (s.str a d))),t.kept (e nb (i _ I) ad) (fun a d=>e _ (i _ (c.sN a d)) (J a (t.str a d))),fC.neg (by omega) (by omega) (by decide),fC.neg (by omega) (by omega) (by decide),H,I,Y⟩,c.sD,c.sN,c.own,fun b q=>ll (c.lt b q) G⟩,i,A,B,C,E,O,z,P,Q⟩,g.own,fun b q=>ll (g.lt b q) G⟩⟩
theorem jaS (D:Dx)(L:Ld)(q:Rq)(d:pY q)(t:List Int):ib D L (q.enc ++ t)=ib (gm D L q) (aS L q).1 t:=by
 obtain⟨a,b,c⟩:=d t;rw [lQ D L _ a,b,c,Int.toNat_natCast,List.drop_left]
theorem jaT (D:Dx)(L:Ld):ib D L []=D:=iD D L [] (by simp [aF])
end Go.Proofs.YtnlgndpcddngoaaGreatDoor
