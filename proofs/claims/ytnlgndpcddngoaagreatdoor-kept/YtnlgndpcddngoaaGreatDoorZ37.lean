import Derived.Test.YtnlgndpcddngoaaGreatDoorZ36
import Derived.Deep.RegionHeld3
set_option linter.all false
set_option maxRecDepth 100000
set_option maxHeartbeats 16000000
namespace Go.Proofs.YtnlgndpcddngoaaGreatDoor
open Go.Proofs.Tryz Go.RowKit Go.Maps
variable [dK] [iK]
theorem sf (a:Array Value)(w:World):Sem.run prog (callFunc 14 a) w=.ok (.enter 14 a) w:=by simp [go_sem]
theorem sj (a:Array Value)(w:World):Sem.run prog (callFunc 37 a) w=.ok (.enter 37 a) w:=by simp [go_sem]
def DnX (blk:Int)(X:Xs)(D:Dx)(a:Ld):Prop:=(X.ill=none/\D=X.D/\a=X.L)\/(D=⟨X.D.t,false⟩/\Vir blk X a)
def KX (base:Nat)(blk:Int)(i o:Nat)(w:World):Prop:=∃ (n:World) (f j kc:Nat) (m:Nat->Nat) (l:Nat->Value) (k:Value) (q:Bool) (a:Xs) (b:Dx) (d:Ld) (c:NP) (g:Nat->Cn) (p:Bk),bQ n w i blk b d base c/\base<=n.heap.size/\eK w base i o f j kc blk m l k q a p g/\DnX blk a b d/\pZ a/\∀ e,LG o f j m l k g e->¬c e
def IvX (X:Xs)(sk:Bool):Prop:=pZ X/\(X.ill≠none->sk=true)/\(X.ill=none\/4<=X.k.l)
def JX (base:Nat)(blk:Int)(l t:Nat)(w:World):Prop:=∃ (d nb r i n kc:Nat) (p:Option Nat) (s:Nat->Nat) (q:Nat->Value) (o:Value) (e:Bool) (a:Xs) (g:NP) (k:Value) (c:Nat) (j:Nat->Nat) (b:Nat->Cn) (f:Bk),c<=3/\(c<3->∀ m,b m=⟨[],false⟩)/\dC w base l d nb r t i n kc p blk s q o e a g k c j b a f b/\IvX a e/\w.cell? ⟨d,5,none⟩=some (.bool false)
theorem bQ.move {w w':World}{c:Nat}{blk:Int}{D:Dx}{L:Ld}{B:Nat}{G:NP}(k:bQ w w c blk D L B G)(C:w.heap.size<=w'.heap.size)(d:∀ b,G b->w'.heap[b]?=w.heap[b]?):bQ w' w' c blk D L B G:=by
 obtain⟨j,i,a,n,q,p,nb,t,u,v,⟨⟨H,r,z⟩,⟨E,s,y⟩,A,o,F⟩,l,x,e,I⟩:=k;have m:i nb:=x.elim id (fun k=>by have:=o.map.lt;omega);exact⟨j,i,a,fun b c=>⟨(n b c).1,ll (n b c).2 C⟩,q,p,nb,t,u,v,⟨⟨H,r,(d c a.1).trans z⟩,⟨E,s,(d j a.2.1).trans y⟩,A.kept (d p (a.2.2 _ l)) (fun g f=>d _ (a.2.2 _ (e g f))),o.kept (d nb (a.2.2 _ m)) (fun g f=>d _ (a.2.2 _ (e g f))),F⟩,l,il m,e,ae.refl _ _⟩
theorem jdz (a db nb q:Nat)(y:Option Nat)(blk:Int)(X:Xs)(F:NP)(B:Nat)(t:Value)(d:Nat)(f:Nat->Nat)(c:Nat->Cn)(k o:Int)(s:ByteArray)(sk:Bool)(w:World)(x:IvX X sk)(H:bc w a db nb q y blk X F B t d f c)(O:d<=3)(K:B<=w.heap.size)(R:d<3->∀ i,c i=⟨[],false⟩)(i:Nat)(Q:bp k 3=(i:Int))(S:-9223372036854775808<=k)(T:k<=9223372036854775807)(I:0<=o)(v:o<=18446744073709551615)(L:Bytes (c i).waits)(N:(c i).waits.length+(aD s).length<=100000) :
  Calls prog 14 #[pO a 0,.int .i64 k,.int .u64 o,.string s,.int .i64 (-1),.int .i64 (-1),.int .i64 0,.int .i64 0] w fun e w'=>∃ X' l r u j,e=.returned (.tuple #[.string (strOfNums (bG (mi (c i) (aD s) l))),.bool false])/\(cI (co (X.at (bud (-1) (-1))) o) l X'/\l.map Prod.fst=jW (c i) (aD s)/\(∀ p∈l,p.2.c=7->(sk || false)=true)/\IvX (X'.at (bu 4000000)) (sk || false))/\bc w' a db nb q y blk (X'.at (bu 4000000)) r B u 3 j (fun n=>if n=i then gU (c i) (aD s) else c n)/\w'.cell? ⟨db,5,none⟩=some (.bool false)/\ae (HG a db F t d f) w w'/\(∀ b,HG a db r u 3 j b->HG a db F t d f b\/w.heap.size<=b)/\∀ g,g<w.heap.size->bE w q d f c g->bE w' q 3 j (fun n=>if n=i then gU (c i) (aD s) else c n) g:=by
 refine (py 0 0 (-1) (-1) a db nb q y blk X F B t d f c k o s w x.1 x.2.2 (by omega) (by omega) (by omega) H O K R i Q S T I v L N).mono ?_
 rintro e w' ⟨X',l,⟨A,U,C⟩,m⟩;have M:4 * l.length<=3999996:=by
  have z:l.length=(jW (c i) (aD s)).length:=by rw [<-C,List.length_map]
  have:=pM (c i) (aD s);omega
 obtain⟨⟨D,E⟩,G⟩:=vF (sk:=sk) A M x.2.1;rcases m with ⟨r,u,j,rfl,v,z⟩ | ⟨_,_,_,_,⟨_,m⟩,_⟩
 ·exact⟨X',l,r,u,j,rfl,⟨A,C,fun p P J=>D p P J,U,fun m=>E m,ir (by show 4<=4000000;decide)⟩,v,z⟩
 ·have:=G m;omega
theorem jdA (Q D f m:Int)(a db nb v:Nat)(L:Option Nat)(blk:Int)(X:Xs)(F:NP)(B:Nat)(q:Value)(d:Nat)(j:Nat->Nat)(c:Nat->Cn)(k n:Int)(s:ByteArray)(sk:Bool)(w:World)(J:IvX X sk)(a3:-9223372036854775808<=f/\f<=9223372036854775807)(av:-9223372036854775808<=m/\m<=9223372036854775807)(a6:-9223372036854775808<=D/\D<=9223372036854775807)(H:bc w a db nb v L blk X F B q d j c)(a4:d<=3)(W:B<=w.heap.size)(a7:d<3->∀ i,c i=⟨[],false⟩)(i:Nat)(a5:bp k 3=(i:Int))(a8:-9223372036854775808<=k)(a9:k<=9223372036854775807)(U:0<=n)(t:n<=18446744073709551615)(ad:Bytes (c i).waits)(a2:(c i).waits.length+(aD s).length<=100000)(r:Bool)(ao:r=(decide (0<=f) || decide (0<=m)))(K:Bu)(a0:K=bud f m)(Z:Prop)(Y:0<=f->Z) :
  Calls prog 14 #[pO a 0,.int .i64 k,.int .u64 n,.string s,.int .i64 f,.int .i64 m,.int .i64 Q,.int .i64 D] w fun e w'=>∃ X' l E,e=.returned (.tuple #[.string (strOfNums (bG (mi (c i) (aD s) l))),.bool E])/\(cI (co (X.at K) n) l X'/\l.map Prod.fst=jW (c i) (aD s)/\(∀ p∈l,p.2.c=7->(sk || r)=true)/\IvX (X'.at (bu 4000000)) (sk || r))/\ae (HG a db F q d j) w w'/\((E=false/\∃ x A o,bc w' a db nb v L blk (X'.at (bu 4000000)) x B A 3 o (fun u=>if u=i then gU (c i) (aD s) else c u)/\w'.cell? ⟨db,5,none⟩=some (.bool false)/\(∀ b,HG a db x A 3 o b->HG a db F q d j b\/w.heap.size<=b)/\∀ g,g<w.heap.size->bE w v d j c g->bE w' v 3 o (fun u=>if u=i then gU (c i) (aD s) else c u) g)\/(E=true/\Z/\∃ z y,bQ w' w' a blk ⟨X'.D.t,false⟩ z B y/\Vir blk X' z/\∀ b,y b->HG a db F q d j b\/w.heap.size<=b)):=by
 refine (py Q D f m a db nb v L blk X F B q d j c k n s w J.1 J.2.2 a3 av a6 H a4 W a7 i a5 a8 a9 U t ad a2).mono ?_
 rintro e w' ⟨X',l,⟨M,bb,R⟩,T⟩;have a1:4 * l.length<=3999996:=by
  have C:l.length=(jW (c i) (aD s)).length:=by rw [<-R,List.length_map]
  have:=pM (c i) (aD s);omega
 obtain⟨⟨N,O⟩,S⟩:=vF (sk:=sk) M a1 J.2.1;rw [<-ao] at N O;rw [<-a0] at M;have P:cI (co (X.at K) n) l X'/\l.map Prod.fst=jW (c i) (aD s)/\(∀ p∈l,p.2.c=7->(sk || r)=true)/\IvX (X'.at (bu 4000000)) (sk || r):=⟨M,R,N,bb,O,ir (by show 4<=4000000;decide)⟩;rcases T with ⟨x,A,o,rfl,t,C,G,I⟩ | ⟨z,y,rfl,t,⟨C,G⟩,I,V⟩
 ·exact⟨X',l,false,rfl,P,G,il ⟨rfl,x,A,o,t,C,I⟩⟩
 ·exact⟨X',l,true,rfl,P,I,ir ⟨rfl,Y (S G),z,y,t,C,V⟩⟩
def nX (base d db nb t j b e kc:Nat)(s:Option Nat)(blk:Int)(i:Nat->Nat)(g:Nat->Value)(f:Value)(sk:Bool)(Z:Prop)(o:Bool)(a:Xs)(d2:Nat->Cn)(m:Xs)(B:Bk)(c:Nat->Cn)(w:World):Prop:=eK w base d j b e kc blk i g f sk m B c/\((o=false/\∃ p r q,dC w base d db nb t j b e kc s blk i g f sk (a.at (bu 4000000)) p r 3 q d2 m B c/\w.cell? ⟨db,5,none⟩=some (.bool false))\/(o=true/\Z/\∃ l k,bQ w w d blk ⟨a.D.t,false⟩ l base k/\Vir blk a l/\∀ n,LG j b e i g f c n->¬k n))
theorem nX.kept {base o db nb u x k q kc:Nat}{s:Option Nat}{blk:Int}{v:Nat->Nat}{t:Nat->Value}{r:Value}{sk:Bool}{Z:Prop}{l:Bool}{i:Xs}{d2:Nat->Cn}{j:Xs}{B:Bk}{m:Nat->Cn}{w w':World}(a:nX base o db nb u x k q kc s blk v t r sk Z l i d2 j B m w)(d:B7 w w'):nX base o db nb u x k q kc s blk v t r sk Z l i d2 j B m w':=by
 obtain⟨n,a⟩:=a;refine⟨n.kept d.size (fun b a=>d.block b (n.low b a).2),a.imp (fun a=>?_) (fun a=>?_)⟩
 ·obtain⟨e,y,C,A,c,f⟩:=a;exact⟨e,y,C,A,c.kept d,(d.cell (p:=⟨db,5,none⟩) (c.host.hs.lt db c.host.hd)).trans f⟩
 ·obtain⟨e,D,z,g,c,f⟩:=a;have F:∀ b,g b->b<w.heap.size:=by
   obtain⟨_,_,_,E,_⟩:=c;exact fun b a=>(E b a).2
  exact⟨e,D,z,g,c.move d.size (fun b a=>d.block b (F b a)),f⟩
theorem nX.fedl {base n db nb H f d i kc:Nat}{F:Option Nat}{blk:Int}{e:Nat->Nat}{G q:Nat->Value}{o p:Value}{sk I:Bool}{Z:Prop}{v:Bool}{t:Xs}{d2:Nat->Cn}{L u:Xs}{B r:Bk}{x k:Nat->Cn}{w w':World}(a:nX base n db nb H f d i kc F blk e G o sk Z v t d2 L B x w)(A:eK w' base n f d i kc blk e q p I u r k)(g:ae (LW f d e o) w w')(C:∀ b,LG f d i e q p k b->LG f d i e G o x b\/w.heap.size<=b):nX base n db nb H f d i kc F blk e q p I Z v t d2 u r k w'/\Below base w w':=by
 obtain⟨z,a⟩:=a;refine⟨⟨A,a.imp (fun a=>?_) (fun a=>?_)⟩,g.below z.bs (fun b a=>(z.low b a.lg).1)⟩
 ·obtain⟨l,J,N,M,c,m⟩:=a;exact⟨l,J,N,M,(c.fedl A g C).1,(World.cell?_of_block (g.block db (c.host.hs.lt db c.host.hd) (fun a=>c.dis _ a.lg (ir (il rfl))))).trans m⟩
 ·obtain⟨l,O,K,s,c,m,y⟩:=a;have E:∀ b,s b->b<w.heap.size:=by
   obtain⟨_,_,_,P,_⟩:=c;exact fun b a=>(P b a).2
  refine⟨l,O,K,s,c.move g.size (fun b a=>g.block b (E b a) (fun j=>y b j.lg a)),m,fun b a D=>?_⟩
  rcases C b a with j | j
  ·exact y b j D
  ·have:=E b D;omega
theorem dC.mid {w w':World}{base c db nb i J y D kc:Nat}{v:Option Nat}{blk:Int}{I:Nat->Nat}{G:Nat->Value}{E:Value}{sk:Bool}{K x:Xs}{F:NP}{n:Value}{f:Nat}{d:Nat->Nat}{z A:Nat->Cn}{B:Bk}(H:dC w base c db nb i J y D kc v blk I G E sk K F n f d z x B A){m:Xs}{d2:Nat->Cn}{Z:Prop}{q:Bool}(p:ae (HG c db F n f d) w w')(a:(q=false/\∃ j o e,bc w' c db nb i v blk (m.at (bu 4000000)) j base o 3 e d2/\w'.cell? ⟨db,5,none⟩=some (.bool false)/\(∀ b,HG c db j o 3 e b->HG c db F n f d b\/w.heap.size<=b)/\∀ g,g<w.heap.size->bE w i f d z g->bE w' i 3 e d2 g)\/(q=true/\Z/\∃ l k,bQ w' w' c blk ⟨m.D.t,false⟩ l base k/\Vir blk m l/\∀ b,k b->HG c db F n f d b\/w.heap.size<=b)):nX base c db nb i J y D kc v blk I G E sk Z q m d2 x B A w'/\Below base w w':=by
 have O:=H.law.kept p.size (fun b a=>p.block b (H.law.low b a).2 (H.dis b a));refine⟨⟨O,a.imp (fun a=>?_) (fun a=>?_)⟩,p.below H.law.bs (fun b a=>H.host.lo b a)⟩
 ·obtain⟨r,j,o,e,s,t,u,M⟩:=a;exact⟨r,j,o,e,(H.fedh s p u M).1,t⟩
 ·obtain⟨r,L,l,k,s,t,u⟩:=a;refine⟨r,L,l,k,s,t,fun b a N=>?_⟩
  rcases u b N with C | C
  ·exact H.dis b a C
  ·have:=(H.law.low b a).2;omega
theorem vE (base r n:Nat)(blk:Int)(p:Sp)(dt:Value)(b2:Bool)(w:World)(f8:JX base blk r n w)(hf:gf w dt p.qs)(e5:p.qs.length<=1000)(di:∀ q∈p.qs,q.ok)(hg:p.raw.size<=20000)(cp:-9223372036854775808<=p.conn)(cq:p.conn<=9223372036854775807)(cF:0<=p.now)(cG:p.now<=18446744073709551615)(hm:-9223372036854775808<=p.cut)(hn:p.cut<=9223372036854775807)(hD:-9223372036854775808<=p.left/\p.left<=9223372036854775807)(hC:-9223372036854775808<=p.full/\p.full<=9223372036854775807)(he:-9223372036854775808<=p.part/\p.part<=9223372036854775807)
  (d2:Hid (∀ cU,KX base blk r n cU->Below base w cU->Calls prog 26 #[pO n 0,Ox p.kind p.conn p.now dt p.raw p.cut p.left p.full p.kept p.part] cU fun e w'=>e=.returned (.bool true)/\JX base blk r n w'/\Below base cU w')) :
  Calls prog 23 #[pO n 0,Ox p.kind p.conn p.now dt p.raw p.cut p.left p.full p.kept p.part,.bool b2] w fun e w'=>e=.returned (.bool true)/\JX base blk r n w'/\Below base w w':=by
 obtain⟨K,nb,R,D,G,kc,a1,H,dn,dm,C,cn,dN,es,fr,er,u,dv,hc,e4,bi,eA,g4⟩:=f8;obtain⟨hL,⟨fq,hx,hy,fd,_⟩,_⟩:=bi.law.blk;have f7:=aa eA;clear eA g4;obtain⟨a3,a9,rfl,e8,e9⟩:=hf;obtain⟨Q,cy⟩:∃ Q,Q=p.qs.length:=⟨_,rfl⟩;rw [<-cy] at e8 e5 d2 ⊢;obtain⟨J,bo⟩:∃ J,J=w.alloc (oJ p.kind p.conn p.now (.slice a3 Q a9) p.raw p.cut p.left p.full p.kept p.part):=⟨_,rfl⟩;obtain⟨c,cs⟩:∃ c,c=w.heap.size:=⟨_,rfl⟩;have cv:J.heap[c]?=some (oJ p.kind p.conn p.now (.slice a3 Q a9) p.raw p.cut p.left p.full p.kept p.part):=by rw [bo,cs];exact af _ _
 have b3:B7 w J:=by rw [bo];exact ba w
 have eo:=bi.kept b3;have hB:J.heap.size=c+1:=by rw [bo,cs];simp
 have b7:=(b3.block n (am fd)).trans fd;have eL:=bi.law.bs;have ev:Below base w J:=b3.mono eL;have eN:0<Q->∃ bg b9,a3=some ⟨bg,b9,none⟩/\bg<J.heap.size/\∀ b (a:b<p.qs.length) l,l<13->J.cell? ⟨bg,b9+b * 13+l,none⟩=(#[.int .u8 p.qs[b].op,.int .u8 p.qs[b].k0,.int .u8 p.qs[b].k1,.int .u8 p.qs[b].k2,.int .u8 p.qs[b].k3,.int .u8 p.qs[b].k4,.int .u8 p.qs[b].k5,.int .u8 p.qs[b].k6,.int .u8 p.qs[b].k7,.int .u8 p.qs[b].kd,.int .u64 p.qs[b].x,.int .u64 p.qs[b].y,.int .u64 p.qs[b].n]:Array Value)[l]?:=fun a=>by
  obtain⟨bg,b9,e,g5,g9⟩:=e9 (by omega);refine⟨bg,b9,e,by omega,fun b bv l dd=>?_⟩
  rw [b3.cell (p:=⟨bg,b9+b * 13+l,none⟩) g5,g9 b bv l dd];simp
 have d1:=aa (ja8 a3 Q a9 p.qs p.raw J cy.symm e8 e5 hg di eN);have b5:=gB p.conn 3 (by omega);obtain⟨b,bv⟩:∃ b:Nat,bp p.conn 3=(b:Int):=⟨(bp p.conn 3).toNat,by omega⟩;have b5:b<3:=by omega
 have cl:=aa eo;have d3:=aa ev;have hu:=aa cv;have hv:=aa b7;have gc:=aa e4;have gb:Hid (c=w.heap.size):=aa cs;have gd:=aa cy;have hs:=aa di;have c4:=ab b7 0;have d9:Hid (∀ k,HG r K dN es fr er k->k≠c):=aa (fun k a=>by have:=bi.host.lt k a;omega);have c2:Hid (∀ k,LG n D G H dn dm u k->k≠c):=aa (fun k a=>by have:=(bi.law.low k a).2;omega);clear bi e9 eN b3 eo e4 cy di cs ev;go_enter func23,ntmps23
 rw [bo] at c4;go_wp2_with fail
 rw [<-bo] at c4 ⊢;clear bo;rw [<-gb.out];refine (is17 r R _ _ _ J cl.out.host.hh).mono ?_
 rintro e bz ⟨rfl,eS⟩;rw [eS];clear eS;have gr:=ab cv;clear c4;go_wp2_with fail
 refine d1.out.mono ?_
 rintro e bz ⟨rfl,bs⟩;obtain⟨d,ct⟩:∃ d,d=strOfNums (bY p.qs) ++ p.raw:=⟨_,rfl⟩;rw [<-ct];have hA:d.size<=47000:=by
  have I:=gO p.qs;have L:=gd.out;rw [ct,ByteArray.size_append,strOfNums_size];omega
 have ht:=aa ct;have hd:=gB p.cut ((d.size:Int)+1) (by omega);obtain⟨m,e2⟩:∃ m:Nat,bp p.cut ((d.size:Int)+1)=(m:Int):=⟨(bp p.cut ((d.size:Int)+1)).toNat,by omega⟩;have hF:m<=d.size:=by omega
 have e3:∀ w,Calls prog 24 #[.int .i64 p.cut,.int .i64 ((d.size:Int)+1)] w fun e w'=>e=.returned (.int .i64 m)/\w'=w:=fun w=>by
  rw [<-e2];exact pH p.cut ((d.size:Int)+1) w (by omega) (by omega) hm hn
 have ej:=aa e3;have c8:=(bs.block c (by omega)).trans cv;have ff:=(bs.block n (am b7)).trans b7;have dR:=cl.out.kept bs;have hH:=bs.size;have fU:=aa (d3.out.trans (bs.mono (lq eL d3.out.size)));have c5:=ab c8;clear gr ct e2 hd e3 bs;go_wp2_with fail
 refine (ej.out _).mono ?_
 rintro e bb ⟨rfl,eV⟩;rw [eV];clear eV;go_upto_region 5 with fail
 have b0:=aa (dR.kept (Below.refl _ bz).drew);have ha:=cl.out.law.bw b b5;have hI:(d.extract 0 m).size<=47000:=by rw [ByteArray.size_extract];omega
 have d0:=jdz r K nb R a1 blk cn dN base es fr er u p.conn p.now (d.extract 0 m) C bz.drew f7.out b0.out.host hc b0.out.law.bs gc.out b bv cp cq cF cG ha.1 (by rw [bN];omega);have d6:=aa d0;have Y:=ab ff 0;have a7:=c5 1;have c6:=c5 2;have f2:=aa c8;have ek:Hid (c<bz.drew.heap.size):=aa (by show c<bz.heap.size;omega);have hG:(m:Int)<=(d.size:Int):=by omega
 have hE:(0:Int)<=(m:Int):=by omega
 clear d0 c5 c8 dR ff cv b7;go_cut [9,10] (fun hl hi s=>∃ (z:Xs) (ao:List (Rq×Rp)) (cb:ByteArray),hl=.string cb/\cb=strOfNums (bG (mi (u b) (aD (d.extract 0 m)) ao))/\hi=.bool false/\(cI (co (cn.at (bud (-1) (-1))) p.now) ao z/\ao.map Prod.fst=jW (u b) (aD (d.extract 0 m))/\(∀ p∈ao,p.2.c=7->(C || false)=true)/\IvX (z.at (bu 4000000)) (C || false))/\∃ X ad Z,dC s base r K nb R n D G kc a1 blk H dn dm C (z.at (bu 4000000)) X ad 3 Z (fun l=>if l=b then gU (u b) (aD (d.extract 0 m)) else u l) cn dv u/\Below base bz s/\s.heap[c]?=some (oJ p.kind p.conn p.now (.slice a3 Q a9) p.raw p.cut p.left p.full p.kept p.part)/\(∀ k,HG r K X ad 3 Z k->k≠c))
 case first=>
  go_region_law (refine aO (by rfl) 14 sf _ _ (by rfl) #[pO r 0,.int .i64 p.conn,.int .u64 p.now,.string (d.extract 0 m),.int .i64 (-1),.int .i64 (-1),.int .i64 0,.int .i64 0] (by simp only [List.map_toArray,List.map_cons,List.map_nil];rfl) d6.out ?_;rintro e s ⟨z,ao,X,ad,Z,rfl,b6,O,_,x,U,g3⟩;refine⟨_,rfl,?_⟩;have c3:=aa b6;clear b6)
  all_goals (go_wp2_with fail;go_meet)
  all_goals (obtain⟨T,f⟩:=b0.out.fedh O x U g3;exact⟨z,ao,_,rfl,rfl,rfl,c3.out,X,ad,Z,T,⟨f.os,f.tape,f.output,f.size,f.block⟩,(x.block c ek.out (fun a=>d9.out c a rfl)).trans f2.out,fun k a=>(U k a).elim (d9.out k) (fun a=>by have:=ek.out;omega)⟩)
 case rest=>
  obtain⟨z,ao,cb,rfl,e6,rfl,fa,X,ad,Z,t,y,g,e0⟩:=hcut;have ci:=aa fa;have gg:=aa e6;clear fa e6;obtain⟨bb,fi⟩:∃ bb,bb=wc:=⟨_,rfl⟩;rw [<-fi] at t y g ⊢;clear fi Y a7 c6;have eb:=aa (t.kept (Below.refl _ bb).drew);obtain⟨hM,⟨_,_,_,hh,_⟩,_⟩:=t.law.blk;have Y:=ab g 1;have a7:=ab g 2;have fV:=aa (fU.out.trans (y.mono lz));have f3:=aa g;have c0:=aa e0;have d8:=aa (mZ base r n D G kc blk H dn dm C false (cn.at (bud (-1) (-1))) z ao dv u p.conn p.now b (d.extract 0 m) bb.drew (eb.out.law.at _) bv b5 cp cq cF cG (by omega) ci.out.1 ci.out.2.1 ci.out.2.2.1 cb gg.out);have el:Hid (c<bb.drew.heap.size):=aa (am g);clear t y g e0 hh;go_upto_region 6 with fail
  go_cut [11] (fun ds s=>ds=.bool true/\∃ V a6 a4,dC s base r K nb R n D G kc a1 blk H a4 V (C || false) (z.at (bu 4000000)) X ad 3 Z (fun l=>if l=b then gU (u b) (aD (d.extract 0 m)) else u l) z a6 (fun l=>if l=b then gU (u b) (aD (d.extract 0 m)) else u l)/\Below base bb s/\s.heap[c]?=some (oJ p.kind p.conn p.now (.slice a3 Q a9) p.raw p.cut p.left p.full p.kept p.part)/\(∀ k,LG n D G H a4 V (fun l=>if l=b then gU (u b) (aD (d.extract 0 m)) else u l) k->k≠c))
  case first=>
   go_region_law (refine aO (by rfl) 37 sj _ _ (by rfl) #[pO n 0,.int .i64 p.conn,.int .u64 p.now,.string (d.extract 0 m),.string cb,.bool false] (by simp only [List.map_toArray,List.map_cons,List.map_nil];rfl) d8.out ?_;rintro e s ⟨rfl,V,a6,a4,O,x,U⟩;refine⟨_,rfl,?_⟩)
   all_goals (go_wp2_with fail;go_meet)
   all_goals (obtain⟨T,f⟩:=eb.out.fedl O x U;exact⟨rfl,V,a6,_,T,⟨f.os,f.tape,f.output,f.size,f.block⟩,(x.block c el.out (fun a=>c2.out c a.lg rfl)).trans f3.out,fun k a=>(U k a).elim (c2.out k) (fun a=>by have:=el.out;omega)⟩)
  case rest=>
   obtain⟨rfl,V,a6,a4,t,y,g,df⟩:=hcut;obtain⟨a5,fl⟩:∃ a5,a5=wc:=⟨_,rfl⟩;rw [<-fl] at t y g ⊢;clear fl Y a7;have ef:=aa (t.kept (Below.refl _ a5).drew);obtain⟨hN,⟨_,_,_,dl,_⟩,_⟩:=t.law.blk;have f0:=aa (fV.out.trans (y.mono lz));have d4:=aa g;have f9:=aa df;obtain⟨E,c9⟩:∃ E:Nat->Cn,E=fun l=>if l=b then gU (u b) (aD (d.extract 0 m)) else u l:=⟨_,rfl⟩;have bj:Hid (dC a5.drew base r K nb R n D G kc a1 blk H a4 V (C || false) (z.at (bu 4000000)) X ad 3 Z E z a6 E):=aa (by rw [c9];exact ef.out);have ei:Hid (∀ k,LG n D G H a4 V E k->k≠c):=aa (by rw [c9];exact df);have hb:=bj.out.law.bw b b5;have hJ:(d.extract m d.size).size<=47000:=by rw [ByteArray.size_extract];omega
   have eB:=ci.out.2.2.2;obtain⟨A,M,cx⟩:∃ A M:Int,(b2=true/\A=p.left/\M=p.full)\/(b2=false/\A=-1/\M=-1):=by
    cases b2
    ·exact⟨-1,-1,ir ⟨rfl,rfl,rfl⟩⟩
    ·exact⟨p.left,p.full,il ⟨rfl,rfl,rfl⟩⟩
   obtain⟨N,b4⟩:∃ N,N=(decide (0<=A) || decide (0<=M)):=⟨_,rfl⟩;obtain⟨b8,e1⟩:∃ b8,b8=bud A M:=⟨_,rfl⟩;obtain⟨bk,c7⟩:∃ bk,bk=(0<=A):=⟨_,rfl⟩;obtain⟨a8,db⟩:∃ a8:Nat->Cn,a8=fun l=>if l=b then gU (E b) (aD (d.extract m d.size)) else E l:=⟨_,rfl⟩;have eQ:(0<=A/\N=true)\/(A<0/\0<=M/\N=true)\/(A<0/\M<0/\N=false):=by
    by_cases P:0<=A
    ·exact il ⟨P,by rw [b4];simp [P]⟩
    ·by_cases a2:0<=M
     ·exact ir (il ⟨by omega,a2,by rw [b4];simp [a2]⟩)
     ·exact ir (ir ⟨by omega,by omega,by rw [b4];simp [P,a2]⟩)
   have cV:=jdA p.kept p.part A M r K nb R a1 blk (z.at (bu 4000000)) X base ad 3 Z E p.conn p.now (d.extract m d.size) (C || false) a5.drew eB (by rcases cx with ⟨_,a,_⟩ | ⟨_,a,_⟩ <;> rw [a] <;> omega) (by rcases cx with ⟨_,_,a⟩ | ⟨_,_,a⟩ <;> rw [a] <;> omega) he bj.out.host lz bj.out.law.bs (fun a=>absurd a (by omega)) b bv cp cq cF cG hb.1 (by rw [bN];omega) N b4 b8 e1 bk (fun a=>by rw [c7];exact a)
   rw [<-db] at cV;have d7:=aa cV;have f5:=aa eQ;have c1:=aa cx;have go:Hid (bk->0<=A):=aa (fun a=>by rw [c7] at a;exact a);have f6:=aa db;have em:Hid (c<a5.drew.heap.size):=aa (am g);have eq:Hid (a5.drew.heap[n]?=_):=aa dl;have Y:=ab dl 0;have a7:=ab g 1;have c6:=ab g 2;have gs:=ab g 6;have gt:=ab g 7;have gv:=ab g 8;have gF:=ab g 9;clear t y g df dl c9 db cV ef f9 d6 d8 c2 cl ej d1 eB b4 eQ cx c7 e1;cases b2
   all_goals (
     rcases c1.out with ⟨a,I,L⟩ | ⟨a,I,L⟩
     all_goals cases a)
   all_goals (
     first
       | (have g0:A=M:=I.trans L.symm
          subst g0;have cc:=aa I;clear I L c1;go_upto_region 14 with fail
          rw [show Value.int .i64 (-1)=Value.int .i64 A from congrArg _ cc.out.symm])
       | (have cc:=aa I
          have fs:=aa L;clear I L c1;go_upto_region 14 with fail
          rw [<-cc.out,<-fs.out]))
   all_goals (
     go_cut [14,15] (fun hj hk s=>∃ (B:Xs) (av:List (Rq×Rp)) (bl:Bool) (cR:ByteArray),hj=.string cR/\cR=strOfNums (bG (mi (E b) (aD (d.extract m d.size)) av))/\hk=.bool bl/\(cI (co ((z.at (bu 4000000)).at b8) p.now) av B/\av.map Prod.fst=jW (E b) (aD (d.extract m d.size))/\(∀ p∈av,p.2.c=7->((C || false) || N)=true)/\IvX (B.at (bu 4000000)) ((C || false) || N))/\nX base r K nb R n D G kc a1 blk H a4 V (C || false) bk bl B a8 z a6 E s/\Below base a5 s/\s.heap[c]?=some (oJ p.kind p.conn p.now (.slice a3 Q a9) p.raw p.cut p.left p.full p.kept p.part))
     case first=>
       go_region_held3 (fun w'=>w'.cell? ⟨n,0,none⟩=some (.pointer (some ⟨r,0,none⟩))/\w'.cell? ⟨c,1,none⟩=some (.int .i64 p.conn)/\w'.cell? ⟨c,2,none⟩=some (.int .u64 p.now)/\w'.cell? ⟨c,8,none⟩=some (.int .i64 p.kept)/\w'.cell? ⟨c,9,none⟩=some (.int .i64 p.part)) (first | go_keep | (exact⟨gV,I,L,g1,g2⟩)) (first | (go_at_call 14;refine d7.out.mono ?_;rintro e s ⟨B,av,bl,rfl,b6,x,O⟩;have c3:=aa b6;have b0:=aa O;clear b6 O;have F:=(x.block c em.out (fun a=>c0.out c a rfl)).trans d4.out;have gV:=ab ((x.block n (am eq.out) (bj.out.dis n (il rfl))).trans eq.out) 0;have I:=ab F 1;have L:=ab F 2;have g1:=ab F 8;have g2:=ab F 9))
       all_goals (go_wp2_with fail;go_meet)
       all_goals (obtain⟨T,f⟩:=bj.out.mid x b0.out;exact⟨B,av,bl,_,rfl,rfl,rfl,c3.out,T,⟨f.os,f.tape,f.output,f.size,f.block⟩,(x.block c em.out (fun a=>c0.out c a rfl)).trans d4.out⟩)
     case rest=>
       obtain⟨B,av,bl,cR,rfl,e7,rfl,fb,t,y,g⟩:=hcut;have ck:=aa fb;have gl:=aa e7;clear fb e7;obtain⟨bd,fm⟩:∃ bd,bd=wc:=⟨_,rfl⟩;rw [<-fm] at t y g ⊢;clear fm Y a7 c6 gs gt gv gF;have b1:=aa (t.kept (Below.refl _ bd).drew);have Y:=ab g 1;have a7:=ab g 2;have d5:Hid (bd.drew.heap[c]?=_):=aa g;have en:Hid (c<bd.drew.heap.size):=aa (am g);have f1:=aa (f0.out.trans (y.mono lz));have bK:=aa (mZ base r n D G kc blk H a4 V (C || false) N ((z.at (bu 4000000)).at b8) B av a6 E p.conn p.now b (d.extract m d.size) bd.drew (b1.out.1.at _) bv b5 cp cq cF cG (by omega) ck.out.1 ck.out.2.1 ck.out.2.2.1 cR gl.out);rw [<-f6.out] at bK;clear t y g d7 bj c0;go_upto_region 15 with fail
       go_cut [11] (fun ds s=>ds=.bool true/\∃ a0 W bw,nX base r K nb R n D G kc a1 blk H bw a0 ((C || false) || N) bk bl B a8 B W a8 s/\Below base bd s/\s.heap[c]?=some (oJ p.kind p.conn p.now (.slice a3 Q a9) p.raw p.cut p.left p.full p.kept p.part))
       case first=>
         rcases f5.out with ⟨P,rfl⟩ | ⟨P,a2,rfl⟩ | ⟨P,a2,rfl⟩
         · obtain⟨hq,rfl⟩:∃ hp:Nat,A=Int.ofNat hp:=Int.eq_ofNat_of_zero_le P;clear P;refine wp_region_noPanic ?_
           refine wp_region_held_drew (S:=fun w'=>w'.cell? ⟨c,1,none⟩=some (.int .i64 p.conn)/\w'.cell? ⟨c,2,none⟩=some (.int .u64 p.now)) (by kernel_rfl) ?_ (fun g6=>?_)
           · (try dsimp only)
             go_keep
           refine bU (i:=0) (v:=?_) (some 90) rfl rfl (by kernel_rfl) (by kernel_rfl) (by kernel_rfl) (fun _ _ _ a=>a) (il ⟨by rfl,?_⟩) (by assumption) ?_
           rotate_left
           · intro w j;(try dsimp only at j)
             go_simp
             try with_reducible rfl
           simp only [Act.put,List.setIfInBounds_toArray,List.set_cons_zero,List.set_cons_succ];refine bU (i:=1) (v:=?_) (some 91) rfl rfl (by kernel_rfl) (by kernel_rfl) (by kernel_rfl) (fun _ _ _ a=>a) (il ⟨by rfl,?_⟩) (by assumption) ?_
           rotate_left
           · intro w j;(try dsimp only at j)
             go_simp
             try with_reducible rfl
           simp only [Act.put,List.setIfInBounds_toArray,List.set_cons_zero,List.set_cons_succ];refine bU (i:=2) (v:=?_) (some 92) rfl rfl (by kernel_rfl) (by kernel_rfl) (by kernel_rfl) (fun _ _ _ a=>a) (il ⟨by rfl,?_⟩) (by assumption) ?_
           rotate_left
           · intro w j;(try dsimp only at j)
             go_simp
             try with_reducible rfl
           simp only [Act.put,List.setIfInBounds_toArray,List.set_cons_zero,List.set_cons_succ];refine bU (i:=3) (v:=?_) (some 93) rfl rfl (by kernel_rfl) (by kernel_rfl) (by kernel_rfl) (fun _ _ _ a=>a) (il ⟨by rfl,?_⟩) (by assumption) ?_
           rotate_left
           · intro w j;(try dsimp only at j)
             go_simp
             try with_reducible rfl
           simp only [Act.put,List.setIfInBounds_toArray,List.set_cons_zero,List.set_cons_succ];refine bU (i:=4) (v:=?_) (some 94) rfl rfl (by kernel_rfl) (by kernel_rfl) (by kernel_rfl) (fun _ _ _ a=>a) (il ⟨by rfl,?_⟩) (by assumption) ?_
           rotate_left
           · intro w j;(try dsimp only at j)
             go_simp
             try with_reducible rfl
           simp only [Act.put,List.setIfInBounds_toArray,List.set_cons_zero,List.set_cons_succ];refine bU (i:=5) (v:=?_) (some 95) rfl rfl (by kernel_rfl) (by kernel_rfl) (by kernel_rfl) (fun _ _ _ a=>a) (il ⟨by rfl,?_⟩) (by assumption) ?_
           rotate_left
           · intro w j;(try dsimp only at j)
             go_simp
             try with_reducible rfl
           simp only [Act.put,List.setIfInBounds_toArray,List.set_cons_zero,List.set_cons_succ];refine bU (i:=6) (v:=?_) (some 96) rfl rfl (by kernel_rfl) (by kernel_rfl) (by kernel_rfl) (fun _ _ _ a=>a) (il ⟨by rfl,?_⟩) (by assumption) ?_
           rotate_left
           · intro w j;(try dsimp only at j)
             go_simp
             try with_reducible rfl
           simp only [Act.put,List.setIfInBounds_toArray,List.set_cons_zero,List.set_cons_succ];refine bU (i:=7) (v:=?_) (some 97) rfl rfl (by kernel_rfl) (by kernel_rfl) (by kernel_rfl) (fun _ _ _ a=>a) (il ⟨by rfl,?_⟩) (by assumption) ?_
           rotate_left
           · intro w j;(try dsimp only at j)
             go_simp
             try with_reducible rfl
           simp only [Act.put,List.setIfInBounds_toArray,List.set_cons_zero,List.set_cons_succ];refine bU (i:=8) (v:=?_) (some 98) rfl rfl (by kernel_rfl) (by kernel_rfl) (by kernel_rfl) (fun _ _ _ a=>a) (il ⟨by rfl,?_⟩) (by assumption) ?_
           rotate_left
           · intro w j;(try dsimp only at j)
             go_simp
             try with_reducible rfl
           simp only [Act.put,List.setIfInBounds_toArray,List.set_cons_zero,List.set_cons_succ];refine bU (i:=9) (v:=?_) (some 99) rfl rfl (by kernel_rfl) (by kernel_rfl) (by kernel_rfl) (fun _ _ _ a=>a) (il ⟨by rfl,?_⟩) (by assumption) ?_
           rotate_left
           · intro w j;(try dsimp only at j)
             go_simp
             try with_reducible rfl
           simp only [Act.put,List.setIfInBounds_toArray,List.set_cons_zero,List.set_cons_succ];refine bU (i:=10) (v:=?_) (some 100) rfl rfl (by kernel_rfl) (by kernel_rfl) (by kernel_rfl) (fun _ _ _ a=>a) (il ⟨by rfl,?_⟩) (by assumption) ?_
           rotate_left
           · intro w j;(try dsimp only at j)
             go_simp
             try with_reducible rfl
           simp only [Act.put,List.setIfInBounds_toArray,List.set_cons_zero,List.set_cons_succ];refine bU (i:=11) (v:=?_) (some 101) rfl rfl (by kernel_rfl) (by kernel_rfl) (by kernel_rfl) (fun _ _ _ a=>a) (il ⟨by rfl,?_⟩) (by assumption) ?_
           rotate_left
           · intro w j;(try dsimp only at j)
             go_simp
             try with_reducible rfl
           simp only [Act.put,List.setIfInBounds_toArray,List.set_cons_zero,List.set_cons_succ];refine bU (i:=12) (v:=undef) (some 102) rfl rfl (by kernel_rfl) (by kernel_rfl) (by kernel_rfl) (fun _ _ _ a=>a) (ir ⟨by rfl,rfl⟩) (by assumption) ?_
           simp only [Act.put,List.setIfInBounds_toArray,List.set_cons_zero,List.set_cons_succ];refine bU (i:=13) (v:=undef) (some 103) rfl rfl (by kernel_rfl) (by kernel_rfl) (by kernel_rfl) (fun _ _ _ a=>a) (ir ⟨by rfl,rfl⟩) (by assumption) ?_
           simp only [Act.put,List.setIfInBounds_toArray,List.set_cons_zero,List.set_cons_succ];refine bU (i:=14) (v:=?_) (some 104) rfl rfl (by kernel_rfl) (by kernel_rfl) (by kernel_rfl) (fun _ _ _ a=>a) (il ⟨by rfl,?_⟩) (by assumption) ?_
           rotate_left
           · intro w j;(try dsimp only at j)
             go_simp
             try with_reducible rfl
           simp only [Act.put,List.setIfInBounds_toArray,List.set_cons_zero,List.set_cons_succ];refine wpAnyH_ready (rs:=[15]) (by kernel_rfl) (by simp) ?_
           refine AllReadyH.cons (o:={ dst:=some 105,op:=Op.call { callee:=Callee.value (Operand.func 37),args:=#[Operand.tmp 90,Operand.tmp 92,Operand.tmp 94,Operand.tmp 97,Operand.tmp 98,Operand.tmp 104],argTypes:=#[56,3,23,9,9,4] },type:=4,pos:= "law.go:168",after:=#[{ on:=0,ground:=Ground.data },{ on:=2,ground:=Ground.data },{ on:=4,ground:=Ground.data },{ on:=7,ground:=Ground.data },{ on:=8,ground:=Ground.data },{ on:=14,ground:=Ground.data },{ on:=11,ground:=Ground.chain }],guard:=none }) rfl (fun gp eD=>?_) AllReadyH.nil
           go_simp
           go_at_call 37
           refine bK.out.mono ?_
           rintro e s ⟨rfl,a0,W,bw,O,x,U⟩;go_wp2_with fail
           have F:=(x.block c en.out (fun a=>ei.out c a.lg rfl)).trans d5.out;refine eD.out _ _ ⟨ab F 1,ab F 2⟩ (fun hz=>?_)
           clear eD gp g6;(try simp only [Act.put,List.setIfInBounds_toArray,List.set_cons_zero,List.set_cons_succ])
           refine bU (i:=16) (v:=?_) (some 11) rfl rfl (by kernel_rfl) (by kernel_rfl) (by kernel_rfl) (fun _ _ _ a=>a) (il ⟨by rfl,?_⟩) (by assumption) ?_
           rotate_left
           · intro w j;(try dsimp only at j)
             go_simp
             try with_reducible rfl
           (try simp only [Act.put,List.setIfInBounds_toArray,List.set_cons_zero,List.set_cons_succ])
           refine wpAnyH_done (by kernel_rfl) ?_ _
           refine NoPanic.normal ?_
           go_wp2_with fail
           go_meet
           obtain⟨T,f⟩:=b1.out.fedl O x U;exact⟨rfl,a0,W,_,T,⟨f.os,f.tape,f.output,f.size,f.block⟩,F⟩
         all_goals (
           obtain⟨hq,rfl⟩:=Int.eq_negSucc_of_lt_zero P;first
             | (exfalso;omega)
             | (obtain⟨hr,rfl⟩:=Int.eq_negSucc_of_lt_zero a2)
             | (obtain⟨hr,rfl⟩:=Int.eq_ofNat_of_zero_le a2)
             | skip
           all_goals (
             try clear a2
             clear P;go_region_held3 (fun w'=>w'.cell? ⟨c,1,none⟩=some (.int .i64 p.conn)/\w'.cell? ⟨c,2,none⟩=some (.int .u64 p.now)) (first | go_keep | (exact⟨I,L⟩)) (first | (go_at_call 37;refine bK.out.mono ?_;rintro e s ⟨rfl,a0,W,bw,O,x,U⟩;have F:=(x.block c en.out (fun a=>ei.out c a.lg rfl)).trans d5.out;have I:=ab F 1;have L:=ab F 2))
             all_goals (go_wp2_with fail;go_meet)
             all_goals (obtain⟨T,f⟩:=b1.out.fedl O x U;exact⟨rfl,a0,W,_,T,⟨f.os,f.tape,f.output,f.size,f.block⟩,F⟩)))
       case rest=>
         obtain⟨rfl,a0,W,bw,t,y,g⟩:=hcut;obtain⟨bF,fn⟩:∃ bF,bF=wc:=⟨_,rfl⟩;rw [<-fn] at t y g ⊢;clear fn Y a7;have cX:=aa (f1.out.trans (y.mono lz));obtain⟨hO,⟨_,_,_,cz,_⟩,_⟩:=t.1.blk;have eg:=aa ck.out.2.2.2;obtain⟨cw,⟨rfl,fv,gR,gN,cr,et⟩ | ⟨rfl,fo,gq,fz,ey,eF,ez⟩⟩:=t
         · obtain⟨hR,hP,hQ,dk⟩:=cr.host.hs.mem;rw [show (B.at (bu 4000000)).L.adm=B.L.adm from rfl] at dk;have ch:=aa cr;have f4:=aa et;have fD:=aa (kV r R _ _ _ _ _ _ _ _ _ _ bF cr.host.hh dk);have Y:=ab cz 0;have hw:=ab cz 22;clear cr et cw y cz dk bK b1 g;go_wp2_with fail
           refine fD.out.mono ?_
           rintro e ho ⟨rfl,eX⟩;rw [eX];clear eX;go_wp2
           go_ret
           refine⟨rfl,⟨K,nb,R,D,G,kc,a1,H,bw,a0,_,B.at (bu 4000000),fv,gR,3,gN,a8,W,lz,fun a=>absurd a (by omega),⟨ch.out.host,ch.out.law.at _,ch.out.dis,ch.out.wait⟩,eg.out,f4.out⟩,cX.out⟩
         · have hK:=go.out fo;have eE:KX base blk r n bF:=⟨bF,D,G,kc,H,bw,a0,_,B,_,gq,fz,a8,W,ey,cw.bs,cw,ir ⟨rfl,eF⟩,eg.out.1,ez⟩;have fN:=aa (d2.out bF eE cX.out);have k:=ab g;clear eE ey eF ez cw y cz bK b1 g fo;first
             | (exfalso;have:=cc.out;omega)
             | (go_wp2_with fail
                refine fN.out.mono ?_
                rintro e ho ⟨rfl,dd,g7⟩;go_wp2
                go_ret
                exact⟨rfl,dd,cX.out.trans g7⟩))
end Go.Proofs.YtnlgndpcddngoaaGreatDoor
