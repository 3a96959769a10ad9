import Derived.Test.YtnlgndpcddngoaaGreatDoorZ11
import Derived.Test.YtnlgndpcddngoaaGreatDoorZ26
import Derived.Test.YtnlgndpcddngoaaGreatDoorZ27
import Derived.Test.YtnlgndpcddngoaaGreatDoorZ28
import Derived.Test.YtnlgndpcddngoaaGreatDoorZ30
import Derived.Test.YtnlgndpcddngoaaGreatDoorZ34
set_option linter.all false
set_option maxRecDepth 100000
set_option maxHeartbeats 8000000
namespace Go.Proofs.YtnlgndpcddngoaaGreatDoor
open Go.Proofs.Tryz Go.RowKit Go.Maps
variable [dK] [iK]
theorem jeJ (a g base:Nat)(J O P Q b2 b3 b7 b8 b9 cb cc ch ci ck b4 b5 b6 cF cG least av:Value)(m:Bool)(B:Bk)(q:Rq)(w:World)(F:w.heap[a]?=some (.cells #[O,.pointer (some ⟨g,0,none⟩),P,Q,.bool true,.bool m,b2,b3,b7,b8,b9,cb,cc,ch,ci,ck,b4,b5,b6,cF,cG,least,av] 67))(i:an w g base J B)(cn:B.ok)(cs:B.ls.length<=12)(cw:q.ok)(C:q.op∈[1,2,4,5])(a1:Bk)(c:Rp)(cv:bB B q=(a1,c))(V:c.c=1\/c.c=2) :
  Calls prog 87 #[pO a 0,oj q,Ok] w fun e w'=>e=.returned (.bool true)/\(m=true->w'.heap[a]?=w.heap[a]?)/\(m=false->w'.heap[a]?=some (uy O g P Q q c.a c.b least av))/\ae (fun b=>b=a) w w':=by
 have cX:(q.op==3)=false:=by rw [beq_eq_false_iff_ne];simp at C;omega
 have c0:(q.op==6)=false:=by rw [beq_eq_false_iff_ne];simp at C;omega
 go_enter func87,ntmps87
 obtain⟨d,p⟩:∃ d,d=(w.alloc (oh q)).alloc (uo):=⟨_,rfl⟩;have j:B7 w d:=p▸(ba w).alloc (by simp) _;have D:d.heap[w.heap.size]?=some (oh q):=p▸aB (af _ _) _;have Z:d.heap[w.heap.size+1]?=some (uo):=p▸aC (by simp);have G:=(j.block a (am F)).trans F;have W:an d g base J B:=⟨(j.block g (am i.hb)).trans i.hb,aq i.ho (fun cl m=>j.block cl (aj i.ho m).2)⟩;have a7:=ab D;have a8:=ab Z;have a9:=ab G;have a3:=aa W;have u:=aa D;have x:=aa G;have a4:=aa j;have c4:=j.size;clear D Z G j W;go_upto_region 1 with fail
 rw [<-p];clear p;go_wp2_with fail
 refine (jp g base J B d a3.out cs).mono ?_
 rintro e a0 ⟨y,I,rfl,R,c1,l⟩;have c3:=l.size;have z:an a0 y d.heap.size I B:=R;have o:=qb y d.heap.size I B q a0 z cn cw (by simp at C ⊢;omega) l.size;unfold aQ at o;rw [cv] at o;dsimp only at o;have a2:=aa o;clear o;have E:=(l.block w.heap.size (am u.out)).trans u.out;have ao:=(l.block a (am x.out)).trans x.out;have t:Hid (∀ b,b<d.heap.size->¬(b=y\/I.ownBlock=some b)):=aa (fun b cp cr=>cr.elim (fun e=>by omega) (fun e=>by have:=(aj z.ho e).1;omega));have L:=aa l;have bb:=ab E;have a5:=aa E;have a6:=aa ao;clear R l z E ao a7 a8 a9;go_wp2_with fail
 refine a2.out.mono ?_
 rintro e K ⟨c5,rfl,cq,r,ct⟩;have c2:=L.out.size;have lq:=am u.out;have cx:=am x.out;have X:=(r.block w.heap.size (by omega) (t.out _ lq)).trans a5.out;have H:=(r.block a (by omega) (t.out _ cx)).trans a6.out;have T:ae (fun b=>b=a) w K:=((ae.of_below a4.out).trans (ae.of_below L.out)).then r (fun b cp i=>absurd i (t.out b (by omega)));obtain⟨f,k⟩:∃ f,f=K.alloc (oI c.c c.a c.b):=⟨_,rfl⟩;have Y:f.heap[w.heap.size]?=_:=k▸aB X _;have s:f.heap[a]?=_:=k▸aB H _;obtain⟨n,A⟩:∃ n,n=K.heap.size:=⟨_,rfl⟩;have ad:f.heap[n]?=some (oI c.c c.a c.b):=by rw [A,k];exact af _ _
 have U:ae (fun b=>b=a) w f:=k▸T.alloc _;have cy:¬w.heap.size=a:=by have:=am F;omega
 have c6:¬a=w.heap.size:=fun e=>cy e.symm;have cz:¬n=a:=by have:=am H;omega
 have c7:¬a=n:=fun e=>cz e.symm;have bb:=ab Y;have cR:=ab s;have cU:=ag s;have cV:=ab ad;have M:=aa U;have N:=aa s;clear cq r ct X H T Y s ad U;go_upto_region 5 with fail
 rw [<-k,<-A];clear k A;cases m with
 | true=>
  rcases V with e | e
  all_goals (
    go_wp2_with fail
    exact bodyPost_ret (v:=.bool true) (by simp [results,results87,go_sem]) rfl ⟨rfl,N.out,M.out⟩)
 | false=>
  rcases V with e | e
  all_goals (
    go_wp2_with fail
    have bz:=ai N.out 5 (.bool true);have bF:=ai bz 6 (.int .u8 q.op);have bK:=ai bF 7 (.int .u8 q.k0);have b0:=ai bK 8 (.int .u8 q.k1);have b1:=ai b0 9 (.int .u8 q.k2);have bd:=ai b1 10 (.int .u8 q.k3);have bg:=ai bd 11 (.int .u8 q.k4);have bi:=ai bg 12 (.int .u8 q.k5);have bj:=ai bi 13 (.int .u8 q.k6);have bk:=ai bj 14 (.int .u8 q.k7);have bl:=ai bk 15 (.int .u8 q.kd);have bo:=ai bl 16 (.int .u64 q.x);have bs:=ai bo 17 (.int .u64 q.y);have bu:=ai bs 18 (.int .u64 q.n);have bv:=ai bu 19 (.int .u64 c.a);have bw:=ai bv 20 (.int .u64 c.b);refine bodyPost_ret (v:=.bool true) (by simp [results,results87,go_sem]) rfl ⟨rfl,by simpa using bw,?_⟩
    repeat refine ae.set (S:=fun b=>b=a) (b:=a) ?_ (il rfl) _ _
    exact M.out)
theorem ans7 (a f base:Nat)(x p r s z A F G H I J K L M C D E V W least u:Value)(g:Bool)(B:Bk)(q:Rq)(w:World)(l:w.heap[a]?=some (.cells #[p,.pointer (some ⟨f,0,none⟩),r,s,.bool true,.bool g,z,A,F,G,H,I,J,K,L,M,C,D,E,V,W,least,u] 67))(d:an w f base x B)(N:B.ok)(av:B.ls.length<=12)(S:q.ok)(Q:q.op∈[1,2,4,5])(y:Bk)(i:Rp)(R:bB B q=(y,i))(O:i.c=1\/i.c=2) :
  Calls prog 57 #[pO a 0,oj q,Ok] w fun e w'=>e=.returned (.bool true)/\(g=true->w'.heap[a]?=w.heap[a]?)/\(g=false->w'.heap[a]?=some (uy p f r s q i.a i.b least u))/\ae (fun b=>b=a) w w':=by
 obtain⟨c,k⟩:∃ c,c=(w.alloc (oh q)).alloc (uo):=⟨_,rfl⟩;have j:B7 w c:=k▸(ba w).alloc (by simp) _;have T:c.heap[w.heap.size]?=some (oh q):=k▸aB (af _ _) _;have U:c.heap[w.heap.size+1]?=some (uo):=k▸aC (by simp);have t:=(j.block a (am l)).trans l;have P:an c f base x B:=⟨(j.block f (am d.hb)).trans d.hb,aq d.ho (fun ao g=>j.block ao (aj d.ho g).2)⟩;have Z:=aa (jeJ a f base x p r s z A F G H I J K L M C D E V W least u g B q c t P N av S Q y i R O);have X:=aa j;have ad:=aa (t.trans l.symm);have a0:=ab T;have a1:=ab U;clear T U t j P l d N S Q R O;go_enter func57,ntmps57
 go_upto_region 1 with fail
 rw [<-k];clear k;go_wp2_with fail
 refine Z.out.mono ?_
 rintro e a2 ⟨rfl,m,n,o⟩;have Y:=aa (aN m (aN n o));clear m n o;go_wp2
 refine bodyPost_ret (v:=.bool true) (by simp [results,results57,go_sem]) rfl ?_
 obtain⟨m,n,o⟩:=Y.out;exact⟨rfl,fun d=>(m d).trans ad.out,n,(ae.of_below X.out).trans o⟩
theorem qx {P:World->Nat->(NP)->Prop}(f:jS P)(d:Int)(c:Nat)(b adm blk:Int)(a:Es)(F:NP)(q:Rq)(w:World)(j:q.op=3)(l:q.ok)(m:U7 b)(k:eJ a)(i:az P w d c b adm blk a F) :
  (aS ⟨b,adm,stands a⟩ q).1=⟨b,adm,stands a⟩/\Calls prog 74 #[pO c 0,oj q] w fun e w'=>e=.returned (ot (aS ⟨b,adm,stands a⟩ q).2.c (aS ⟨b,adm,stands a⟩ q).2.a (aS ⟨b,adm,stands a⟩ q).2.b)/\cB w F w' (fun w F=>az P w d c b adm blk a F):=
 ⟨(qR f d c b adm blk a F q w j l m k i).1,jai c (fun g=>az P g d c b adm blk a F) _ (az.pp f d c b adm blk a) F q _ _ _ w j (aa (fun g o=>i.below f o lz)) i.lt (aa (fun g n=>(qR f d c b adm blk a F q g j l m k n).2))⟩
theorem qw {P:World->Nat->(NP)->Prop}(i:jS P)(d:Int)(c:Nat)(a adm blk:Int)(b:Es)(F:NP)(q:Rq)(w:World)(l:q.op=6)(k:az P w d c a adm blk b F) :
  aS ⟨a,adm,stands b⟩ q=(⟨a,adm,stands b⟩,⟨1,a,0⟩)/\Calls prog 74 #[pO c 0,oj q] w fun e w'=>e=.returned (us a)/\cB w F w' (fun w F=>az P w d c a adm blk b F):=by
 refine⟨?_,jah c (fun f=>az P f d c a adm blk b F) _ (az.pp i d c a adm blk b) F q w l a (aa (fun f g=>?_)) (aa (fun f r g j=>g.below i j lz)) (aa (fun f j=>k.below i j lz)) k.lt⟩
 ·unfold aS;rw [if_neg (by omega),if_neg (by omega),if_neg (by omega),if_neg (by omega),if_pos l]
 ·obtain⟨p,o,n,m,_⟩:=g.mem;exact⟨_,_,_,_,_,_,m⟩
theorem mW {P:World->Nat->(NP)->Prop}(f:jS P)(d:Int)(c:Nat)(b adm blk:Int)(a:Es)(F:NP)(q:Rq)(w:World)(i:q.op=1)(l:q.ok)(g:az P w d c b adm blk a F)(k:¬defB ⟨b,adm,stands a⟩ q) :
  (aS ⟨b,adm,stands a⟩ q).1=⟨b,adm,stands a⟩/\(aS ⟨b,adm,stands a⟩ q).2.c≠1/\Calls prog 74 #[pO c 0,oj q] w fun e w'=>e=.returned (ot (aS ⟨b,adm,stands a⟩ q).2.c (aS ⟨b,adm,stands a⟩ q).2.a (aS ⟨b,adm,stands a⟩ q).2.b)/\cB w F w' (fun w F=>az P w d c b adm blk a F):=
 ⟨(jw f d c b adm blk a F q w i l g k).1,(jw f d c b adm blk a F q w i l g k).2.1,kO c (fun j=>az P j d c b adm blk a F) _ (az.pp f d c b adm blk a) F q _ _ _ w i (aa (fun j n=>g.below f n lz)) g.lt (aa (fun j m=>(jw f d c b adm blk a F q j i l m k).2.2.2))⟩
theorem mX {P:World->Nat->(NP)->Prop}(f:jS P)(d:Int)(b:Nat)(c adm blk:Int)(a:Es)(F:NP)(q:Rq)(w:World)(j:q.op=4)(l:q.ok)(i:az P w d b c adm blk a F)(k:aZ q.key (stands a)=none) :
  aS ⟨c,adm,stands a⟩ q=(⟨c,adm,stands a⟩,⟨4,0,0⟩)/\Calls prog 74 #[pO b 0,oj q] w fun e w'=>e=.returned (OP)/\cB w F w' (fun w F=>az P w d b c adm blk a F):=
 ⟨(nx f d b c adm blk a F q w j l i k).1,iu b (fun g=>az P g d b c adm blk a F) _ (az.pp f d b c adm blk a) F q _ _ _ w j (aa (fun g n=>i.below f n lz)) i.lt (aa (fun g m=>(nx f d b c adm blk a F q g j l m k).2))⟩
theorem jfj {P:World->Nat->(NP)->Prop}(k:jS P)(m:Int)(f:Nat)(o adm blk:Int)(i:Es)(F:NP)(n c a b:Int)(w:World)(g:az P w m f o adm blk i F) :
  Calls prog 110 #[pO f 0,.int .u64 n,ot c a b] w fun e w'=>e=.returned (ot c a b)/\cB w F w' (fun w F=>az P w m f o (if c=2 then (adm+n) % 18446744073709551616 else adm) blk i F):=by
 obtain⟨t,s,r,l,_⟩:=g.mem;by_cases d:c=2
 ·subst d;rw [if_pos rfl];refine (nM f _ _ _ _ _ _ adm n ((adm+n) % 18446744073709551616) _ _ (by rw [IntKind.wrap_u64]) w l).mono ?_
  rintro e w' ⟨rfl,p,j⟩;refine⟨rfl,F,g.serve k (fun u v d=>?_) j,j.mono (fun b e _=>e▸g.own),fun _ d=>il d⟩
  rw [l] at d;simp at d;obtain⟨rfl,rfl⟩:=d;exact p
 ·rw [if_neg d];refine (lR f n c a b (by simpa using d) w).mono ?_
  rintro e w' ⟨rfl,q⟩;exact⟨rfl,g.out k q⟩
theorem iM {P:World->Nat->(NP)->Prop}(l:jS P)(f:Int)(d:Nat)(g adm blk:Int)(k j:Es)(F:NP)(q:Rq)(c a b:Int)(w:World)(r:q.op=2)(n:az P w f d g adm blk k F)
  (m:∀ i,az P i f d g adm blk k F->Calls prog 111 #[pO d 2,oE q.k0 q.k1 q.k2 q.k3 q.k4 q.k5 q.k6 q.k7,.int .u64 q.n] i fun e w'=>e=.returned (ot c a b)/\cB i F w' (fun w F=>az P w f d g adm blk j F)) :
  Calls prog 74 #[pO d 0,oj q] w fun e w'=>e=.returned (ot c a b)/\cB w F w' (fun w F=>az P w f d g (if c=2 then (adm+q.n) % 18446744073709551616 else adm) blk j F):=
 mY d (fun i=>az P i f d g adm blk k F) (fun w F=>az P w f d g adm blk j F) _ (az.pp l f d g _ blk j) F q c a b w r (aa (fun i m=>n.below l m lz)) n.lt (aa m) (aa (fun i o p=>jfj l f d g adm blk j o q.n c a b i p))
theorem jq {P:World->Nat->(NP)->Prop}(s:jS P)(j:Int)(d:Nat)(f adm blk:Int)(a:Es)(F:NP)(q:Rq)(w:World)(C:q.op=1)(D:q.ok)(r:az P w j d f adm blk a F)(A:defB ⟨f,adm,stands a⟩ q)(m k l:Int){g:World->(NP)->Prop}(t:PP g)
  (z:∀ c i,az P c j d f adm blk a F->aH c i (aJ q.key ((⟨q.kd,q.x,q.y,0,0⟩:Qt),(⟨q.kd,q.x,q.y,0,0⟩:Qt)) a)->¬F i->Calls prog 134 #[pO d 2,.map (some i),oS] c fun e w'=>e=.returned (ot m k l)/\∃ p,g w' p/\ae F c w'/\∀ b,p b->F b\/c.heap.size<=b\/b=i) :
  Calls prog 74 #[pO d 0,oj q] w fun e w'=>e=.returned (ot m k l)/\cB w F w' g:=by
 obtain⟨v,x,y⟩:=A;have B:a.length<12:=by have:=dF a;have:(stands a).length<12:=y;omega
 refine kO d (fun c=>az P c j d f adm blk a F) g t F q m k l w C (aa (fun c o=>r.below s o lz)) r.lt (aa (fun c n=>?_))
 obtain⟨H,J,I,E,G,_⟩:=n.mem;exact wJ d H _ _ _ _ f blk a q.key c E G D.key q.kd q.x q.y v (ee x) B m k l (fun u=>az P u j d f adm blk a F) g t F (aa (fun u o=>n.below s o lz)) n.lt (aa z)
theorem kM {P:World->Nat->(NP)->Prop}(D:jS P)(r:Int)(d:Nat)(c adm blk:Int)(f:Es)(F:NP)(q:Rq)(w:World)(U:q.op=2)(n:q.ok)(o:U7 c)(Q:U7 blk)(E:eJ f)(C:az P w r d c adm blk f F)(z s:Qt)(G:ar q.key f=some (z,s))(S:kA z c q.n)(R:cT s (aI z c q.n).1=false)(k i j:Int){g Post2:World->(NP)->Prop}(M:PP g)(N:PP Post2)(O:∀ w l,g w l->w.cell? ⟨d,3,none⟩=some (.int .u64 blk))
  (L:∀ a y,g a y->Calls prog 110 #[pO d 0,.int .u64 q.n,ot k i j] a fun e w'=>e=.returned (ot k i j)/\cB a y w' Post2)
  (B:∀ a p,az P a r d c adm blk f F->aH a p (aJ q.key ((aI z c q.n).1,bA (aI z c q.n).1 blk) f)->¬F p->Calls prog 134 #[pO d 2,.map (some p),Oi (aI z c q.n).2.a (aI z c q.n).2.b] a fun e w'=>e=.returned (ot k i j)/\∃ l,g w' l/\ae F a w'/\∀ b,l b->F b\/a.heap.size<=b\/b=p) :
  Calls prog 74 #[pO d 0,oj q] w fun e w'=>e=.returned (ot k i j)/\cB w F w' Post2:=by
 have I:z.ok:=E.qt _ (aR G);obtain⟨A,K,av⟩:=jZ z c q.n I o.1 o.2 n.n.1;have H:=fun a=>iz z c q.n a I o.1 o.2 n.n.1 n.n.2 _ rfl;have v:=fun a=>vX s (aI z c q.n).1 a;obtain⟨m,T⟩:=S;rw [R] at v;generalize aI z c q.n=zr at H m v B A K;obtain⟨x,ad,Y,Z⟩:=zr;have m:ad=2:=m;subst m;refine mY d (fun a=>az P a r d c adm blk f F) g Post2 N F q k i j w U (aa (fun a u=>C.below D u lz)) C.lt (aa (fun a t=>?_)) (aa L)
 obtain⟨X,a0,ao,V,W,_⟩:=t.mem;exact qd d X _ _ _ _ c blk f q.key a V W n.key z s G q.n x Y Z (aa H) T E.len (aa v) (bA x blk) (aa (fun a=>tB x blk a A Q)) k i j (fun J=>az P J r d c adm blk f F) g M F O (aa (fun J u=>t.below D u lz)) t.lt (aa B)
theorem ct7 {c:World->(NP)->Prop}(i:PP c)(j:Nat)(n:Int)(a:World)(b:NP)(g:c a b):Calls prog 110 #[pO j 0,.int .u64 n,Ok] a fun e w'=>e=.returned (Ok)/\cB a b w' c:=by
 refine (lR j n 7 0 0 (by simp) a).mono ?_
 rintro e w' ⟨rfl,d⟩;exact⟨rfl,b,i.kept g d.size (fun f l=>d.block f (i.lt g f l)),ae.of_below d,fun _ k=>il k⟩
theorem jag {P:World->Nat->(NP)->Prop}(o:jS P)(j:Int)(d:Nat)(g adm blk:Int)(c:Es)(F:NP)(q:Rq)(w:World)(x:q.op=4)(y:q.ok)(r:eJ c)(n:az P w j d g adm blk c F)(z t:Qt)(v:ar q.key c=some (z,t)){f:World->(NP)->Prop}(p:PP f)
  (u:∀ a i,az P a j d g adm blk c F->aH a i (br q.key c)->¬F i->Calls prog 134 #[pO d 2,.map (some i),oS] a fun e w'=>e=.returned (oS)/\∃ m,f w' m/\ae F a w'/\∀ b,m b->F b\/a.heap.size<=b\/b=i) :
  Calls prog 74 #[pO d 0,oj q] w fun e w'=>e=.returned (oS)/\cB w F w' f:=by
 refine iu d (fun a=>az P a j d g adm blk c F) f p F q 1 0 0 w x (aa (fun a l=>n.below o l lz)) n.lt (aa (fun a k=>?_))
 obtain⟨C,E,D,A,B,_⟩:=k.mem;exact rZ d C _ _ _ _ g blk c q.key a A B y.key z t v (fun s=>az P s j d g adm blk c F) f p F r.nd r.len (aa (fun s l=>k.below o l lz)) k.lt (aa u)
theorem mU {P:World->Nat->(NP)->Prop}(y:jS P)(p:Int)(a:Nat)(n adm blk:Int)(i:Es)(F:NP)(q:Rq)(w:World)(U:q.op=4)(V:q.ok)(D:eJ i)(x:az P w p a n adm blk i F)(z N:Qt)(S:ar q.key i=some (z,N)){m Post2:World->(NP)->Prop}(A:PP m)(B:PP Post2)(C:∀ w c,m w c->∃ g G H I J K L,w.heap[a]?=some (.cells #[G,H,I,J,.map (some g),K,L] 130)/\aH w g i/\c a)(R:∀ w w' g c,m w c->w.cell? ⟨a,4,none⟩=some (.map (some g))->aH w' g (aJ q.key (z,⟨0,0,0,0,0⟩) i)->ae (fun b=>b=g) w.drew w'->Post2 w' c)
  (Q:∀ d l,az P d p a n adm blk i F->aH d l (br q.key i)->¬F l->Calls prog 134 #[pO a 2,.map (some l),oS] d fun e w'=>e=.returned (Ok)/\∃ c,(m w' c/\w'.heap[a]?=d.heap[a]?)/\ae F d w'/\∀ b,c b->F b\/d.heap.size<=b\/b=l) :
  Calls prog 74 #[pO a 0,oj q] w fun e w'=>e=.returned (Ok)/\cB w F w' Post2:=by
 refine iu a (fun d=>az P d p a n adm blk i F) Post2 B F q 7 0 0 w U (aa (fun d k=>x.below y k lz)) x.lt (aa (fun d o=>?_))
 obtain⟨g,a0,av,u,W,a1,a2,a3,X,_⟩:=o.mem;have a4:=o.own;refine mr a g _ _ _ _ n blk i q.key d u W V.key z N S (fun j=>az P j p a n adm blk i F/\j.heap[a]?=d.heap[a]?) (fun w c=>m w c/\w.cell? ⟨a,4,none⟩=some (.map (some g))) ⟨fun f t k=>?_,fun f=>A.lt f.1⟩ Post2 B (fun j c f=>?_) (fun j M c f s T=>R j M g c f.1 f.2 s T) F X D.nd D.len (aa (fun j k=>⟨o.below y k lz,k.block a (am u)⟩)) o.lt (aa (fun j l v O r=>?_))
 ·obtain⟨E,_,_,_,_,_,_,_,_,r⟩:=C _ _ f.1;exact⟨A.kept f.1 t k,(World.cell?_of_block (k a r)).trans f.2⟩
 ·obtain⟨E,G,H,I,J,K,L,t,s,_⟩:=C _ _ f.1;have e:=f.2;rw [ab t 4] at e;have:E=g:=by simpa using e
  subst this;exact⟨f.2,s⟩
 ·refine (Q j l v.1 O r).mono ?_
  rintro e M ⟨rfl,c,⟨Y,Z⟩,ad,ao⟩;refine⟨rfl,c,⟨Y,?_⟩,ad,ao⟩
  rw [World.cell?_of_block (w:=d) (Z.trans v.2),ab u 4];rfl
structure Xs where
 L:Ld
 D:Dx
 ill:Option jI
 k:Bu
def eI (L:Ld)(q:Rq):Qt:=match aZ q.key L.ks with
 | some a=>(aI a L.time q.n).1
 | none=>⟨0,0,0,0,0⟩
def cP (L:Ld)(q:Rq):Prop:=q.op≠3/\q.op≠6/\((aS L q).2.c=1\/(aS L q).2.c=2)
def ea (X:Xs)(q:Rq)(X':Xs)(a:Rp):Prop:=match X.ill with
 | none=>(X'=⟨(aS X.L q).1,gm X.D X.L q,none,X.k.dn 4⟩/\a=(aS X.L q).2)\/(cP X.L q/\a=⟨7,0,0⟩/\X'=⟨X.L,⟨X.D.t,false⟩,some ⟨q,eI X.L q⟩,X.k⟩/\(X.k.l<4\/X.k.f<4))
 | some b=>(cP X.L q/\a=⟨7,0,0⟩/\X'=X)\/(X'=⟨(aS X.L q).1,X.D,some b,X.k⟩/\a=(aS X.L q).2/\eh q (aS X.L q).2=false)
def da (db:Nat)(blk:Int)(w:World)(i:Int)(g:Nat)(L:Ld)(D:Dx)(φ:jI)(k:Bu)(F:NP):Prop:=∃ (e:List Ky) (b:Es) (c f:Fs) (d:Pd) (a:Bool),stands b=L.ks/\((U7 L.time)/\(U7 L.adm)/\(U7 blk)/\0<=D.t)/\cY D.t L.time blk φ e b c d/\((a=false->∀ j,Sm (vT d j c) f)/\(a=true->k.l<4))/\az (ed db c f d a) w i g L.time L.adm blk (msk e b) F
def bH (db:Nat)(blk:Int)(w:World)(b:Int)(a:Nat)(X:Xs)(F:NP):Prop:=match X.ill with
 | none=>aU db blk X.D X.k w b a X.L F
 | some c=>da db blk w b a X.L X.D c X.k F
theorem da.kept {db:Nat}{blk:Int}{w w':World}{c:Int}{a:Nat}{L:Ld}{D:Dx}{φ:jI}{k:Bu}{F:NP}(j:da db blk w c a L D φ k F)(r:w.heap.size<=w'.heap.size)(q:∀ b,F b->w'.heap[b]?=w.heap[b]?):da db blk w' c a L D φ k F:=by
 obtain⟨d,f,g,i,s,e,l,m,n,o,p⟩:=j;exact⟨d,f,g,i,s,e,l,m,n,o,p.kept ed.fra r q⟩
theorem da.lt {db:Nat}{blk:Int}{w:World}{e:Int}{d:Nat}{L:Ld}{D:Dx}{φ:jI}{k:Bu}{F:NP}(a:da db blk w e d L D φ k F):∀ b,F b->b<w.heap.size:=by
 obtain⟨f,i,j,l,q,g,m,n,o,p,c⟩:=a;exact c.lt
theorem jfX {z:Qt}{b n:Int}(f:z.ok)(q:0<=b)(l:0<=n)(d:kA z b n):1<=(aI z b n).1.lv:=by
 obtain⟨a,g⟩:=d;have k:=f.lv;unfold aI at a ⊢;by_cases e:z.kd=1
 ·rw [if_pos e] at a ⊢;have m:1<=z.x:=by rcases f.kd with d | d <;> omega
  have p:0<=bn z b:=by unfold bn;split <;> omega
  unfold mo at a ⊢;rw [if_neg g] at a ⊢;split at a
  ·simp at a
  rename_i c
  rw [if_neg c];split at a
  ·simp at a
  rename_i i
  rw [if_neg i];split at a
  ·simp at a
  rename_i j
  rw [if_neg j];show 1<=bn z b+n * z.x;have:1 * 1<=n * z.x:=Int.mul_le_mul (by omega) m (by omega) l;omega
 ·rw [if_neg e] at a ⊢;have o:0<=(aG z b).lv:=by
   unfold aG;rw [if_neg e];split
   ·exact k.1
   ·simp
  unfold nZ at a ⊢;split at a
  ·rename_i c
   rw [if_pos c];show 1<=(aG z b).lv+n;omega
  ·rename_i c
   rw [if_neg c];split at a <;> simp at a
theorem vp {blk:Int}{z d:Qt}{c n:Int}(a:gL blk z d)(l:z.ok)(k:0<=n)(j:kA z c n)(b:cT d (aI z c n).1=true):gL blk (aI z c n).1 d:=by
 obtain⟨e,f,g,p,i,q⟩:=ij z c n l k j.1;unfold cT at b;simp at b;refine⟨a.ok,a.kd.trans e.symm,a.x.trans f.symm,a.y.trans g.symm,b.1.symm,b.2,?_⟩
 have m:=i (b.1.trans a.wn);have o:=a.up;omega
theorem ea.sim {d:Int}{X X':Xs}{B:Bk}{q:Rq}{c:Rp}(b:ea X q X' c)(u:gT d X.L B)(t:q.ok)(n:q.op∈[1,2,3,4,5,6]) :
  (c.c≠7/\c=(bB B q).2/\gT d X'.L (bB B q).1/\X'.ill=X.ill/\(X.ill≠none->¬(c.c=1/\(q.op=1\/q.op=4\/q.op=5))))\/
  (c=⟨7,0,0⟩/\q.op∈[1,2,4,5]/\((bB B q).2.c=1\/(bB B q).2.c=2)/\X'.L=X.L/\(X.ill=none->X'.ill=some ⟨q,eI X.L q⟩)/\(X.ill≠none->X'=X)):=by
 obtain⟨a,i,v,f⟩:=X;obtain⟨l,m⟩:=u.step q t n;have o:(aS a q).2.c≠7:=jbB a q;have k:cP a q->q.op∈[1,2,4,5]/\((bB B q).2.c=1\/(bB B q).2.c=2):=fun b=>by
  obtain⟨e,w,j⟩:=b;refine⟨?_,by rw [<-l];exact j⟩
  simp at n ⊢;omega
 cases v with
 | none=>
  rcases (b:(X'=⟨(aS a q).1,gm i a q,none,f.dn 4⟩/\c=(aS a q).2)\/(cP a q/\c=⟨7,0,0⟩/\X'=⟨a,⟨i.t,false⟩,some ⟨q,eI a q⟩,f⟩/\(f.l<4\/f.f<4))) with ⟨rfl,rfl⟩ | ⟨e,rfl,rfl,_⟩
  ·exact il ⟨o,l,m,rfl,fun b=>absurd rfl b⟩
  ·exact ir ⟨rfl,(k e).1,(k e).2,rfl,fun _=>rfl,fun b=>absurd rfl b⟩
 | some p=>
  rcases (b:(cP a q/\c=⟨7,0,0⟩/\X'=⟨a,i,some p,f⟩)\/(X'=⟨(aS a q).1,i,some p,f⟩/\c=(aS a q).2/\eh q (aS a q).2=false)) with ⟨e,rfl,rfl⟩ | ⟨rfl,rfl,j⟩
  ·exact ir ⟨rfl,(k e).1,(k e).2,rfl,(fun b=>by cases b),fun _=>rfl⟩
  ·refine il ⟨o,l,m,rfl,fun _ s=>?_⟩
   unfold eh oneB at j;obtain⟨r,g⟩:=s;rcases g with g | g | g <;> simp [r,g] at j
def HuW (φ:jI)(a b:Int):Prop:=(φ.q.op=2->a=φ.zq.lv/\b=φ.zq.wn)/\(φ.q.op≠2->a=0)
theorem ja6 {L:Ld}{q:Rq}(g:cP L q):HuW ⟨q,eI L q⟩ (aS L q).2.a (aS L q).2.b:=by
 obtain⟨j,k,c⟩:=g;have i:∀ a:Qt,(aI a L.time q.n).2.c=1\/(aI a L.time q.n).2.c=2->(aI a L.time q.n).2.a=(aI a L.time q.n).1.lv/\(aI a L.time q.n).2.b=(aI a L.time q.n).1.wn:=fun a=>by
  unfold aI mo nZ;repeat' split
  all_goals simp
 refine⟨fun b=>?_,fun b=>?_⟩
 ·have b:q.op=2:=b;unfold aS at c ⊢;rw [if_neg (by omega),if_pos b] at c ⊢;show _=(eI L q).lv/\_=(eI L q).wn;unfold eI;cases d:aZ q.key L.ks with
  | none=>rw [d] at c;simp at c
  | some a=>
   rw [d] at c;exact i a c
 ·have b:q.op≠2:=b;show (aS L q).2.a=0;unfold aS;by_cases e:q.op=1
  ·rw [if_pos e];repeat' split
   all_goals rfl
  ·rw [if_neg e,if_neg b,if_neg j];by_cases f:q.op=4
   ·rw [if_pos f];split <;> rfl
   ·rw [if_neg f,if_neg k]
def HgOk (b:Option jI)(c:Rq)(d e:Int):Prop:=∀ a,b=some a->a.q=c/\HuW a d e
def jm (w:World)(k e:Nat)(f g i:Value)(sk:Bool)(b:Option jI)(least j:Int):Prop:=∃ (a:Rq) (c d:Int),w.heap[k]?=some (.cells #[f,.pointer (some ⟨e,0,none⟩),g,i,.bool sk,.bool b.isSome,.int .u8 a.op,.int .u8 a.k0,.int .u8 a.k1,.int .u8 a.k2,.int .u8 a.k3,.int .u8 a.k4,.int .u8 a.k5,.int .u8 a.k6,.int .u8 a.k7,.int .u8 a.kd,.int .u64 a.x,.int .u64 a.y,.int .u64 a.n,.int .u64 c,.int .u64 d,.int .u64 least,.int .u64 j] 67)/\HgOk b a c d
theorem ansX (r k base:Nat)(o G H I:Value)(sk:Bool)(d least:Int)(X X':Xs)(B:Bk)(q:Rq)(i:Rp)(w:World)(t:jm w r k G H I sk X.ill least X.L.adm)(j:an w k base o B)(s:gT d X.L B)(bd:B.ls.length<=12)(N:q.ok)(F:q.op∈[1,2,3,4,5,6])(bb:base<=w.heap.size)(O:ea X q X' i)(Y:i.c=7->sk=true)(E:least<=X.D.t) :
  Calls prog 57 #[pO r 0,oj q,ot i.c i.a i.b] w fun e w'=>e=.returned (.bool true)/\∃ Q f least',an w' k base Q f/\gT d X'.L f/\jm w' r k G H I sk X'.ill least' X'.L.adm/\least'<=X'.D.t/\ae (fun b=>b=k\/b=r\/o.ownBlock=some b) w w'/\(∀ g,Q.ownBlock=some g->o.ownBlock=some g\/w.heap.size<=g):=by
 obtain⟨a,R,S,t,a2⟩:=t;have a1:=s.lok.adm;have bj:r≠k:=fun e=>by have:=t.symm.trans (e▸j.hb);simp at this
 obtain⟨c,l,m,n⟩:=X;rcases O.sim s N F with ⟨ad,J,z,A,U⟩ | ⟨J,z,A,U,bu,a4⟩
 ·obtain⟨f,p,u⟩:∃ f p,bB B q=(f,p):=⟨_,_,rfl⟩;rw [u] at J z;obtain rfl:i=p:=J;obtain⟨y,T⟩:(X'.L=(aS c q).1/\i=(aS c q).2)/\((m=none->X'.D=gm l c q)/\(m≠none->X'.D=l)):=by
   cases m with
   | none=>
    rcases (O:(X'=⟨(aS c q).1,gm l c q,none,n.dn 4⟩/\i=(aS c q).2)\/(cP c q/\i=⟨7,0,0⟩/\X'=⟨c,⟨l.t,false⟩,some ⟨q,eI c q⟩,n⟩/\(n.l<4\/n.f<4))) with ⟨rfl,rfl⟩ | ⟨_,rfl,_⟩
    ·exact⟨⟨rfl,rfl⟩,fun _=>rfl,fun j=>absurd rfl j⟩
    ·exact absurd rfl ad
   | some x=>
    rcases (O:(cP c q/\i=⟨7,0,0⟩/\X'=⟨c,l,some x,n⟩)\/(X'=⟨(aS c q).1,l,some x,n⟩/\i=(aS c q).2/\eh q (aS c q).2=false)) with ⟨_,rfl,_⟩ | ⟨rfl,rfl,_⟩
    ·exact absurd rfl ad
    ·exact⟨⟨rfl,rfl⟩,(fun j=>by cases j),fun _=>rfl⟩
  refine (p9 m.isSome r k base o G H I (.bool sk) (.int .u8 a.op) (.int .u8 a.k0) (.int .u8 a.k1) (.int .u8 a.k2) (.int .u8 a.k3) (.int .u8 a.k4) (.int .u8 a.k5) (.int .u8 a.k6) (.int .u8 a.k7) (.int .u8 a.kd) (.int .u64 a.x) (.int .u64 a.y) (.int .u64 a.n) (.int .u64 R) (.int .u64 S) (.int .u64 least) c.adm B f q i w t j s.bok N F bb u ad (fun C=>?_) a1.1 a1.2 X'.L.adm (by rw [y.1,jdv,<-y.2])).mono ?_
  ·cases m with
   | none=>rfl
   | some x=>exact absurd C (U (by simp))
  ·rintro e w' ⟨rfl,Q,bl,V,W,a6,a7,K⟩;have a3:f.time=c.time:=by
    have a8:=(show gT d X'.L f from z).time;rw [<-a8,y.1];unfold aS;repeat' split
    all_goals rfl
   obtain⟨P,rfl,bg⟩:∃ P:Int,bl=.int .u64 P/\P<=X'.D.t:=by
    by_cases C:i.c=1/\(q.op=1\/q.op=4\/q.op=5)
    ·have M:m=none:=by
      cases m with
      | none=>rfl
      | some x=>exact absurd C (U (by simp))
     have Z:=K.1 C;subst Z;refine⟨_,rfl,?_⟩
     rw [T.1 M];exact jbA (D:=l) (L:=c) (q:=q) F (least:=least) (least':=f.time) (by rw [<-y.2,<-a3];exact K) E
    ·have Z:=K.2 C;subst Z;refine⟨_,rfl,?_⟩
     by_cases M:m=none
     ·rw [T.1 M];exact jbA (D:=l) (L:=c) (q:=q) F (least:=least) (least':=least) (by rw [<-y.2,<-a3];exact K) E
     ·rw [T.2 M];exact E
   exact⟨rfl,Q,f,P,V,z,⟨a,R,S,by rw [A];exact W,by rw [A];exact a2⟩,bg,a6,a7⟩
 ·subst J;have Y:=Y rfl;subst Y;obtain⟨f,p,u⟩:∃ f p,bB B q=(f,p):=⟨_,_,rfl⟩;rw [u] at A;have bi:(aS c q).2=p:=by rw [(s.step q N F).1,u]
  refine (ans7 r k base o G H I (.int .u8 a.op) (.int .u8 a.k0) (.int .u8 a.k1) (.int .u8 a.k2) (.int .u8 a.k3) (.int .u8 a.k4) (.int .u8 a.k5) (.int .u8 a.k6) (.int .u8 a.k7) (.int .u8 a.kd) (.int .u64 a.x) (.int .u64 a.y) (.int .u64 a.n) (.int .u64 R) (.int .u64 S) (.int .u64 least) (.int .u64 c.adm) m.isSome B q w t j s.bok bd N z f p u A).mono ?_
  rintro e w' ⟨rfl,bo,bs,ao⟩;have a0:an w' k base o B:=⟨(ao.block k (am j.hb) (fun e=>bj e.symm)).trans j.hb,aq j.ho (fun g v=>ao.block g (aj j.ho v).2 (ax j.ho v t (by decide)))⟩;have av:ae (fun b=>b=k\/b=r\/o.ownBlock=some b) w w':=ao.mono (fun b a9 _=>ir (il a9));cases m with
  | some x=>
   have a5:=a4 (by simp);subst a5;exact⟨rfl,o,B,least,a0,s,⟨a,R,S,(bo rfl).trans t,a2⟩,E,av,fun g v=>il v⟩
  | none=>
   rcases (O:(X'=⟨(aS c q).1,gm l c q,none,n.dn 4⟩/\(⟨7,0,0⟩:Rp)=(aS c q).2)\/(cP c q/\(⟨7,0,0⟩:Rp)=⟨7,0,0⟩/\X'=⟨c,⟨l.t,false⟩,some ⟨q,eI c q⟩,n⟩/\(n.l<4\/n.f<4))) with ⟨_,W⟩ | ⟨V,_,rfl,_⟩
   ·exact absurd (congrArg Rp.c W).symm (jbB c q)
   ·refine⟨rfl,o,B,least,a0,s,⟨_,_,_,bs rfl,fun x bk=>?_⟩,E,av,fun g v=>il v⟩
    cases bk
    exact⟨rfl,bi▸ja6 V⟩
theorem qz (y:Nat)(i:World->Prop)(g:Int->World->(NP)->Prop)(D:∀ c,PP (g c))(F:NP)(q:Rq)(w:World)(j:q.op≠1)(k:q.op≠2)(l:q.op≠3)(m:q.op≠4)(n:q.op≠6)(E:Hid (∀ d,B7 w d->i d))(p:∀ b,F b->b<w.heap.size)
  (H:Hid (∀ d,i d->Calls prog 115 #[pO y 2] d fun e w'=>∃ c,e=.returned (uQ c)/\cB d F w' (g c))) :
  Calls prog 74 #[pO y 0,oj q] w fun e w'=>∃ c,e=.returned (uQ c)/\cB w F w' (g c):=by
 have M:(q.op==1)=false:=by simpa using j
 have N:(q.op==2)=false:=by simpa using k
 have O:(q.op==3)=false:=by simpa using l
 have P:(q.op==4)=false:=by simpa using m
 have Q:(q.op==6)=false:=by simpa using n
 clear j k l m n;obtain⟨a,f⟩:∃ a,a=(w.alloc (oh q)).alloc (og):=⟨_,rfl⟩;have o:B7 w a:=f▸(ba w).alloc (by simp) _;have I:a.heap[w.heap.size]?=some (oh q):=f▸aB (af _ _) _;have t:a.heap[w.heap.size+1]?=some (og):=f▸aC (by simp);have G:=E.out a o;have A:=ab I;have x:=am t;go_enter func74,ntmps74
 go_upto_region 1 with fail
 rw [<-f];clear f;go_wp2_with fail
 refine (H.out _ G).mono ?_
 rintro e R ⟨c,rfl,K,r,s,J⟩;have u:=(s.block _ x (fun C=>by have:=p _ C;omega)).trans t;have B:=ab u;have L:=ag u;have z:=aa r;clear A r;go_wp2
 refine bodyPost_ret (v:=(uQ c)) (by simp [results,results74,go_sem,B]) rfl ⟨c,rfl,?_⟩
 exact fin7 (D c) o x p z.out s J _ _ _
theorem jbm (o s g:Nat)(O P Q:Value)(t blk:Int)(u:NP)(w:World)(C:w.heap[o]?=some (.cells #[O,P,.int .u64 t,.int .u64 blk,.map (some s),.pointer (some ⟨g,0,none⟩),Q] 130))(L:∀ b,b=g\/u b->b<w.heap.size)(R:Value->World->World->Prop)(K:∀ v V w',R v V w'->ae (fun c=>c=g\/u c) V w')
  (J:Hid (∀ V,ae (fun _=>False) w V->Calls prog 142 #[pO g 0,.int .u64 t,.func (.func 143) #[.map (some s)] #[]] V fun e w'=>∃ v,e=.returned v/\IsE v/\R v V w')) :
  Calls prog 115 #[pO o 2] w fun e w'=>∃ (v:Value) (n:Int) (V a:World),e=.returned (uQ n)/\(v=.nilIface/\n=1\/(∃ l,v=cJ l)/\n=7)/\ae (fun _=>False) w V/\V.heap.size=w.heap.size+1/\R v V a/\w'=((a.setCell ⟨w.heap.size,0,none⟩ (.int .u8 n)).setCell ⟨w.heap.size,1,none⟩ (.int .u64 0)).setCell ⟨w.heap.size,2,none⟩ (.int .u64 0):=by
 obtain⟨V,j⟩:∃ V,V=w.alloc (og):=⟨_,rfl⟩;have q:ae (fun _=>False) w V:=j▸(ae.refl _ w).alloc _;have M:V.heap[w.heap.size]?=some (og):=j▸af _ _;have N:V.heap[o]?=_:=(q.block o (am C) (fun i=>i)).trans C;have W:∀ (B:Fn) (first z:Array Value) (w:World),(Instr.makeFunc B first z).run prog w=.ok (.func B first z) w:=fun _ _ _ _=>rfl;have p:ae (fun _=>False) w V.drew:=q.then (T:=fun _=>False) ⟨rfl,rfl,rfl,lz,fun _ _ _=>rfl⟩ (fun _ _ i=>i);have F:=aa (J.out V.drew p);have x:=aa p;have I:=ab N;have k:V.heap.size=w.heap.size+1:=by rw [j];simp
 have G:=aa k;clear q k p;go_enter func115,ntmps115
 go_upto_region 1 with fail
 rw [<-j];clear j;go_cut [3] (fun E S=>∃ (y:World),y=S/\IsE E/\R E V.drew y)
 case first=>
  go_region_law (refine aO (by rfl) 142 jae _ _ (by rfl) #[pO g 0,.int .u64 t,.func (.func 143) #[.map (some s)] #[]] (by simp only [List.map_toArray,List.map_cons,List.map_nil];rfl) F.out ?_;rintro e a ⟨v,rfl,m,d⟩;refine⟨_,rfl,?_⟩;have f:=aa d;have H:=aa m;clear d m)
  all_goals (go_wp2_with fail;go_meet)
  all_goals exact⟨a,rfl,H.out,f.out⟩
 case rest=>
  obtain⟨a,rfl,m,d⟩:=hcut;have k:=G.out;have r:=((K _ _ _ d).block w.heap.size (by show w.heap.size<V.heap.size;omega) (fun i=>by have:=L _ i;omega)).trans M;have A:=ab r;have U:=ag r;have f:=aa d;have D:V.drew.heap.size=w.heap.size+1:=k;clear d I k r;rcases m with rfl | ⟨l,rfl⟩
  ·go_wp2
   refine bodyPost_ret (v:=oS) (by simp [results,results115,go_sem,A]) rfl ⟨.nilIface,1,V.drew,a,rfl,il ⟨rfl,rfl⟩,x.out,D,f.out,rfl⟩
  ·unfold cJ at f ⊢;go_wp2
   refine bodyPost_ret (v:=Ok) (by simp [results,results115,go_sem,A]) rfl ⟨cJ l,7,V.drew,a,rfl,ir ⟨⟨l,rfl⟩,rfl⟩,x.out,D,f.out,rfl⟩
def OutX (db:Nat)(blk:Int)(w:World)(d:Int)(c:Nat)(X:Xs)(F:NP)(w':World):Prop:=∃ b,bH db blk w' d c X b/\ae F w w'/\∀ a,b a->F a\/w.heap.size<=a
def DoX (db:Nat)(blk e:Int)(c:Nat)(X:Xs)(F:NP)(q:Rq)(w:World):Prop:=Calls prog 74 #[pO c 0,oj q] w fun d f=>∃ b a,ea X q b a/\d=.returned (ot a.c a.a a.b)/\OutX db blk w e c b F f
theorem jbD {L:Ld}{q:Rq}{z:Qt}(d:q.op=2)(c:aZ q.key L.ks=some z)(a:kA z L.time q.n):aS L q=(⟨L.time,(L.adm+q.n) % 18446744073709551616,jH q.key (aI z L.time q.n).1 L.ks⟩,(aI z L.time q.n).2):=by
 have b:eM z L.time q.n=aI z L.time q.n:=by unfold eM;rw [if_pos (show (aI z L.time q.n).2.c=2/\q.n≠0 from a)]
 unfold aS;rw [if_neg (by omega),if_pos d,c];dsimp only;rw [b,if_pos a.1]
theorem jbC {L:Ld}{q:Rq}(d:q.op=2)(c:∀ z,aZ q.key L.ks=some z->¬kA z L.time q.n):(aS L q).2=(fY L q).2/\(aS L q).1=⟨L.time,if (fY L q).2.c=2 then (L.adm+q.n) % 18446744073709551616 else L.adm,L.ks⟩:=by
 unfold aS fY;rw [if_neg (by omega),if_pos d];cases a:aZ q.key L.ks with
 | none=>exact⟨rfl,by simp⟩
 | some z=>
  have b:(eM z L.time q.n).1=z:=by unfold eM;exact if_neg (c z a)
  dsimp only;rw [b,mc a];exact⟨rfl,rfl⟩
theorem kP {q:Rq}(a:q.op=2)(b:Rp):eh q b=false:=by simp [eh,a]
theorem jfl {q:Rq}(a:q.op=3)(b:Rp):eh q b=false:=by simp [eh,a]
theorem jfm {q:Rq}(a:q.op=6)(b:Rp):eh q b=false:=by simp [eh,a]
theorem pn {q:Rq}{a:Rp}(b:a.c≠1):eh q a=false:=by simp [eh,oneB,b]
theorem jdH {D d blk:Int}{φ:jI}{M b:List Ky}{c:Es}{fsD:Fs}{pd:Pd}(a:cY D d blk φ M c fsD pd)(e:∀ k∈M,k∈b):cY D d blk φ b c fsD pd:=⟨a.eo,a.a,a.b,a.c,a.v,fun f=>e _ (a.m f),a.sz,a.n⟩
theorem doI (db:Nat)(blk g:Int)(e:Nat)(L:Ld)(D:Dx)(φ:jI)(k:Bu)(F:NP)(q:Rq)(w:World)(i:da db blk w g e L D φ k F)(E:q.ok):DoX db blk g e ⟨L,D,some φ,k⟩ F q w:=by
 obtain⟨d,a,y,z,A,x,bo,⟨G,a8,t,a9⟩,N,a7,C⟩:=i;obtain⟨b,c,cy⟩:=L;dsimp only at bo G a8 N C;subst bo;have V:=N.eo.msk d;have l:=@ed.fra _ _ db y z A x;have H:stands (msk d a)=stands a:=tf d a;have cb:=C.lt;have Q:∀ {m:World},cB w F m (fun w F=>az (ed db y z A x) w g e b c blk (msk d a) F)->OutX db blk w g e ⟨⟨b,c,stands a⟩,D,some φ,k⟩ F m:=fun ⟨n,o,bj,b8⟩=>⟨n,⟨d,a,y,z,A,x,rfl,⟨G,a8,t,a9⟩,N,a7,o⟩,bj,b8⟩;unfold DoX;by_cases X:q.op=1
 ·by_cases u:defB ⟨b,c,stands a⟩ q
  ·have T:cP ⟨b,c,stands a⟩ q:=⟨by omega,by omega,by rw [pj X u];exact il rfl⟩;refine (jq l g e b c blk (msk d a) F q w X E C (by rw [H];exact u) 7 0 0 (az.pp l g e b c blk (msk d a)) (fun j a2 o _ _=>?_)).mono ?_
   ·refine (jb2 db y z A x g e a2 b c blk (msk d a) F 1 0 0 j o).mono ?_
    rintro s m ⟨rfl,n,⟨B,_⟩,I⟩;exact⟨rfl,n,B,I⟩
   ·rintro s m ⟨rfl,K⟩;exact⟨_,⟨7,0,0⟩,il ⟨T,rfl,rfl⟩,rfl,Q K⟩
  ·obtain⟨v,bs,J⟩:=mW l g e b c blk (msk d a) F q w X E C (by rw [H];exact u);rw [H] at v bs J;refine J.mono ?_
   rintro s m ⟨rfl,K⟩;exact⟨_,_,ir ⟨by rw [v],rfl,pn bs⟩,rfl,Q K⟩
 by_cases M:q.op=2
 ·by_cases u:∃ f,aZ q.key (stands a)=some f/\kA f b q.n
  ·obtain⟨f,bz,u⟩:=u;obtain⟨O,r⟩:=cj (H▸bz:aZ q.key (stands (msk d a))=some f);have bd:f.ok:=V.qt _ (aR r);have Z:=jbD (L:=⟨b,c,stands a⟩) M bz u;cases av:cT O (aI f b q.n).1 with
   | true=>
    have bl:q.key ∉ d:=fun cl=>by
     rw [iQ] at r;cases a0:ar q.key a with
     | none=>rw [a0] at r;cases r
     | some a5=>
      rw [a0] at r;simp [cl] at r;obtain⟨_,rfl⟩:=r;have:=jfX bd G.1 E.n.1 u;unfold cT at av;simp at av;omega
    have S:ar q.key a=some (f,O):=by
     rw [iQ] at r;cases a0:ar q.key a with
     | none=>rw [a0] at r;cases r
     | some a5=>
      rw [a0] at r;simp [bl] at r;rw [r]
    have b0:(ar q.key a).isSome=true:=by rw [S];rfl
    obtain⟨cU,_,b9⟩:=N.a;have cp:=vp (b9.res _ (aR S)) bd E.n.1 u av;obtain⟨b5,b6,b7,_⟩:=ij f b q.n bd E.n.1 u.1;have cs:=(jZ f b q.n bd G.1 G.2 E.n.1).1;refine (iM l g e b c blk (msk d a) (aJ q.key ((aI f b q.n).1,O) (msk d a)) F q 2 (aI f b q.n).2.a (aI f b q.n).2.b w M C (fun j o=>nu l g e b c blk (msk d a) F q j E G V o f O r u av)).mono ?_
    rintro s m ⟨rfl,n,B,I,R⟩;rw [if_pos rfl,jd8 bl b0] at B;have ad:(aI f b q.n).2=⟨2,(aI f b q.n).2.a,(aI f b q.n).2.b⟩:=by rw [<-u.1]
    refine⟨_,⟨2,(aI f b q.n).2.a,(aI f b q.n).2.b⟩,ir ⟨rfl,by rw [Z];exact ad.symm,kP M _⟩,rfl,n,?_,I,R⟩
    rw [Z];refine⟨d,aJ q.key ((aI f b q.n).1,O) a,y,z,A,x,?_,⟨G,by show 0<=(c+q.n) % 18446744073709551616/\(c+q.n) % 18446744073709551616<=18446744073709551615;omega,t,a9⟩,N.cover S bl cp cs b5 b6 b7,a7,B⟩
    rw [bf b0,eH]
   | false=>
    have T:cP ⟨b,c,stands a⟩ q:=⟨by omega,by omega,by rw [Z];exact ir u.1⟩;refine (kM l g e b c blk (msk d a) F q w M E G t V C f O r u av 7 0 0 (az.pp l g e b c blk (msk d a)) (az.pp l g e b c blk (msk d a)) (fun w n i=>?_) (ct7 (az.pp l g e b c blk (msk d a)) e q.n) (fun j a2 o _ _=>?_)).mono ?_
    ·obtain⟨W,ao,bg,a1,_⟩:=i.mem;rw [ab a1 3];rfl
    ·refine (jb2 db y z A x g e a2 b c blk (msk d a) F _ _ _ j o).mono ?_
     rintro s m ⟨rfl,n,⟨B,_⟩,I⟩;exact⟨rfl,n,B,I⟩
    ·rintro s m ⟨rfl,K⟩;exact⟨_,⟨7,0,0⟩,il ⟨T,rfl,rfl⟩,rfl,Q K⟩
  ·have bv:∀ f,aZ q.key (stands a)=some f->¬kA f b q.n:=fun f o bj=>u ⟨f,o,bj⟩;obtain⟨b3,b4⟩:=jbC (L:=⟨b,c,stands a⟩) M bv;have J:=iM l g e b c blk (msk d a) (msk d a) F q (fY ⟨b,c,stands a⟩ q).2.c (fY ⟨b,c,stands a⟩ q).2.a (fY ⟨b,c,stands a⟩ q).2.b w M C (fun j o=>by
     have:=(nt l g e b c blk (msk d a) F q j E G V o (by rw [H];exact bv)).2;rw [H] at this;exact this)
   refine J.mono ?_
   rintro s m ⟨rfl,n,B,I,R⟩;refine⟨_,_,ir ⟨rfl,b3.symm,kP M _⟩,rfl,n,?_,I,R⟩
   rw [b4];refine⟨d,a,y,z,A,x,rfl,⟨G,?_,t,a9⟩,N,a7,B⟩
   dsimp only;split
   ·omega
   ·exact a8
 by_cases Y:q.op=3
 ·obtain⟨v,J⟩:=qx l g e b c blk (msk d a) F q w Y E G V C;rw [H] at v J;refine J.mono ?_
  rintro s m ⟨rfl,K⟩;exact⟨_,_,ir ⟨by rw [v],rfl,jfl Y _⟩,rfl,Q K⟩
 by_cases a3:q.op=4
 ·cases bb:aZ q.key (stands a) with
  | none=>
   obtain⟨v,J⟩:=mX l g e b c blk (msk d a) F q w a3 E C (by rw [H];exact bb);rw [H] at v;refine J.mono ?_
   rintro s m ⟨rfl,K⟩;exact⟨_,⟨4,0,0⟩,ir ⟨by rw [v],by rw [v],by rw [v];exact pn (by simp)⟩,rfl,Q K⟩
  | some f=>
   obtain⟨O,r⟩:=cj (H▸bb:aZ q.key (stands (msk d a))=some f);have S:∃ b2,ar q.key a=some (f,b2):=cj bb;obtain⟨b2,S⟩:=S;have T:cP ⟨b,c,stands a⟩ q:=by
    refine⟨by omega,by omega,il ?_⟩
    unfold aS;rw [if_neg X,if_neg M,if_neg Y,if_pos a3];dsimp only;rw [bb]
   refine (mU l g e b c blk (msk d a) F q w a3 E V C f O r (Post2:=fun w F=>az (ed db y z A x) w g e b c blk (msk (q.key :: d) a) F) (az.pp l g e b c blk (msk d a)) (az.pp l g e b c blk (msk (q.key :: d) a)) (fun w n i=>?_) (fun j b1 W n i ck bw bk=>?_) (fun j a2 o _ _=>jb2 db y z A x g e a2 b c blk (msk d a) F 1 0 0 j o)).mono ?_
   ·obtain⟨W,ao,bg,a1,bF,_⟩:=i.mem;exact⟨W,_,_,_,_,_,_,a1,bF,i.own⟩
   ·rw [qY N.eo.nd S] at bw;exact (i.kept l lz (fun _ _=>rfl):az (ed db y z A x) j.drew g e b c blk (msk d a) n).turn l ck bw bk
   ·rintro s m ⟨rfl,n,B,I,R⟩;exact⟨_,⟨7,0,0⟩,il ⟨T,rfl,rfl⟩,rfl,n,⟨q.key :: d,a,y,z,A,x,rfl,⟨G,a8,t,a9⟩,jdH N (fun k bk=>List.mem_cons_of_mem _ bk),a7,B⟩,I,R⟩
 by_cases a4:q.op=6
 ·obtain⟨v,J⟩:=qw l g e b c blk (msk d a) F q w a4 C;rw [H] at v;refine J.mono ?_
  rintro s m ⟨rfl,K⟩;exact⟨_,⟨1,b,0⟩,ir ⟨by rw [v],by rw [v],jfm a4 _⟩,rfl,Q K⟩
 ·have Z:aS ⟨b,c,stands a⟩ q=(⟨b,c,stands a⟩,⟨1,0,0⟩):=by unfold aS;rw [if_neg X,if_neg M,if_neg Y,if_neg a3,if_neg a4]
  have T:cP ⟨b,c,stands a⟩ q:=⟨Y,a4,by rw [Z];exact il rfl⟩;refine (qz e (fun j=>az (ed db y z A x) j g e b c blk (msk d a) F) (fun bi w F=>bi=7/\az (ed db y z A x) w g e b c blk (msk d a) F) (fun bi=>⟨fun i cq t=>⟨i.1,i.2.kept l cq t⟩,fun i=>i.2.lt⟩) F q w X M Y a3 a4 (aa (fun j t=>C.below l t lz)) cb (aa (fun j o=>?_))).mono ?_
  ·obtain⟨W,ao,bg,a1,bF,⟨⟨ad,cv⟩,cz⟩,bK,ct,cF,cG,cR⟩:=o.mem;refine (jbm e W ao _ _ _ b blk bg j a1 (fun a6 t=>t.elim (fun s=>s▸bK) (fun i=>o.lt a6 (ct a6 i))) (fun a5 P m=>a5=cJ ad/\B7 P m) (fun a5 P m i=>ae.of_below i.2) (aa (fun P cc=>?_))).mono ?_
   ·refine (jcI ao W ad b P ((World.cell?_of_block (w:=j) (cc.block ao bK (fun i=>i))).trans cv)).mono ?_
    rintro s m ⟨rfl,t⟩;exact⟨_,rfl,ir ⟨ad,rfl⟩,rfl,t⟩
   ·rintro s m ⟨a5,cw,P,b1,rfl,cr,U,cx,⟨rfl,ci⟩,rfl⟩;have cn:cw=7:=by
     rcases cr with ⟨i,_⟩ | ⟨_,i⟩
     ·cases i
     ·exact i
    subst cn;have ch:B7 j b1:=(⟨U.os,U.tape,U.output,U.size,fun a6 t=>U.block a6 t (fun i=>i)⟩:B7 j P).trans (ci.mono U.size);have bu:=((ch.setCell (p:=⟨j.heap.size,0,none⟩) lz (.int .u8 7)).setCell (p:=⟨j.heap.size,1,none⟩) lz (.int .u64 0)).setCell (p:=⟨j.heap.size,2,none⟩) lz (.int .u64 0);exact⟨7,rfl,F,⟨rfl,o.below l bu lz⟩,ae.of_below bu,fun _ i=>il i⟩
  ·rintro s m ⟨bi,rfl,n,⟨rfl,B⟩,I,R⟩;exact⟨_,⟨7,0,0⟩,il ⟨T,rfl,rfl⟩,rfl,Q ⟨n,B,I,R⟩⟩
theorem az.led {i:Bu}{db:Nat}{l f turn:Int}{fsD fsN:Fs}{w:World}{e:Int}{d:Nat}{g adm blk:Int}{b:Es}{F:NP}(a:az (PLf i db l f turn fsD fsN) w e d g adm blk b F):dw w e d db i ⟨g,adm,blk,b,turn,fsD,fsN⟩ F:=by
 obtain⟨p,k,j,m,n,c,q,o⟩:=a.mem;exact⟨⟨p,k,j,m,n,c.1.1,c.1.2,o⟩,a.own,a.lt⟩
theorem az.bear {j:Bu}{db:Nat}{l f turn:Int}{fsD fsN:Fs}{w:World}{g:Int}{e:Nat}{i adm blk:Int}{c:Es}{F:NP}(b:az (PLf j db l f turn fsD fsN) w g e i adm blk c F)(a:jk l f):dw w g e db ((j.dn 2).up 2) ⟨i,adm,blk,c,turn,fsD,fsN⟩ F:=by
 obtain⟨r,m,k,n,o,⟨d,t,nb,q⟩,s,p⟩:=b.mem;exact⟨⟨r,m,k,n,o,d.1,d.2.two q a.1 a.2.2.1 a.2.1 a.2.2.2,p⟩,b.own,b.lt⟩
theorem az.few {e:Bu}{db:Nat}{l f turn:Int}{fsD fsN:Fs}{w:World}{n:Int}{m:Nat}{o adm blk:Int}{g:Es}{F:NP}(i:az (PLf e db l f turn fsD fsN) w n m o adm blk g F)(j:¬jk l f):e.l<4\/e.f<4:=by
 obtain⟨t,q,p,b,c,⟨a,s,nb,k⟩,d,r⟩:=i.mem;have:=a.2.bear k (by
   by_cases b:l=0
   · exact il b
   by_cases c:aK l=0
   · exact ir (il c)
   by_cases a:f=0
   · exact ir (ir (il a))
   by_cases d:aK f=0
   · exact ir (ir (ir d))
   exact absurd ⟨b,a,c,d⟩ j)
 omega
theorem de.hx.weak {c:de}{D:Dx}(a:c.hx D):c.hx ⟨D.t,false⟩:=⟨a.1,(fun a=>by cases a),a.2.2⟩
theorem vC {D:Dx}{L:Ld}{q:Rq}(b:q.op≠3)(c:q.op≠6)(d:eh q (aS L q).2=false):gm D L q=⟨D.t,false⟩:=by
 unfold gm lD;rw [if_neg (fun a=>a.elim b c),d];rfl
theorem jf4 {D:Dx}{L:Ld}{q:Rq}(a:q.op=3\/q.op=6):gm D L q=D:=by
 unfold gm lD;rw [if_pos a]
def KP (g:Bu)(db:Nat)(f:Int)(e:Nat)(c:de)(D:Dx)(d:Es)(w:World)(F:NP):Prop:=∃ a:de,a.ok/\a.ld=⟨c.time,c.adm,stands d⟩/\(a.blk=c.blk/\(∀ b:Bool,a.has (if b then c.time else D.t))/\Sm a.fsD a.fsN)/\dw w f e db (g.dn 2) a F
theorem KP.pp {n:Bu}{db:Nat}{m:Int}{l:Nat}{c:de}{D:Dx}{b:Es}:PP (KP n db m l c D b):=⟨fun ⟨a,e,f,g,i⟩ k j=>⟨a,e,f,g,i.kept k j⟩,fun ⟨_,_,_,_,d⟩=>d.lt⟩
theorem KP.srv {g:Bu}{db:Nat}{f:Int}{d:Nat}{c:de}{D:Dx}{b:Es}{w:World}{F:NP}{q:Rq}(a:KP g db f d c D b w F)(e:(⟨c.time,c.adm,stands b⟩:Ld)=(aS c.ld q).1)(j:q.op≠3)(k:q.op≠6):aU db c.blk (gm D c.ld q) (g.dn 4) w f d (aS c.ld q).1 F:=by
 obtain⟨i,l,m,⟨n,o,p⟩,r⟩:=a;refine⟨i,l,m.trans e,⟨n,?_⟩,r.less ⟨by dsimp only [Bu.dn];omega,by dsimp only [Bu.dn];omega⟩⟩
 unfold gm lD;rw [if_neg (fun a=>a.elim j k)];exact⟨o _,(fun a=>by cases a),p⟩
theorem vg {z:Qt}(t n:Int)(a:z.kd=1):(aI z t n).1.wn=z.wn:=by
 unfold aI mo;rw [if_pos a];repeat' split
 all_goals rfl
theorem fP.x {i:Bu}{db:Nat}{g:Int}{f:Nat}{c:de}{D:Dx}{φ:jI}{M:List Ky}{w:World}{F:NP}(b:c.ok)(e:c.hx D)(n:0<=D.t)(u:jT φ c.es)(s:φ.q.op=4->φ.q.key∈M)(t:∀ p∈fk φ c.blk c.es,gL c.blk p.2.1 p.2.2)(v:∀ p∈fk φ c.blk c.es,p.2.2.kd=2->p.2.2.wn<=c.time / p.2.2.y)(m:∃ (ks:List Ky) (pd:Pd) (dn:Bool) (a:Fs),ks.Perm ((fk φ c.blk c.es).map Prod.fst)/\FlO (i.l<2) (au c.turn % 2==1) (strOfNums (aX (au c.turn) c.time (fk φ c.blk c.es) ks)) c.fsN a pd dn/\az (ed db c.fsD a pd dn) w g f c.time c.adm c.blk (msk M c.es) F):da db c.blk w g f c.ld ⟨D.t,false⟩ φ i F:=by
 obtain⟨ks,pd,dn,a,o,q,r⟩:=m;obtain⟨j,k,l⟩:=cY.first (M:=M) b e.1 u s t v o q;exact⟨M,c.es,c.fsD,a,pd,dn,rfl,⟨b.time,b.adm,b.blk,n⟩,j,⟨fun d x=>k d e.2.2 x,fun d=>by have:=l d;omega⟩,r⟩
theorem vO {m:World->Nat->(NP)->Prop}(O:jS m){w V k:World}{o:Int}{f e g:Nat}{p adm blk:Int}{n:Es}{F i l:NP}(A:w.heap[f]?=some (OW o p blk e g adm))(U:aH w e n)(s:∀ b,F b->b<w.heap.size)(W:F f)(G:∀ b,i b->F b)(H:F e)(t:F g)(Y:¬i g)(I:¬i e)(C:e≠g)(D:¬i f)(E:f≠g)(X:f≠e)(v:ae (fun _=>False) w V)(Z:V.heap.size=w.heap.size+1)(r:ae (fun c=>c=g\/i c) V k)(x:∀ b,l b->i b\/V.heap.size<=b)(P:∀ b,l b->b<k.heap.size)(N:m k g l)(B:Int) :
  cB w F (((k.setCell ⟨w.heap.size,0,none⟩ (.int .u8 B)).setCell ⟨w.heap.size,1,none⟩ (.int .u64 0)).setCell ⟨w.heap.size,2,none⟩ (.int .u64 0)) (fun w F=>az m w o f p adm blk n F):=by
 have z:=am A;have T:=s g t;have y:=s e H;have ad:=r.size;have u:∀ d,d<w.heap.size->d≠g->¬i d->k.heap[d]?=w.heap[d]?:=fun d j K L=>(r.block d (by omega) (fun a=>a.elim K L)).trans (v.block d j (fun a=>a));have q:∀ d,d<w.heap.size->l d->i d:=fun d j a=>(x d a).elim id (fun a=>by omega);have R:ae F w k:=ae.then (S:=F) (v.mono (fun _ a _=>a.elim)) r (fun Q _ a=>a.elim (fun J=>J▸t) (G Q));have M:az m k o f p adm blk n (fun d=>d=f\/d=e\/d=g\/l d):=by
  refine⟨⟨e,g,l,(u f z E D).trans A,ap.kept U (u e y C I),N,by omega,fun d j=>ir (ir (ir j)),ir (il rfl),ir (ir (il rfl)),fun a=>Y (q g T a),fun a=>I (q e y a),C,fun a=>D (q f z a),E,X⟩,il rfl,fun d j=>?_⟩
  rcases j with a | a | a | a
  ·rw [a];omega
  ·rw [a];omega
  ·rw [a];omega
  ·exact P d a
 refine fF (az.pp O o f p adm blk n) B 0 0 M R s lz (fun d j=>?_)
 rcases j with a | a | a | a
 ·exact il (a▸W)
 ·exact il (a▸H)
 ·exact il (a▸t)
 ·rcases x d a with a | a
  ·exact il (G d a)
  ·exact ir (by omega)
theorem doW (i:Bu)(db:Nat)(g:Int)(f:Nat)(c:de)(D:Dx)(F:NP)(q:Rq)(w:World)(b:c.ok)(I:c.hx D)(en:dw w g f db i c F)(ch:0<=D.t)(t:q.ok):DoX db c.blk g f ⟨c.ld,D,none,i⟩ F q w:=by
 obtain⟨W,S,B⟩:=en.lf;have em:=B.lt;have ao:=b.eso;have J:=@PLf.fra _ _ i db W S c.turn c.fsD c.fsN;have ct:(i.dn 4).le i:=⟨Nat.sub_le _ _,Nat.sub_le _ _⟩;unfold DoX;have cF:∀ {bv:Es}{a3 d6 d7:Int},jk W S->eJ bv->(∀ j∈bv,j.2.2.fit)->(∀ j∈bv,gL c.blk j.2.1 j.2.2)->(∀ j∈bv,j.2.2.kd=2->j.2.2.wn<=c.time / j.2.2.y)->∀ p Y,az (PLf i db W S c.turn c.fsD c.fsN) p g f c.time c.adm c.blk c.es F->aH p Y bv->¬F Y->Calls prog 134 #[pO f 2,.map (some Y),ot a3 d6 d7] p fun r n=>r=.returned (ot a3 d6 d7)/\∃ e,KP i db g f c D bv n e/\ae F p n/\∀ Z,e Z->F Z\/p.heap.size<=Z\/Z=Y:=fun U P a9 c9 dd p Y a a5 bi=>by
  refine (jdO g f db (i.dn 2) Y c F _ _ _ _ p (a.bear U) b a5 bi P.nd P.key a9 P.len).mono ?_
  rintro r n ⟨rfl,c4,e,Q,cx,cy⟩;have cz:=Q.all b c9 dd true;exact⟨rfl,e,⟨c4,Q.ok b P.nd P.key P.qt a9 P.len c9 dd,Q.ld,⟨Q.blk,fun Z=>by cases Z;exact cz.1 _ (il I.1);exact cz.1 _ (ir ⟨rfl,rfl⟩),cz.2.2 I.2.2⟩,cx⟩,cy⟩
 have cp:∀ {n:World},(aS c.ld q).1=c.ld->(q.op=3\/q.op=6\/eh q (aS c.ld q).2=false)->cB w F n (fun w F=>az (PLf i db W S c.turn c.fsD c.fsN) w g f c.time c.adm c.blk c.es F)->OutX db c.blk w g f ⟨(aS c.ld q).1,gm D c.ld q,none,i.dn 4⟩ F n:=fun R bd ⟨e,o,P,a9⟩=>by
  refine⟨e,?_,P,a9⟩
  show aU db c.blk (gm D c.ld q) (i.dn 4) _ g f (aS c.ld q).1 e;rw [R];refine⟨c,b,rfl,⟨rfl,?_⟩,o.led.less ct⟩
  by_cases b5:q.op=3\/q.op=6
  ·rw [jf4 b5];exact I
  ·rw [vC (fun a=>b5 (il a)) (fun a=>b5 (ir a)) (by
      rcases bd with a | a | a
      · exact absurd (il a) b5
      · exact absurd (ir a) b5
      · exact a)]
   exact I.weak
 by_cases v:q.op=1
 ·by_cases s:defB c.ld q
  ·have bl:cP c.ld q:=⟨by omega,by omega,by rw [pj v s];exact il rfl⟩;have dv:=s.1;have cs:ar q.key c.es=none:=ee s.2.1;have et:c.es.length<12:=by have:=dF c.es;have:(stands c.es).length<12:=s.2.2;omega
   have ci:(⟨q.kd,q.x,q.y,0,0⟩:Qt).ok:=⟨dv,t.x,t.y,by simp,by simp⟩;have A:fk ⟨q,eI c.ld q⟩ c.blk c.es=aJ q.key ((⟨q.kd,q.x,q.y,0,0⟩:Qt),(⟨q.kd,q.x,q.y,0,0⟩:Qt)) c.es:=by unfold fk;rw [if_pos v,ja cs]
   have a0:jT ⟨q,eI c.ld q⟩ c.es:=⟨t,fun _=>⟨dv,cs,et⟩,fun a=>absurd (v.symm.trans a) (by omega),fun a=>absurd (v.symm.trans a) (by omega)⟩;have C:=ao.vir (blk:=c.blk) a0;rw [A] at C;by_cases U:jk W S
   ·refine (jq J g f c.time c.adm c.blk c.es F q w v t B s 1 0 0 KP.pp (cF U C (gC ci.fit b.fit) (gD (gL.same ci b.blk.1) b.dur.res) (jc (fun av=>Int.ediv_nonneg b.time.1 t.y.1) b.dur.wnd))).mono ?_
    rintro r n ⟨rfl,e,l,m⟩;have G:=pj (L:=c.ld) v s;exact⟨_,⟨1,0,0⟩,il ⟨rfl,by rw [G]⟩,rfl,e,l.srv (by rw [G,ja cs,kC];rfl) (by omega) (by omega),m⟩
   refine (jq J g f c.time c.adm c.blk c.es F q w v t B s 7 0 0 (fP.pp (i.l<2) g f db c (aJ q.key ((⟨q.kd,q.x,q.y,0,0⟩:Qt),(⟨q.kd,q.x,q.y,0,0⟩:Qt)) c.es)) (fun p Y o a5 bi=>?_)).mono ?_
   ·refine (jb1 i W S U g f db Y c F _ 1 0 0 p o b a5 bi C.nd C.key (gC ci.fit b.fit) C.len).mono ?_
    rintro r n ⟨rfl,e,⟨l,_⟩,m⟩;exact⟨rfl,e,l,m⟩
   ·rintro r n ⟨rfl,e,⟨V,y,u,T,l,m,z⟩,b3,b4⟩;refine⟨_,⟨7,0,0⟩,ir ⟨bl,rfl,rfl,B.few U⟩,rfl,e,?_,b3,b4⟩
    refine fP.x (M:=[]) b I ch a0 (fun a=>absurd (v.symm.trans a) (by omega)) ?_ ?_ ⟨V,y,u,T,by rw [A];exact l,by rw [A];exact m,by rw [kh];exact z⟩
    ·rw [A];exact gD (gL.same ci b.blk.1) b.dur.res
    ·rw [A];exact jc (fun av=>Int.ediv_nonneg b.time.1 t.y.1) b.dur.wnd
  ·obtain⟨R,bd,bg⟩:=mW J g f c.time c.adm c.blk c.es F q w v t B s;refine bg.mono ?_
   rintro r n ⟨rfl,bk⟩;exact⟨_,_,il ⟨rfl,rfl⟩,rfl,cp R (ir (ir (pn bd))) bk⟩
 by_cases x:q.op=2
 ·by_cases s:∃ d,aZ q.key (stands c.es)=some d/\kA d c.time q.n
  ·obtain⟨d,cw,s⟩:=s;obtain⟨E,H⟩:=cj cw;have ck:d.ok:=ao.qt _ (aR H);have G:=jbD (L:=c.ld) x cw s;have cX:(ar q.key c.es).isSome=true:=by rw [H];rfl
   have b7:gL c.blk d E:=b.dur.res _ (aR H);obtain⟨cr,ek,c6,c7,eS,c8⟩:=ij d c.time q.n ck t.n.1 s.1;have cl:=(jZ d c.time q.n ck b.time.1 b.time.2 t.n.1).1;cases bj:cT E (aI d c.time q.n).1 with
   | true=>
    have ds:=vp b7 ck t.n.1 s bj;refine (iM J g f c.time c.adm c.blk c.es (aJ q.key ((aI d c.time q.n).1,E) c.es) F q 2 (aI d c.time q.n).2.a (aI d c.time q.n).2.b w x B (fun p o=>nu J g f c.time c.adm c.blk c.es F q p t b.time ao o d E H s bj)).mono ?_
    rintro r n ⟨rfl,e,l,m,z⟩;rw [if_pos rfl] at l;have bu:(aI d c.time q.n).2=⟨2,(aI d c.time q.n).2.a,(aI d c.time q.n).2.b⟩:=by rw [<-s.1]
    refine⟨_,⟨2,(aI d c.time q.n).2.a,(aI d c.time q.n).2.b⟩,il ⟨rfl,by rw [G];exact bu.symm⟩,rfl,e,?_,m,z⟩
    show aU db c.blk (gm D c.ld q) (i.dn 4) n g f (aS c.ld q).1 e;rw [vC (by omega) (by omega) (kP x _),G];refine⟨⟨c.time,(c.adm+q.n) % 18446744073709551616,c.blk,aJ q.key ((aI d c.time q.n).1,E) c.es,c.turn,c.fsD,c.fsN⟩,⟨b.time,by show 0<=(c.adm+q.n) % 18446744073709551616/\(c.adm+q.n) % 18446744073709551616<=18446744073709551615;omega,b.blk,b.turn,dj b.nd,qX t.key b.key,vU cl b.qt,gC (b.fit _ (aR H)) b.fit,by show (aJ q.key ((aI d c.time q.n).1,E) c.es).length<=12;rw [bf cX,cQ];exact b.len,b.dur.cover H ds⟩,?_,⟨rfl,fE.cover I.1 H ds,(fun a=>by cases a),I.2.2⟩,l.led.less ct⟩
    show (⟨c.time,(c.adm+q.n) % 18446744073709551616,stands (aJ q.key ((aI d c.time q.n).1,E) c.es)⟩:Ld)=_;rw [bf cX,eH];rfl
   | false=>
    have bl:cP c.ld q:=⟨by omega,by omega,by rw [G];exact ir s.1⟩;have a4:eI c.ld q=(aI d c.time q.n).1:=by
     unfold eI;show (match aZ q.key (stands c.es) with | some d=>_ | none=>_)=_
     rw [cw];rfl
    have dk:(bA (aI d c.time q.n).1 c.blk).ok:=mQ _ c.blk cl b.blk.1;have b6:=rS (aI d c.time q.n).1 c.blk cl b.blk.1 c7;have A:fk ⟨q,eI c.ld q⟩ c.blk c.es=aJ q.key ((aI d c.time q.n).1,bA (aI d c.time q.n).1 c.blk) c.es:=by unfold fk;rw [if_neg v,if_neg (by show ¬q.op=4;omega),if_pos x];dsimp only;rw [a4]
    have dN:E.wn<=(aI d c.time q.n).1.wn/\(E.wn=(aI d c.time q.n).1.wn->E.lv<(aI d c.time q.n).1.lv):=by
     unfold cT at bj;simp at bj;refine⟨?_,fun r=>?_⟩
     ·by_cases av:d.kd=1
      ·have:=vg c.time q.n av;rw [this,b7.wn];exact Int.le_refl _
      ·rw [c8 av,<-b7.y];refine b.dur.wnd _ (aR H) ?_
       show E.kd=2;rw [b7.kd];rcases ck.kd with a | a
       ·exact absurd a.1 av
       ·exact a.1
     ·have:=bj r.symm;omega
    have a0:jT ⟨q,eI c.ld q⟩ c.es:=⟨t,fun a=>absurd a v,fun a=>absurd (x.symm.trans a) (by omega),fun _=>⟨d,E,H,by rw [a4];exact cl,by rw [a4];exact cr,by rw [a4];exact ek,by rw [a4];exact c6,by rw [a4];exact dN.1,by rw [a4];exact dN.2,by rw [a4];exact c7,by rw [a4];exact fun av=>(vg c.time q.n (cr.symm.trans av)).trans b7.wn.symm⟩⟩;have C:=ao.vir (blk:=c.blk) a0;rw [A] at C;have dR:∀ j∈aJ q.key ((aI d c.time q.n).1,bA (aI d c.time q.n).1 c.blk) c.es,j.2.2.kd=2->j.2.2.wn<=c.time / j.2.2.y:=by
     refine jc (fun av=>?_) b.dur.wnd
     have R:(bA (aI d c.time q.n).1 c.blk).wn=(aI d c.time q.n).1.wn:=b6.wn;have bd:(bA (aI d c.time q.n).1 c.blk).y=d.y:=b6.y.trans c6;have cq:d.kd≠1:=fun r=>by have o:(bA (aI d c.time q.n).1 c.blk).kd=1:=(b6.kd.trans cr).trans r;have P:(bA (aI d c.time q.n).1 c.blk).kd=2:=av;omega
     show (bA (aI d c.time q.n).1 c.blk).wn<=c.time / (bA (aI d c.time q.n).1 c.blk).y;rw [R,bd,c8 cq];exact Int.le_refl _
    by_cases U:jk W S
    ·refine (kM J g f c.time c.adm c.blk c.es F q w x t b.time b.blk ao B d E H s bj 2 (aI d c.time q.n).2.a (aI d c.time q.n).2.b (Post2:=fun w e=>aU db c.blk (gm D c.ld q) (i.dn 4) w g f (aS c.ld q).1 e) KP.pp ⟨fun a bz a1=>aU.kept a bz a1,fun a=>aU.lt a⟩ (fun w e a=>?_) (fun p cc o=>?_) (cF U C (gC dk.fit b.fit) (gD b6 b.dur.res) dR)).mono ?_
     ·obtain⟨c4,_,_,⟨a9,_⟩,a⟩:=a;obtain⟨a6,a8,a7,X,_⟩:=a.mem;rw [ab X 3,<-a9];rfl
     ·obtain⟨N,Q,cx,⟨cy,ey,ez⟩,o⟩:=o;obtain⟨a6,a8,a7,X,bF,_⟩:=o.mem;refine (nM f _ _ _ _ _ _ N.adm q.n ((N.adm+q.n) % 18446744073709551616) _ _ (by rw [IntKind.wrap_u64]) p X).mono ?_
      rintro r n ⟨rfl,l,m⟩;obtain⟨e,b8,bo,b9⟩:=o.count ⟨_,_,_,_,X,l⟩ m;refine⟨rfl,e,?_,bo,b9⟩
      rw [vC (by omega) (by omega) (kP x _),G];refine⟨⟨N.time,(N.adm+q.n) % 18446744073709551616,N.blk,N.es,N.turn,N.fsD,N.fsN⟩,⟨Q.time,by show 0<=(N.adm+q.n) % 18446744073709551616/\(N.adm+q.n) % 18446744073709551616<=18446744073709551615;omega,Q.blk,Q.turn,Q.nd,Q.key,Q.qt,Q.fit,Q.len,Q.dur⟩,?_,⟨cy,ey false,(fun a=>by cases a),ez⟩,b8.less ⟨by dsimp only [Bu.dn];omega,by dsimp only [Bu.dn];omega⟩⟩
      injection cx with R bd cq;show (⟨N.time,(N.adm+q.n) % 18446744073709551616,stands N.es⟩:Ld)=_;rw [R,bd,cq,bf cX,eH];rfl
     ·rintro r n ⟨rfl,e,l,m⟩;exact⟨_,⟨2,(aI d c.time q.n).2.a,(aI d c.time q.n).2.b⟩,il ⟨rfl,by rw [G,<-s.1];rfl⟩,rfl,e,l,m⟩
    refine (kM J g f c.time c.adm c.blk c.es F q w x t b.time b.blk ao B d E H s bj 7 0 0 (fP.pp (i.l<2) g f db c (aJ q.key ((aI d c.time q.n).1,bA (aI d c.time q.n).1 c.blk) c.es)) (fP.pp (i.l<2) g f db c (aJ q.key ((aI d c.time q.n).1,bA (aI d c.time q.n).1 c.blk) c.es)) (fun w e a=>?_) (ct7 (fP.pp _ _ _ _ _ _) f q.n) (fun p Y o a5 bi=>?_)).mono ?_
    ·obtain⟨_,_,_,_,_,_,a⟩:=a;obtain⟨a6,a8,a7,X,_⟩:=a.mem;rw [ab X 3];rfl
    ·refine (jb1 i W S U g f db Y c F _ _ _ _ p o b a5 bi C.nd C.key (gC dk.fit b.fit) C.len).mono ?_
     rintro r n ⟨rfl,e,⟨l,_⟩,m⟩;exact⟨rfl,e,l,m⟩
    ·rintro r n ⟨rfl,e,⟨V,y,u,T,l,m,z⟩,b3,b4⟩;refine⟨_,⟨7,0,0⟩,ir ⟨bl,rfl,rfl,B.few U⟩,rfl,e,?_,b3,b4⟩
     refine fP.x (M:=[]) b I ch a0 (fun a=>absurd (x.symm.trans a) (by omega)) ?_ ?_ ⟨V,y,u,T,by rw [A];exact l,by rw [A];exact m,by rw [kh];exact z⟩
     ·rw [A];exact gD b6 b.dur.res
     ·rw [A];exact dR
  ·have dl:∀ d,aZ q.key (stands c.es)=some d->¬kA d c.time q.n:=fun d o P=>s ⟨d,o,P⟩;obtain⟨ef,eg⟩:=jbC (L:=c.ld) x dl;refine (iM J g f c.time c.adm c.blk c.es c.es F q (fY c.ld q).2.c (fY c.ld q).2.a (fY c.ld q).2.b w x B (fun p o=>(nt J g f c.time c.adm c.blk c.es F q p t b.time ao o dl).2)).mono ?_
   rintro r n ⟨rfl,e,l,m,z⟩;refine⟨_,_,il ⟨rfl,ef.symm⟩,rfl,e,?_,m,z⟩
   show aU db c.blk (gm D c.ld q) (i.dn 4) n g f (aS c.ld q).1 e;rw [vC (by omega) (by omega) (kP x _),eg];refine⟨⟨c.time,if (fY c.ld q).2.c=2 then (c.adm+q.n) % 18446744073709551616 else c.adm,c.blk,c.es,c.turn,c.fsD,c.fsN⟩,⟨b.time,?_,b.blk,b.turn,b.nd,b.key,b.qt,b.fit,b.len,b.dur⟩,rfl,⟨rfl,I.1,(fun a=>by cases a),I.2.2⟩,l.led.less ct⟩
   have:=b.adm;dsimp only;split
   ·omega
   ·exact b.adm
 by_cases bb:q.op=3
 ·obtain⟨R,bg⟩:=qx J g f c.time c.adm c.blk c.es F q w bb t b.time ao B;refine bg.mono ?_
  rintro r n ⟨rfl,bk⟩;exact⟨_,_,il ⟨rfl,rfl⟩,rfl,cp R (il bb) bk⟩
 by_cases a2:q.op=4
 ·cases bw:aZ q.key (stands c.es) with
  | none=>
   obtain⟨R,bg⟩:=mX J g f c.time c.adm c.blk c.es F q w a2 t B bw;have bs:aS c.ld q=(c.ld,⟨4,0,0⟩):=R;refine bg.mono ?_
   rintro r n ⟨rfl,bk⟩;exact⟨_,⟨4,0,0⟩,il ⟨rfl,by rw [bs]⟩,rfl,cp (by rw [bs]) (ir (ir (by rw [bs];exact pn (by simp)))) bk⟩
  | some d=>
   obtain⟨E,H⟩:=cj bw;have bl:cP c.ld q:=by
    refine⟨by omega,by omega,il ?_⟩
    unfold aS;rw [if_neg v,if_neg x,if_neg bb,if_pos a2];show (match aZ q.key (stands c.es) with | none=>_ | some _=>_:Ld×Rp).2.c=1
    rw [bw]
   have A:fk ⟨q,eI c.ld q⟩ c.blk c.es=br q.key c.es:=by unfold fk;rw [if_neg v,if_pos a2]
   have a0:jT ⟨q,eI c.ld q⟩ c.es:=⟨t,fun a=>absurd a v,fun _=>by show (ar q.key c.es).isSome=true;rw [H];rfl,fun a=>absurd a x⟩;have C:=ao.vir (blk:=c.blk) a0;rw [A] at C;have b0:∀ j∈br q.key c.es,j∈c.es:=fun j K=>cg.subset K;by_cases U:jk W S
   ·refine (jag J g f c.time c.adm c.blk c.es F q w a2 t ao B d E H KP.pp (cF U C (fun j K=>b.fit j (b0 j K)) (fun j K=>b.dur.res j (b0 j K)) (fun j K=>b.dur.wnd j (b0 j K)))).mono ?_
    rintro r n ⟨rfl,e,l,m⟩;have G:aS c.ld q=(⟨c.time,c.adm,del q.key (stands c.es)⟩,⟨1,0,0⟩):=by
     unfold aS;rw [if_neg v,if_neg x,if_neg bb,if_pos a2];show (match aZ q.key (stands c.es) with | none=>_ | some _=>_:Ld×Rp)=_
     rw [bw];rfl
    exact⟨_,⟨1,0,0⟩,il ⟨rfl,by rw [G]⟩,rfl,e,l.srv (by rw [G,iq]) (by omega) (by omega),m⟩
   refine (mU J g f c.time c.adm c.blk c.es F q w a2 t ao B d E H (Post2:=fun w F=>∃ (V:List Ky) (y:Pd) (u:Bool) (T:Fs),V.Perm ((br q.key c.es).map Prod.fst)/\FlO (i.l<2) (au c.turn % 2==1) (strOfNums (aX (au c.turn) c.time (br q.key c.es) V)) c.fsN T y u/\az (ed db c.fsD T y u) w g f c.time c.adm c.blk (msk [q.key] c.es) F) (fP.pp (i.l<2) g f db c (br q.key c.es)) ⟨fun ⟨V,y,u,T,o,P,a9⟩ bz a1=>⟨V,y,u,T,o,P,a9.kept ed.fra bz a1⟩,fun ⟨_,_,_,_,_,_,a⟩=>a.lt⟩ (fun w e a=>?_) (fun p eN a6 e a es dm av=>?_) (fun p Y o a5 bi=>jb1 i W S U g f db Y c F _ 1 0 0 p o b a5 bi C.nd C.key (fun j K=>b.fit j (b0 j K)) C.len)).mono ?_
   ·obtain⟨_,_,_,_,_,_,a⟩:=a;obtain⟨a6,a8,a7,X,bF,_⟩:=a.mem;exact⟨a6,_,_,_,_,_,_,X,bF,a.own⟩
   ·obtain⟨V,y,u,T,l,m,z⟩:=a;have eb:aJ q.key (d,(⟨0,0,0,0,0⟩:Qt)) c.es=msk [q.key] c.es:=by
     have:=qY (M:=[]) b.nd H;rw [kh] at this;exact this
    rw [eb] at dm;exact⟨V,y,u,T,l,m,(z.kept ed.fra lz (fun _ _=>rfl):az (ed db c.fsD T y u) p.drew g f c.time c.adm c.blk c.es e).turn ed.fra es dm av⟩
   ·rintro r n ⟨rfl,e,⟨V,y,u,T,l,m,z⟩,b3,b4⟩;refine⟨_,⟨7,0,0⟩,ir ⟨bl,rfl,rfl,B.few U⟩,rfl,e,?_,b3,b4⟩
    refine fP.x (M:=[q.key]) b I ch a0 (fun _=>List.mem_singleton.2 rfl) ?_ ?_ ⟨V,y,u,T,by rw [A];exact l,by rw [A];exact m,z⟩
    ·rw [A];exact fun j K=>b.dur.res j (b0 j K)
    ·rw [A];exact fun j K=>b.dur.wnd j (b0 j K)
 by_cases bK:q.op=6
 ·obtain⟨R,bg⟩:=qw J g f c.time c.adm c.blk c.es F q w bK B;have bs:aS c.ld q=(c.ld,⟨1,c.time,0⟩):=R;refine bg.mono ?_
  rintro r n ⟨rfl,bk⟩;exact⟨_,⟨1,c.time,0⟩,il ⟨rfl,by rw [bs]⟩,rfl,cp (by rw [bs]) (ir (il bK)) bk⟩
 ·have G:aS c.ld q=(c.ld,⟨1,0,0⟩):=by unfold aS;rw [if_neg v,if_neg x,if_neg bb,if_neg a2,if_neg bK]
  have bl:cP c.ld q:=⟨bb,bK,by rw [G];exact il rfl⟩;have ei:gm D c.ld q=⟨c.time,false⟩:=by
   have ej:lD q ⟨1,0,0⟩=some true:=by simp [lD,eh,oneB,v,x,bb,a2,bK]
   unfold gm;rw [G];show (match lD q ⟨1,0,0⟩ with | none=>D | some Z=>(⟨if Z then c.ld.time else D.t,false⟩:Dx))=_
   rw [ej];rfl
  refine (qz f (fun p=>az (PLf i db W S c.turn c.fsD c.fsN) p g f c.time c.adm c.blk c.es F) (fun a3 w F=>(a3=1/\aU db c.blk ⟨c.time,false⟩ (i.dn 4) w g f c.ld F)\/(a3=7/\(i.l<4\/i.f<4)/\da db c.blk w g f c.ld ⟨D.t,false⟩ ⟨q,eI c.ld q⟩ i F)) (fun a3=>⟨fun a bz a1=>a.imp (fun a=>⟨a.1,a.2.kept bz a1⟩) (fun a=>⟨a.1,a.2.1,a.2.2.kept bz a1⟩),fun a=>a.elim (fun a=>a.2.lt) (fun a=>a.2.2.lt)⟩) F q w v x bb a2 bK (aa (fun p a1=>B.below J a1 lz)) em (aa (fun p o=>?_))).mono ?_
  ·obtain⟨a6,a8,a7,X,bF,⟨⟨eA,d3⟩,eD⟩,eB,cR,d4,d5,cU,cV,cG,d0,d1,d2⟩:=o.mem;obtain⟨e0,nb,_,_,_,c5,d9,_⟩:=d3.mem;have ev:ie i W S p a8 db a6 c.turn c.time c.es c.fsD c.fsN a7:=⟨bF,b.nd,b.key,b.fit,b.len,b.turn.1,b.turn.2,b.time.1,b.time.2,eA,d3,eD,cU,cV,cG⟩;have er:RnW c.turn c.time c.es c.fsD c.fsN (fun b1 O ad=>fE c.time c.time c.blk c.es b1 O/\(Sm c.fsD c.fsN->Sm O ad)):=fun V d8 eQ eX eV K bw=>by
    have df:=b.dur.keep b.turn b.time b.nd b.key b.len b.dur.res b.dur.wnd K d8;have I:(IntKind.u64.wrap (au c.turn - 1) % 2==1)=!(au c.turn % 2==1):=by
     rw [fu,Bool.not_not];have:IntKind.u64.wrap (au c.turn - 1)=c.turn:=by have:=b.turn;unfold au;rw [IntKind.wrap_u64];omega
     rw [this]
    rcases bw with ⟨rfl,rfl⟩ | ⟨rfl,rfl,eE,eF⟩
    ·exact⟨df,fun a=>a.put _ _ _ _⟩
    ·refine⟨?_,fun a=>(a.put _ _ _ _).del _ eE eF⟩
     rw [I];exact df.swept (dj c5.nd)
   have a5:=cY.renew i (φ:=⟨q,eI c.ld q⟩) b I.1 t v x a2 c5.nd d9.nd;refine (jbm f a6 a8 _ _ _ c.time c.blk a7 p X (fun Z a1=>a1.elim (fun r=>r▸eB) (fun a=>o.lt Z (cR Z a))) (fun cb b2 n=>RnX i b2 n a8 db a7 (fun b1 O ad=>fE c.time c.time c.blk c.es b1 O/\(Sm c.fsD c.fsN->Sm O ad)) (fun O ad y u=>cY D.t c.time c.blk ⟨q,eI c.ld q⟩ [] c.es O y/\(u=false->Sm c.fsD c.fsN->∀ c3,Sm (vT y c3 O) ad)/\(u=true->i.l<4)) cb) (fun cb b2 n a=>?_) (aa (fun b2 eq=>(jfH i W S a8 db a6 c.turn c.time c.es c.fsD c.fsN a7 b2 (ev.to eq) (aa er) (aa a5)).mono ?_))).mono ?_
   ·rcases a with ⟨_,a⟩ | ⟨_,_,_,a⟩
    ·obtain⟨_,_,_,_,_,_,_,_,a⟩:=a;exact a
    ·obtain⟨_,_,_,_,_,_,_,_,_,a⟩:=a;exact a
   ·rintro r n ⟨cb,rfl,a⟩;exact⟨cb,rfl,a.imp (fun a=>a.1) (fun ⟨bu,a,_⟩=>⟨bu,a⟩),a⟩
   ·rintro r n ⟨cb,a3,b2,eN,rfl,a0,di,dt,eo,rfl⟩;rcases eo with ⟨rfl,b1,O,ad,e,⟨c0,cn,c1⟩,b8,bo,b9,c2⟩ | ⟨bu,rfl,eL,O,ad,y,u,e,⟨c0,cn,c1⟩,b8,bo,b9,c2⟩
    ·have cv:a3=1:=by
      rcases a0 with ⟨_,a⟩ | ⟨⟨bu,a⟩,_⟩
      ·exact a
      ·cases a
     subst cv;obtain⟨cc,l,m,z⟩:=vO (mM.fra (db:=db) (k:=i.dn 4) (turn:=b1) (fsD:=O) (fsN:=ad)) X bF o.lt o.own cR d4 d5 cU cV cG d0 d1 d2 di dt c2 b9 bo.lt ⟨b8,bo⟩ 1;refine⟨1,rfl,cc,il ⟨rfl,⟨⟨c.time,c.adm,c.blk,c.es,b1,O,ad⟩,⟨b.time,b.adm,b.blk,c0,b.nd,b.key,b.qt,b.fit,b.len,cn.less b.time.1⟩,rfl,⟨rfl,cn,(fun a=>by cases a),c1 I.2.2⟩,jfs l⟩⟩,m,z⟩
    ·have cv:a3=7:=by
      rcases a0 with ⟨a,_⟩ | ⟨_,a⟩
      ·cases a
      ·exact a
     subst cv;obtain⟨cc,l,m,z⟩:=vO (ed.fra (db:=db) (fsD:=O) (fsN:=ad) (pd:=y) (dn:=u)) X bF o.lt o.own cR d4 d5 cU cV cG d0 d1 d2 di dt c2 b9 bo.lt ⟨⟨bu,b8⟩,bo⟩ 7;exact⟨7,rfl,cc,ir ⟨rfl,eL,[],c.es,O,ad,y,u,rfl,⟨b.time,b.adm,b.blk,ch⟩,c0,⟨fun s c3=>cn s I.2.2 c3,c1⟩,by rw [kh];exact l⟩,m,z⟩
  ·rintro r n ⟨a3,rfl,e,⟨rfl,l⟩ | ⟨rfl,el,l⟩,m,z⟩
   ·refine⟨_,⟨1,0,0⟩,il ⟨rfl,by rw [G]⟩,rfl,e,?_,m,z⟩
    show aU db c.blk (gm D c.ld q) (i.dn 4) n g f (aS c.ld q).1 e;rw [ei,G];exact l
   ·exact⟨_,⟨7,0,0⟩,ir ⟨bl,rfl,rfl,el⟩,rfl,e,l,m,z⟩
theorem doX (db:Nat)(blk b:Int)(a:Nat)(X:Xs)(F:NP)(q:Rq)(w:World)(g:bH db blk w b a X F)(k:0<=X.D.t)(i:q.ok):DoX db blk b a X F q w:=by
 obtain⟨f,c,m,d⟩:=X;cases m with
 | none=>
  obtain⟨j,n,o,e,l⟩:=(g:aU db blk c d w b a f F);obtain⟨e,p⟩:=e;subst o e;exact doW d db b a j c F q w n p l k i
 | some r=>exact doI db blk b a f c r d F q w g i
def cI:Xs->List (Rq×Rp)->Xs->Prop
 | X,[],X'=>X'=X
 | X,(q,r) :: l,X'=>∃ a,ea X q a r/\cI a l X'
theorem cI.snoc {q:Rq}{c:Rp}{a Z:Xs}(b:ea a q Z c):∀ {l:List (Rq×Rp)}{X:Xs},cI X l a->cI X (l ++ [(q,c)]) Z
 | [],X,h=>by
  have d:a=X:=h;subst d;exact⟨Z,b,rfl⟩
 | (q',r') :: l,X,⟨V,h1,h2⟩=>⟨V,h1,cI.snoc b h2⟩
def pZ (X:Xs):Prop:=X.L.ok/\0<=X.D.t
theorem ea.ok {X X':Xs}{q:Rq}{f:Rp}(d:ea X q X' f)(a:pZ X)(i:q.ok):pZ X'/\f.ok:=by
 obtain⟨c,g,j,k⟩:=X;have e:(⟨7,0,0⟩:Rp).ok:=⟨by simp,by simp,by simp⟩;have b:=pm c q a.1 i;cases j with
 | none=>
  rcases d with ⟨rfl,rfl⟩ | ⟨_,rfl,rfl,_⟩
  ·refine⟨⟨b.1,?_⟩,b.2⟩
   show 0<=(gm g c q).t;unfold gm;split
   ·exact a.2
   ·dsimp only;split
    ·exact a.1.time.1
    ·exact a.2
  ·exact⟨⟨a.1,a.2⟩,e⟩
 | some l=>
  rcases d with ⟨_,rfl,rfl⟩ | ⟨rfl,rfl,_⟩
  ·exact⟨a,e⟩
  ·exact⟨⟨b.1,a.2⟩,b.2⟩
theorem bH.kept {db:Nat}{blk:Int}{w w':World}{f:Int}{e:Nat}{X:Xs}{F:NP}(a:bH db blk w f e X F)(d:w.heap.size<=w'.heap.size)(c:∀ b,F b->w'.heap[b]?=w.heap[b]?):bH db blk w' f e X F:=by
 obtain⟨j,i,g,k⟩:=X;cases g with
 | none=>exact aU.kept a d c
 | some l=>exact da.kept a d c
theorem bH.lt {db:Nat}{blk:Int}{w:World}{e:Int}{d:Nat}{X:Xs}{F:NP}(a:bH db blk w e d X F):∀ b,F b->b<w.heap.size:=by
 obtain⟨g,f,c,i⟩:=X;cases c with
 | none=>exact aU.lt a
 | some j=>exact da.lt a
theorem bH.below {db:Nat}{blk:Int}{w w':World}{e:Int}{d:Nat}{X:Xs}{F:NP}(b:bH db blk w e d X F){B:Nat}(c:Below B w w')(f:w.heap.size<=B):bH db blk w' e d X F:=
 b.kept c.size fun a g=>c.block a (ll (b.lt a g) f)
theorem bH.drew {db:Nat}{blk:Int}{w:World}{b:Int}{a:Nat}{X:Xs}{F:NP}(c:bH db blk w b a X F):bH db blk w.drew b a X F:=c.kept lz fun _ _=>rfl
structure RdJ (db:Nat)(blk:Int)(w:World)(F:NP)(st:Int)(sb cb rb:Nat)(cc:Array Value)(X0:Xs)(bs0:List Int)(X:Xs)(bs:List Int)(l:List (Rq×Rp))(rs:List Rp)(F':NP)(v1 v5:Value)(wr:World):Prop where
 runD:cI X0 l X/\rs=l.map Prod.snd
 run:dD bs0=(l.map Prod.fst ++ (dD bs).1,(dD bs).2)
 sl:Sl wr v1 bs
 le:18 * rs.length+9 * bs.length<=9 * bs0.length
 by_:Bytes bs
 own:wr.ownsRow w.heap.size 5 1 v5 (bG rs).length ((bG rs).map (Value.int .u8))
 req:wr.heap[rb]?=some (.cells (rqc (rdQ bs)) 65)
 srv:bH db blk wr st sb X F'
 lok:pZ X
 F1:∀ b,F' b->F b\/w.heap.size<=b
 F2:¬F' rb
 F3:∀ g,v5.ownBlock=some g->¬F' g/\g≠rb
 F4:∀ g o n c,v1=.slice (some ⟨g,o,none⟩) n c->g<w.heap.size/\¬F g
 conn:wr.heap[cb]?=some (.cells cc 112)
 keep:ae F w wr
theorem jej (db:Nat)(blk a2:Int)(E m:Nat)(F:NP)(bj:Xs)(G:List Int)(b9 dt ck:Value)(w:World)(d1:bH db blk w a2 E bj F)(eN:pZ bj)(cx:w.heap[m]?=some (uU E dt ck))(cq:¬F m)
  (ef:Sl w b9 G) (ei:∀ g o n c,b9=.slice (some ⟨g,o,none⟩) n c->g<w.heap.size/\¬F g) (d4:Bytes G) (fN:G.length<=100000) :
  Calls prog 48 #[pO m 0,b9] w fun e w'=>∃ (bw:Value) (v:NP) (X':Xs) (l:List (Rq×Rp)),e=.returned bw/\(cI bj l X'/\pZ X'/\l.map Prod.fst=(dD G).1)/\bH db blk w' a2 E X' v/\(∀ b,v b->F b\/w.heap.size<=b)/\ae (fun b=>F b\/b=m) w w'/\
   ((dD G).2.2=2/\w'.heap[m]?=some (Ug E)/\w'.ownsRow w.heap.size 5 1 bw (bG (l.map Prod.snd ++ [⟨6,0,0⟩])).length ((bG (l.map Prod.snd ++ [⟨6,0,0⟩])).map (Value.int .u8))\/
    (dD G).2.2≠2/\∃ cc,w'.heap[m]?=some (uU E cc ck)/\w'.ownsRow w.heap.size 5 1 cc (dD G).2.1.length ((dD G).2.1.map (Value.int .u8))/\(∀ g,cc.ownBlock=some g->¬v g)/\w'.ownsRow w.heap.size 5 1 bw (bG (l.map Prod.snd)).length ((bG (l.map Prod.snd)).map (Value.int .u8))):=by
 have dR:=d1.lt;have fa:=am cx;have ev:=aa cx;have c8:=aa d4;have dn:=aa ef;have ez:=aa ei;clear cx d4 ef ei;go_enter func48,ntmps48
 go_wp2_with fail
 refine (tG b9 G w dn.out (by omega) (fun Y=>c8.out.getD Y) _ rfl _ _ rfl rfl).mono ?_
 rintro e p ⟨rfl,bd⟩;go_wp2_with fail
 go_loopw [1,5,7,8] (fun c5 fl fm fn wr=>∃ ao q l I v,RdJ db blk w F a2 E m p.heap.size #[pO E 0,dt,ck] bj G ao q l I v c5 fl wr/\fm=.int .i64 (dT q)/\fn=sH (aF q)) (fun c5 _ _ _ _=>fA c5)
 case atStart=>
  have e5:=bd.size;refine⟨bj,G,[],[],F,⟨⟨rfl,rfl⟩,by simp,(dn.out.below bd lz).kept (by simp) (fun g _ _ _ _ b5=>ah _ _ b5),by simp,c8.out,World.ownsRow_nil _ _ _ _,af _ _,(d1.below bd lz).kept (by simp) (fun b cs=>ah _ _ (by have:=dR b cs;omega)),eN,fun b cs=>il cs,fun d=>by have:=dR _ d;omega,fun g b5=>by simp [Value.ownBlock] at b5,ez.out,aB ((bd.block m fa).trans ev.out) _,(ae.of_below bd).alloc _⟩,rfl,rfl⟩
 case round=>
  obtain⟨ao,q,l,I,v,s,rfl,rfl⟩:=hrel;have e5:=bd.size;by_cases P:aF q=0
  ·obtain⟨ff,er,c4,fi⟩:=dG q P;have av:sH (aF q)=.nilIface:=by rw [P];rfl
   rw [av,c4];have j:=aa s;rcases s.sl with ⟨cX,_⟩ | ⟨e4,g,o,c,c2,ct,b5,cy⟩
   ·rw [cX] at P;simp [aF] at P
   subst c2;obtain⟨t,b7⟩:∃ t,t=rdQ q:=⟨_,rfl⟩;obtain⟨r,cV⟩:∃ r,r=(dT q).toNat:=⟨_,rfl⟩;obtain⟨n,a0⟩:∃ n,n=q.length:=⟨_,rfl⟩;rw [<-cV] at ff er fi ⊢;rw [<-a0] at er ct e4 ⊢;have b8:t.ok:=b7▸jcC q s.by_;have d5:∀ p,bH db blk p a2 E ao v->DoX db blk a2 E ao v t p:=fun p d=>doX db blk a2 E ao v t p d s.lok.2 b8;have HD:=aa d5;have ch:=aa s.lok;have W:=s.conn;have C:wr.heap[p.heap.size]?=some (oh t):=b7▸s.req;have cn:=s.F2;have cp:=s.F4 g o _ c (by rw [<-a0]);have eL:¬v m:=fun d=>(s.F1 _ d).elim cq (fun d=>by omega);have fv:¬v g:=fun d=>(s.F1 _ d).elim cp.2 (fun d=>by omega);have d2:=s.keep.size;have fd:=am C;have V:=aa s.own;have cR:(bG I).length+18<=4194304:=by have:=s.le;rw [eP];omega
   have a3:=aa s.F3;have eA:Hid (bH db blk wr a2 E ao v):=aa s.srv;have dl:=aa cV;have ad:=aa a0;have dm:=aa b7;have fr:=aa c4;have dd:=aa P;clear d5 s cy cV a0 b7 c4 P av;go_wp2_with fail
   go_region_held3 (fun w'=>w'.cell? ⟨m,0,none⟩=some (.pointer (some ⟨E,0,none⟩))/\w'.cell? ⟨p.heap.size,0,none⟩=some (.int .u8 t.op)/\w'.cell? ⟨p.heap.size,1,none⟩=some (.int .u8 t.k0)/\w'.cell? ⟨p.heap.size,2,none⟩=some (.int .u8 t.k1)/\w'.cell? ⟨p.heap.size,3,none⟩=some (.int .u8 t.k2)/\w'.cell? ⟨p.heap.size,4,none⟩=some (.int .u8 t.k3)/\w'.cell? ⟨p.heap.size,5,none⟩=some (.int .u8 t.k4)/\w'.cell? ⟨p.heap.size,6,none⟩=some (.int .u8 t.k5)/\w'.cell? ⟨p.heap.size,7,none⟩=some (.int .u8 t.k6)/\w'.cell? ⟨p.heap.size,8,none⟩=some (.int .u8 t.k7)/\w'.cell? ⟨p.heap.size,9,none⟩=some (.int .u8 t.kd)/\w'.cell? ⟨p.heap.size,10,none⟩=some (.int .u64 t.x)/\w'.cell? ⟨p.heap.size,11,none⟩=some (.int .u64 t.y)/\w'.cell? ⟨p.heap.size,12,none⟩=some (.int .u64 t.n))
    (first | (exact⟨ab bl 0,ab u 0,ab u 1,ab u 2,ab u 3,ab u 4,ab u 5,ab u 6,ab u 7,ab u 8,ab u 9,ab u 10,ab u 11,ab u 12⟩) | (exact⟨ab a4 0,ab B 0,ab B 1,ab B 2,ab B 3,ab B 4,ab B 5,ab B 6,ab B 7,ab B 8,ab B 9,ab B 10,ab B 11,ab B 12⟩) | (exact⟨ab cv 0,ab A 0,ab A 1,ab A 2,ab A 3,ab A 4,ab A 5,ab A 6,ab A 7,ab A 8,ab A 9,ab A 10,ab A 11,ab A 12⟩) | (exact⟨ab W 0,ab C 0,ab C 1,ab C 2,ab C 3,ab C 4,ab C 5,ab C 6,ab C 7,ab C 8,ab C 9,ab C 10,ab C 11,ab C 12⟩))
    (first | (go_at_call 74;(refine (HD.out _ eA.out.drew).mono ?_;rintro e et ⟨ci,T,c1,rfl,Z,bv,a1,a8⟩;have b0:=aa c1;have bF:=aa (c1.ok ch.out b8).2;clear c1;have cv:=(a1.block m (am W) eL).trans W;have A:=(a1.block p.heap.size fd cn).trans C))
           | (go_at_call 73;(refine (wrep T.c T.a T.b _ bF.out.a.1 bF.out.a.2 bF.out.b.1 bF.out.b.2).mono ?_;rintro e U ⟨rfl,a5,y⟩;have a4:=(y.block m (am cv)).trans cv;have B:=(y.block p.heap.size (am A)).trans A))
           | ((refine jX (by rfl) _ _ (by rfl) w.heap.size u5 (bG I).length (bG I) (by rfl) (dS V.out (fun a k=>(y.block a (ll (V.out.lt a k).2 a1.size)).trans (a1.block a (V.out.lt a k).2 (a3.out a k).1))) ⟨et.heap.size+1,0,none⟩ 18 18 (bh T.c T.a T.b) (by rfl) (by simp [bh,bI]) (fun Y f3 cF=>by rw [Addr.add_lit,Nat.zero_add];exact (a5.cellAt Y (by have:=(List.getElem?_eq_some_iff.1 cF).1;simp [bh,bI] at this;omega)).trans cF) cR (by have:=y.size;have:=a1.size;have:wr.drew.heap.size=wr.heap.size:=rfl;omega) ?_;intro es N b6 D cU;have bu:∀ a,a<U.heap.size->(∀ f,u5.ownBlock=some f->f≠a)->N.heap[a]?=U.heap[a]?:=fun a k i=>D.block a k (fun e=>i a e.symm rfl);have bl:=(bu m (am a4) (fun f i e=>by have:=(V.out.lt f i).1;omega)).trans a4;have u:=(bu p.heap.size (am B) (fun f i e=>(a3.out f i).2 e)).trans B)))
   have c0:=y.size;have f0:=a1.size;have f1:wr.drew.heap.size=wr.heap.size:=rfl;have eg:=D.size;have d9:∀ a,Z a->(∀ f,u5.ownBlock=some f->f≠a):=fun a k f i e=>by
    subst e;rcases a8 _ k with d | d
    ·exact (a3.out f i).1 d
    ·have:=(V.out.lt f i).2;omega
   have ek:bH db blk N a2 E ci Z:=bv.kept (by omega) (fun a k=>(bu a (ll (bv.lt a k) c0) (d9 a k)).trans (y.block a (bv.lt a k)));have d8:∀ a,a<w.heap.size->¬F a->N.heap[a]?=wr.heap[a]?:=fun a k H=>(bu a (by omega) (fun f i e=>by have:=(V.out.lt f i).1;omega)).trans ((y.block a (by omega)).trans (a1.block a (by show a<wr.heap.size;omega) (fun d=>(j.out.F1 a d).elim H (fun d=>by omega))));have d0:ae F w N:=by
    have c3:ae F w et:=j.out.keep.drew.then a1 (fun eq e0 d=>(j.out.F1 eq d).elim id (fun d=>absurd e0 (Nat.not_lt.2 d)));have Q:ae F w U:=c3.trans (ae.of_below y);exact⟨D.os.trans Q.os,D.tape.trans Q.tape,D.output.trans Q.output,lq Q.size eg,fun a k H=>(bu a (by omega) (fun f i e=>by have:=(V.out.lt f i).1;omega)).trans (Q.block a k H)⟩
   have d3:(q.drop r).length=n - r:=by rw [List.length_drop,<-ad.out]
   have a9:=aa d3;clear d3;obtain⟨cb,em,ej,en⟩:∃ cb,(if c=r then Value.slice (some ⟨g,o,none⟩) (n - r) (c - r) else Value.slice (some ⟨g,o+r,none⟩) (n - r) (c - r))=cb/\Sl N cb (q.drop r)/\(∀ J M R L,cb=.slice (some ⟨J,M,none⟩) R L->J=g):=by
    refine⟨_,rfl,?_,?_⟩
    ·rcases j.out.sl with ⟨cX,_⟩ | ⟨_,J,M,L,c2,fz,d7,cy⟩
     ·rw [cX] at ad;have:=ad.out;simp at this;omega
     ·injection c2 with cl fs eD;injection cl with cl;injection cl with eE eF;subst eE eF eD;by_cases eb:n - r=0
      ·left
       refine⟨List.length_eq_zero_iff.1 (a9.out.trans eb),ir ?_⟩
       rw [eb];split
       ·exact⟨_,_,_,rfl⟩
       ·exact⟨_,_,_,rfl⟩
      ·right
       rw [if_neg (by omega),a9.out];refine⟨by omega,g,o+r,c - r,rfl,by omega,by have:=j.out.F4 g o _ c rfl;omega,fun Y cF=>?_⟩
       have dN:=j.out.F4 g o _ c rfl;rw [World.cell?_of_block (w:=wr) (d8 g dN.1 dN.2),Nat.add_assoc,cy (r+Y) (by rw [<-ad.out];omega)];simp [List.getD,List.getElem?_drop]
    ·intro J M R L d;split at d <;> (injection d with x _ _;injection x with x;injection x with x _;exact x.symm)
   have bK:=aa ej;have b1:=aa ek;have ds:=aa em;have b2:=aa en;have di:=aa d0;have fV:(r:Int)<=(n:Int):=by omega
   have fU:(0:Int)<=(r:Int):=by omega
   clear ej ek em en d0 d8 d9 a5 y D;have dk:=aa cU;have bz:=aa b6;clear cU b6;go_wp2_with fail
   ·have d:=ds.out;rw [if_pos (by omega),show c - r=0 by omega] at d;subst d;refine (tG _ (q.drop r) N bK.out (by rw [a9.out];have:=j.out.le;have:=ad.out;omega) (fun Y=>(j.out.by_.drop r).getD Y) _ rfl _ _ rfl rfl).mono ?_
    rintro e fo ⟨rfl,z⟩;have a6:=(z.block p.heap.size (am u)).trans u;have e6:=z.size;have b3:=ab a6;have b4:=ag a6;go_wp2
    go_roundw
    case rel=>
     have bo:¬Z p.heap.size:=fun d=>(a8 _ d).elim cn (fun d=>by have:wr.heap.size<=_:=d;omega);have bs:=dV q dd.out;rw [<-dm.out,<-dl.out] at bs;have cz:=b0.out.ok ch.out b8;have a7:∀ f,es.ownBlock=some f->f≠p.heap.size/\¬Z f:=by
      intro f i;rcases dk.out with d | d
      ·rw [d] at i;refine⟨(a3.out f i).2,fun H=>(a8 _ H).elim (a3.out f i).1 (fun d=>?_)⟩
       have:=(V.out.lt f i).2;have:wr.heap.size<=_:=d;omega
      ·rw [d] at i;injection i with i;refine⟨by omega,fun H=>?_⟩
       have:=bv.lt f H;omega
     refine⟨ci,q.drop r,l ++ [(t,T)],I ++ [T],Z,⟨?_,?_,?_,?_,j.out.by_.drop r,?_,?_,?_,cz.1,?_,bo,fun f i=>⟨(a7 f i).2,(a7 f i).1⟩,fun J M R L d=>by rw [b2.out J M R L d];exact cp,?_,?_⟩,rfl,rfl⟩
     ·exact⟨j.out.runD.1.snoc b0.out,by rw [j.out.runD.2,List.map_append];rfl⟩
     ·rw [j.out.run,bs];simp [List.map_append]
     ·refine (bK.out.below z lz).kept (by simp) (fun J M R L d d7=>?_)
      have:=b2.out J M R L d;repeat (refine (ac (by omega) _ _).trans ?_)
      rfl
     ·have:=j.out.le;have:=ad.out;rw [List.length_append,a9.out];simp only [List.length_cons,List.length_nil];omega
     ·refine dS (w:=N) ?_ (fun f i=>?_)
      ·have:=bz.out;rw [jr,List.length_append];exact this
      ·have x:=(a7 f i).1;repeat (refine (ac x _ _).trans ?_)
       exact z.block f (bz.out.lt f i).2
     ·exact nf a6 _ _ _ _ _ _ _ _ _ _ _ _ _
     ·refine b1.out.kept (by simp;omega) (fun a k=>?_)
      have x:a≠p.heap.size:=fun e=>bo (e▸k);repeat (refine (ac x _ _).trans ?_)
      exact z.block a (b1.out.lt a k)
     ·exact fun a k=>(a8 a k).elim (j.out.F1 a) (fun d=>ir (by have:wr.heap.size<=a:=d;omega))
     ·repeat (refine (ac (by omega) _ _).trans ?_)
      exact (z.block m (am bl)).trans bl
     ·repeat (refine ae.set ?_ (ir (by omega)) _ _)
      exact di.out.trans (ae.of_below z)
    case measure=>simp [fA];omega
   ·have d:=ds.out;rw [if_neg (by omega)] at d;subst d;refine (tG _ (q.drop r) N bK.out (by rw [a9.out];have:=j.out.le;have:=ad.out;omega) (fun Y=>(j.out.by_.drop r).getD Y) _ rfl _ _ rfl rfl).mono ?_
    rintro e fo ⟨rfl,z⟩;have a6:=(z.block p.heap.size (am u)).trans u;have e6:=z.size;have b3:=ab a6;have b4:=ag a6;go_wp2
    go_roundw
    case rel=>
     have bo:¬Z p.heap.size:=fun d=>(a8 _ d).elim cn (fun d=>by have:wr.heap.size<=_:=d;omega);have bs:=dV q dd.out;rw [<-dm.out,<-dl.out] at bs;have cz:=b0.out.ok ch.out b8;have a7:∀ f,es.ownBlock=some f->f≠p.heap.size/\¬Z f:=by
      intro f i;rcases dk.out with d | d
      ·rw [d] at i;refine⟨(a3.out f i).2,fun H=>(a8 _ H).elim (a3.out f i).1 (fun d=>?_)⟩
       have:=(V.out.lt f i).2;have:wr.heap.size<=_:=d;omega
      ·rw [d] at i;injection i with i;refine⟨by omega,fun H=>?_⟩
       have:=bv.lt f H;omega
     refine⟨ci,q.drop r,l ++ [(t,T)],I ++ [T],Z,⟨?_,?_,?_,?_,j.out.by_.drop r,?_,?_,?_,cz.1,?_,bo,fun f i=>⟨(a7 f i).2,(a7 f i).1⟩,fun J M R L d=>by rw [b2.out J M R L d];exact cp,?_,?_⟩,rfl,rfl⟩
     ·exact⟨j.out.runD.1.snoc b0.out,by rw [j.out.runD.2,List.map_append];rfl⟩
     ·rw [j.out.run,bs];simp [List.map_append]
     ·refine (bK.out.below z lz).kept (by simp) (fun J M R L d d7=>?_)
      have:=b2.out J M R L d;repeat (refine (ac (by omega) _ _).trans ?_)
      rfl
     ·have:=j.out.le;have:=ad.out;rw [List.length_append,a9.out];simp only [List.length_cons,List.length_nil];omega
     ·refine dS (w:=N) ?_ (fun f i=>?_)
      ·have:=bz.out;rw [jr,List.length_append];exact this
      ·have x:=(a7 f i).1;repeat (refine (ac x _ _).trans ?_)
       exact z.block f (bz.out.lt f i).2
     ·exact nf a6 _ _ _ _ _ _ _ _ _ _ _ _ _
     ·refine b1.out.kept (by simp;omega) (fun a k=>?_)
      have x:a≠p.heap.size:=fun e=>bo (e▸k);repeat (refine (ac x _ _).trans ?_)
      exact z.block a (b1.out.lt a k)
     ·exact fun a k=>(a8 a k).elim (j.out.F1 a) (fun d=>ir (by have:wr.heap.size<=a:=d;omega))
     ·repeat (refine (ac (by omega) _ _).trans ?_)
      exact (z.block m (am bl)).trans bl
     ·repeat (refine ae.set ?_ (ir (by omega)) _ _)
      exact di.out.trans (ae.of_below z)
    case measure=>simp [fA];omega
  ·have X:=s.run;rw [cA q P] at X;have dv:=s.runD.2;simp only [List.append_nil] at X;have d6:l.map Prod.fst=(dD G).1:=by rw [X]
   have df:=aa d6;have c9:=aa dv;clear d6 dv;have j:=aa s;have d2:=s.keep.size;have W:=s.conn;have fb:=am W;have fD:18 * I.length+9 * q.length<=9 * G.length:=s.le;rcases gE q with d | d | d
   ·exact absurd d P
   ·rw [d] at X ⊢;have av:sH 1=.iface 53 (.int .i64 1):=rfl;rw [av];have bi:=aa X;clear X s d P av;go_wp2_with fail
    refine (qG 1 2 _ (by decide)).mono ?_
    rintro e K ⟨rfl,rfl⟩;go_wp2_with (at_builtin;refine cH rfl _ _ rfl w.heap.size (.slice none 0 0) 0 [] rfl (World.ownsRow_nil _ _ _ _) u1 q rfl j.out.sl.src (by omega) d2 ?_;intro cc U a5 bg e2;obtain⟨c6,c7,e8⟩:=nz a5;subst e8;have a4:=(bg.block m fb (by simp [Value.ownBlock])).trans W;have b3:=ab a4;have b4:=ag a4)
    go_ret
    have c0:=bg.size;have eo:∀ f,(Value.slice c6 (0+q.length) c7).ownBlock=some f->f=K.heap.size:=fun f i=>by
     rcases e2 with d | d
     ·rw [d] at i;simp [Value.ownBlock] at i
     ·rw [d] at i;injection i with i;exact i.symm
    rw [bi.out];have cG:∀ a,a<K.heap.size->U.heap[a]?=K.heap[a]?:=fun a k=>bg.block a k (by simp [Value.ownBlock]);have cw:¬v m:=fun d=>(j.out.F1 _ d).elim cq (fun d=>by omega);refine⟨u5,v,ao,l,rfl,⟨j.out.runD.1,j.out.lok,by rw [df.out,bi.out]⟩,j.out.srv.kept (by simp;omega) (fun a k=>?_),j.out.F1,?_,ir ⟨by simp,(Value.slice c6 (0+q.length) c7),by simpa using ai a4 1 (Value.slice c6 (0+q.length) c7),?_,fun f i H=>?_,?_⟩⟩
    ·have e9:a≠m:=fun e=>cw (e▸k);exact (ac e9 _ _).trans (cG a (j.out.srv.lt a k))
    ·refine ae.set ?_ (il (ir rfl)) _ _
     exact⟨bg.os.trans j.out.keep.os,bg.tape.trans j.out.keep.tape,bg.output.trans j.out.keep.output,by omega,fun a k a0=>(cG a (by omega)).trans (j.out.keep.block a k (fun d=>a0 (il d)))⟩
    ·refine dS (w:=U) ?_ (fun f i=>ac (by have:=eo f i;omega) _ _)
     simpa using a5
    ·have:=eo f i;have:=j.out.srv.lt f H;omega
    ·rw [<-c9.out];refine dS (w:=K) j.out.own (fun f i=>?_)
     have x:=j.out.own.lt f i;exact (ac (by omega) _ _).trans (cG f x.2)
   ·rw [d] at X ⊢;have av:sH 2=.iface 53 (.int .i64 2):=rfl;rw [av];have bi:=aa X;have b3:=ab W;have b4:=ag W;clear X s d P av;go_wp2_with fail
    refine (kf 2 _).mono ?_
    rintro e K ⟨rfl,rfl⟩;go_wp2_with fail
    have cw:¬v m:=fun d=>(j.out.F1 _ d).elim cq (fun d=>by omega);obtain⟨O,bb⟩:∃ O,O=(K.setCell ⟨m,2,none⟩ (.bool true)).setCell ⟨m,1,none⟩ (.slice none 0 0):=⟨_,rfl⟩;rw [<-bb];have eV:O.heap[m]?=some (Ug E):=by
     rw [bb];simpa using ai (ai W 2 (.bool true)) 1 (.slice none 0 0)
    have bk:∀ a,a≠m->O.heap[a]?=K.heap[a]?:=fun a k=>by rw [bb,ac k,ac k]
    have cr:O.heap.size=K.heap.size:=by rw [bb];simp
    have eQ:ae (fun b=>b=m) K O:=by
     rw [bb];exact ae.set (S:=fun b=>b=m) (b:=m) (ae.set (S:=fun b=>b=m) (b:=m) (ae.refl _ K) (il rfl) _ _) (il rfl) _ _
    clear bb b3 b4;refine (wrep 6 0 0 O (by omega) (by omega) (by omega) (by omega)).mono ?_
    rintro e U ⟨rfl,a5,y⟩;have c0:=y.size;have e3:U.ownsRow w.heap.size 5 1 u5 (bG I).length ((bG I).map (Value.int .u8)):=dS j.out.own (fun f i=>by
      have x:=j.out.own.lt f i;exact (y.block f (by omega)).trans (bk f (by omega)))
    have e7:jJ U (.slice (some ⟨O.heap.size+1,0,none⟩) 18 18) (bh 6 0 0):=jJ.of_own a5;have eX:(bh 6 0 0).length=18:=rfl;have eS:w.heap.size<=U.heap.size:=by omega
    have eB:=aa cr;have ey:=aa bk;clear cr bk;have cR:(bG I).length+18<=4194304:=by rw [eP];omega
    go_wp2_with (at_builtin;(refine cH rfl _ _ rfl w.heap.size u5 (bG I).length (bG I) rfl e3 (.slice (some ⟨O.heap.size+1,0,none⟩) 18 18) (bh 6 0 0) rfl e7 (by rw [eX];exact cR) eS ?_;intro bw N b6 D cU))
    go_ret
    rw [bi.out];have cr:=eB.out;have bk:=ey.out;have eg:=D.size;have e1:∀ a,a<K.heap.size->(∀ f,u5.ownBlock=some f->f≠a)->a≠m->N.heap[a]?=K.heap[a]?:=fun a k i ct=>(D.block a (by omega) (fun e=>i a e.symm rfl)).trans ((y.block a (by omega)).trans (bk a ct));have el:∀ f,u5.ownBlock=some f->w.heap.size<=f:=fun f i=>(j.out.own.lt f i).1;refine⟨bw,v,ao,l,rfl,⟨j.out.runD.1,j.out.lok,by rw [df.out,bi.out]⟩,j.out.srv.kept (by omega) (fun a k=>?_),j.out.F1,?_,il ⟨rfl,?_,?_⟩⟩
    ·exact e1 a (j.out.srv.lt a k) (fun f i e=>(j.out.F3 f i).1 (e▸k)) (fun e=>cw (e▸k))
    ·have c3:ae (fun b=>F b\/b=m) w O:=(j.out.keep.mono (fun f2 d _=>il d)).then eQ (fun eq _ d=>ir d);have Q:=c3.trans (ae.of_below y);exact⟨D.os.trans Q.os,D.tape.trans Q.tape,D.output.trans Q.output,by omega,fun a k a0=>(D.block a (by omega) (fun e=>by have:=el a e.symm;omega)).trans (Q.block a k a0)⟩
    ·exact (D.block m (by omega) (fun e=>by have:=el m e.symm;omega)).trans ((y.block m (by omega)).trans eV)
    ·rw [<-c9.out,jr,List.length_append];exact b6
def co (X:Xs)(a:Int):Xs:=⟨aW X.L a,X.D,X.ill,X.k⟩
theorem pZ.pass {X:Xs}(b:pZ X)(a:Int)(c:0<=a)(d:a<=18446744073709551615):pZ (co X a):=⟨jcp X.L a b.1 c d,b.2⟩
theorem bH.own {db:Nat}{blk:Int}{w:World}{c:Int}{a:Nat}{X:Xs}{F:NP}(b:bH db blk w c a X F):F a:=by
 obtain⟨e,d,g,i⟩:=X;cases g with
 | none=>exact aU.own b
 | some j=>
  obtain⟨k,m,n,o,p,l,_,_,_,_,f⟩:=(b:da db blk w c a e d j i F);exact f.own
theorem bH.mem {db:Nat}{blk:Int}{w:World}{b:Int}{a:Nat}{X:Xs}{F:NP}(c:bH db blk w b a X F):∃ m k l,w.heap[a]?=some (ui b X.L.time m k l X.L.adm):=by
 obtain⟨e,d,g,i⟩:=X;cases g with
 | none=>exact aU.mem c
 | some n=>
  obtain⟨p,r,s,t,x,q,_,_,_,_,f⟩:=(c:da db blk w b a e d n i F);obtain⟨v,u,o,j,_⟩:=f.mem;exact⟨_,_,_,j⟩
theorem bH.lock {db:Nat}{blk:Int}{w:World}{e:Int}{a:Nat}{X:Xs}{F:NP}(d:bH db blk w e a X F)(c:Int):bH db blk (w.setCell ⟨a,0,none⟩ (.int .i32 c)) c a X F:=by
 obtain⟨g,f,u,v⟩:=X;cases u with
 | none=>exact aU.lock d c
 | some y=>
  obtain⟨i,l,m,n,x,k,o,p,q,r,s⟩:=(d:da db blk w e a g f y v F);refine⟨i,l,m,n,x,k,o,p,q,r,s.serve ed.fra (fun z A t=>by simpa using ai t 0 (.int .i32 c)) ?_⟩
  exact ae.set (S:=fun j=>j=a) (b:=a) (ae.refl _ w) (il rfl) _ _
theorem bH.pass {db:Nat}{blk:Int}{w:World}{d:Int}{c:Nat}{X:Xs}{F:NP}(i:bH db blk w d c X F)(a:Int)(u:0<=a)(v:a<=18446744073709551615){w':World}{n l m:Value}(f:w.heap[c]?=some (ui d X.L.time n l m X.L.adm))(g:w'.heap[c]?=some (ui d (aW X.L a).time n l m X.L.adm))(j:ae (fun b=>b=c) w w'):bH db blk w' d c (co X a) F:=by
 obtain⟨e,o,A,B⟩:=X;cases A with
 | none=>exact aU.pass i a u v f g j
 | some I=>
  obtain⟨p,r,s,t,H,q,C,k,D,E,G⟩:=(i:da db blk w d c e o I B F);have z:e.time<=(aW e a).time:=by unfold aW;dsimp only;split <;> omega
  have y:U7 (aW e a).time:=by have:=k.1;unfold aW;dsimp only;split <;> omega
  refine⟨p,r,s,t,H,q,C,⟨y,k.2⟩,D.pass z,E,G.serve ed.fra (fun J K x=>?_) j⟩
  rw [x] at f;simp at f;obtain⟨rfl,rfl,rfl⟩:=f;exact g
def jW (c:Cn)(bs:List Int):List Rq:=if c.bad=true then [] else (dD (c.waits ++ bs)).1
def gU (c:Cn)(bs:List Int):Cn:=if c.bad=true then c else if (dD (c.waits ++ bs)).2.2=2 then ⟨[],true⟩ else ⟨(dD (c.waits ++ bs)).2.1,false⟩
def mi (c:Cn)(bs:List Int)(l:List (Rq×Rp)):List Rp:=if c.bad=true then [] else if (dD (c.waits ++ bs)).2.2=2 then l.map Prod.snd ++ [⟨6,0,0⟩] else l.map Prod.snd
def jbc (db:Nat)(blk:Int)(g f:Nat)(F:NP)(X:Xs)(c:Cn)(i:Int)(bs:List Int)(w:World)(j:Value)(w':World):Prop:=
 ∃ (d:NP) (e:Xs) (b:List (Rq×Rp)),(cI (co X i) b e/\pZ e/\b.map Prod.fst=jW c bs)/\bH db blk w' 0 g e d/\jl w' g f (gU c bs) d/\(∀ a,d a->F a\/w.heap.size<=a)/\ae (fun a=>F a\/a=f) w w'/\w'.ownsRow w.heap.size 5 1 j (bG (mi c bs b)).length ((bG (mi c bs b)).map (Value.int .u8))/\NewW g f w w' c (gU c bs)
theorem qE (db:Nat)(blk:Int)(a d:Nat)(F:NP)(X:Xs)(n D:Value)(b:Int)(w:World)(g:bH db blk w 0 a X F)(o:w.heap[d]?=some (Us a n))(u:¬F d)(s:0<=b)(t:b<=18446744073709551615) :
  Calls prog 31 #[pO d 0,.int .u64 b,D] w fun e w'=>e=.returned (.slice none 0 0)/\bH db blk w' 0 a (co X b) F/\ae F w w':=by
 have p:d≠a:=fun e=>u (e▸g.own);have G:=ab o;obtain⟨C,A,B,m⟩:=g.mem;obtain⟨c,i⟩:∃ c,c=w.setCell ⟨a,0,none⟩ (.int .i32 1):=⟨_,rfl⟩;have x:bH db blk c 1 a X F:=i▸g.lock 1;have q:c.heap[a]?=some (.cells #[.int .i32 1,.int .u32 0,.int .u64 X.L.time,C,A,B,.int .u64 X.L.adm] 130):=by rw [i];simpa using ai m 0 (.int .i32 1)
 have j:c.heap[d]?=some (Us a n):=i▸(ac p _ _).trans o;have v:ae F w c:=i▸(ae.refl F w).set (il g.own) _ _;have H:=ab j;go_enter_defers func31,ntmps31
 go_wp2_with (first | (go_at_call 45;refine (jcb ⟨a,0,none⟩ _ (ab m 0) (ag m 0)).mono ?_;rintro e w' ⟨rfl,rfl⟩;rw [<-i];clear i) | (go_at_call 47;refine (jeQ a _ _ _ _ _ _ X.L.time b (aW X.L b).time rfl _ q).mono ?_;rintro e E ⟨rfl,l,k⟩;have z:=(k.block d (am j) p).trans j;have I:=ab z))
 refine leaves_cons (f:=46) (args:=#[pO a 0]) (by simp) (by simp [go_sem]) ?_
 refine (pV ⟨a,0,none⟩ .returning _ (ab l 0) (ag l 0)).mono ?_
 rintro e K L ⟨rfl,rfl,rfl⟩;have y:bH db blk E 1 a (co X b) F:=x.pass b s t q l k;exact⟨_,results_tmp rfl _ _ _,rfl,y.lock 0,(v.then k (fun J _ r=>r▸g.own)).set (il g.own) _ _⟩
theorem jdB (db:Nat)(blk:Int)(i k:Nat)(F:NP)(X:Xs)(c:Cn)(R:Value)(l:Int)(bs:List Int)(w:World)(s:bH db blk w 0 i X F)(bl:pZ X)(N:0<=l)(O:l<=18446744073709551615)(a8:jl w i k c F)(av:jJ w R bs)(ct:Bytes bs)(cs:Bytes c.waits)(cw:c.waits.length+bs.length<=100000)
  (bK:∀ g o n d,R=.slice (some ⟨g,o,none⟩) n d->¬F g) :
  Calls prog 31 #[pO k 0,.int .u64 l,R] w fun e w'=>∃ a2,e=.returned a2/\jbc db blk i k F X c l bs w a2 w':=by
 obtain⟨U,v,Q,E⟩:=a8.mem;have x:=a8.nF;cases p:c.bad with
 | true=>
  rw [p] at v;refine (qE db blk i k F X U R l w s v x N O).mono ?_
  rintro e w' ⟨rfl,cc,A⟩;have m:gU c bs=c:=by unfold gU;rw [if_pos p]
  have z:∀ t,mi c bs t=[]:=fun t=>by unfold mi;rw [if_pos p]
  have W:jW c bs=[]:=by unfold jW;rw [if_pos p]
  refine⟨_,rfl,F,co X l,[],⟨rfl,bl.pass l N O,by rw [W];rfl⟩,cc,⟨⟨U,?_,?_,fun g o n d a=>⟨(E g o n d a).1,(E g o n d a).2.1,ll (E g o n d a).2.2 A.size⟩⟩,?_⟩,fun r a=>il a,A.mono (fun cV a _=>il a),?_,?_⟩
  ·rw [m];rw [p];exact (A.block k (am v) x).trans v
  ·rw [m];exact Q.kept A.size (fun g o n d a q=>A.block g q (E g o n d a).1)
  ·exact x
  ·rw [z];exact World.ownsRow_nil _ _ _ _
  ·rw [m];intro g _ a cx V j;rw [p] at a j;exact a cx V (((A.block k (am v) x).symm.trans j))
 | false=>
  rw [p] at v;have G:k≠i:=fun e=>x (e▸s.own);have bg:=s.lt;have b6:=ab v;obtain⟨c1,cX,c0,a0⟩:=s.mem;obtain⟨y,D⟩:∃ y,y=w.setCell ⟨i,0,none⟩ (.int .i32 1):=⟨_,rfl⟩;have cn:bH db blk y 1 i X F:=D▸s.lock 1;have bF:y.heap[i]?=some (.cells #[.int .i32 1,.int .u32 0,.int .u64 X.L.time,c1,cX,c0,.int .u64 X.L.adm] 130):=by rw [D];simpa using ai a0 0 (.int .i32 1)
  have Z:y.heap[k]?=some (Uu i U):=D▸(ac G _ _).trans v;have cl:ae F w y:=D▸(ae.refl F w).set (il s.own) _ _;have b7:=ab Z;obtain⟨S,M,b9⟩:=Q.shape;obtain⟨a6,T,cb⟩:=av.shape;have b4:=aa Q;have b3:=aa av;have b2:=aa E;have b5:=aa bK;clear Q av E bK;subst b9 cb;go_enter_defers func31,ntmps31
  go_wp2_with (first | (go_at_call 45;refine (jcb ⟨i,0,none⟩ _ (ab a0 0) (ag a0 0)).mono ?_;rintro e w' ⟨rfl,rfl⟩;rw [<-D];clear D) | (go_at_call 47;refine (jeQ i _ _ _ _ _ _ X.L.time l (aW X.L l).time rfl _ bF).mono ?_;rintro e J ⟨rfl,cG,ad⟩;have bu:=(ad.block k (am Z) G).trans Z;have b8:=ab bu))
  have bo:bH db blk J 1 i (co X l) F:=cn.pass l N O bF cG ad;have bi:ae F w J:=cl.then ad (fun cU _ a=>a▸s.own);have c8:=bi.size;obtain⟨u,C⟩:∃ u,u=J.alloc (.cells #[.slice S c.waits.length M,.slice a6 bs.length T] 76):=⟨_,rfl⟩;have ci:u.heap[J.heap.size]?=some (.cells #[.slice S c.waits.length M,.slice a6 bs.length T] 76):=C▸af _ _;have B:ae F w u:=C▸bi.alloc _;have cq:bH db blk u 1 i (co X l) F:=C▸bo.kept (by simp) (fun r p=>ah _ _ (bo.lt r p));have bv:u.heap[k]?=some (Uu i (.slice S c.waits.length M)):=C▸aB bu _;have cR:jJ u (.slice S c.waits.length M) c.waits:=b4.out.kept B.size (fun g o n d a q=>B.block g q (b2.out g o n d a).1);have cr:jJ u (.slice a6 bs.length T) bs:=b3.out.kept B.size (fun g o n d a q=>B.block g q (b5.out g o n d a));have df:=B.size;rw [<-C];clear C;refine (jdq J.heap.size _ _ c.waits bs _ u ci cR cr (by omega) (by omega)).mono ?_
  rintro e a4 ⟨c4,rfl,bw,P⟩;have cp:=cq.below P lz;have cv:=(P.block k (am bv)).trans bv;have c9:=P.size;clear b6 b7 b8;go_wp2_with fail
  refine (jej db blk 1 i k F (co X l) (c.waits ++ bs) c4 _ _ a4 cp (bl.pass l N O) cv x (Sl.of_own bw) (fun g o n d a=>by
      have ch:=bw.lt g (by rw [a];rfl);exact⟨ch.2,fun ck=>by have:=bg g ck;omega⟩) (cs.app ct) (by rw [List.length_append];exact cw)).mono ?_
  rintro e a5 ⟨a2,K,L,t,rfl,cF,Y,bb,bj,cz⟩;go_wp2_with fail
  obtain⟨dl,di,dk,b0⟩:=Y.mem;refine leaves_cons (f:=46) (args:=#[pO i 0]) (by simp) (by simp [go_sem]) ?_
  refine (pV ⟨i,0,none⟩ .returning _ (ab b0 0) (ag b0 0)).mono ?_
  rintro e dm dn ⟨rfl,rfl,rfl⟩;refine⟨_,results_tmp rfl _ _ _,_,rfl,?_⟩
  have bk:ae (fun r=>F r\/r=k) w a5:=((B.trans (ae.of_below P)).mono (fun cV a _=>il a)).then bj (fun cU c6 a=>a);have c7:=bg i s.own;have c5:k<w.heap.size:=am v;have dd:=bj.size;have a9:¬K k:=fun a=>(bb k a).elim x (fun a=>by omega);have m:gU c bs=if (dD (c.waits ++ bs)).2.2=2 then ⟨[],true⟩ else ⟨(dD (c.waits ++ bs)).2.1,false⟩:=by
   unfold gU;rw [if_neg (by rw [p];simp)]
  have z:mi c bs t=if (dD (c.waits ++ bs)).2.2=2 then t.map Prod.snd ++ [⟨6,0,0⟩] else t.map Prod.snd:=by
   unfold mi;rw [if_neg (by rw [p];simp)]
  have W:jW c bs=(dD (c.waits ++ bs)).1:=by
   unfold jW;rw [if_neg (by rw [p];simp)]
  have bz:cI (co X l) t L/\pZ L/\t.map Prod.fst=jW c bs:=by rw [W];exact cF
  have bd:∀ r,K r->F r\/w.heap.size<=r:=fun r a=>(bb r a).imp id (fun a=>by omega);have ao:∀ a3 n a7,a5.ownsRow a4.heap.size 5 1 a3 n a7->(a5.setCell ⟨i,0,none⟩ (.int .i32 0)).ownsRow w.heap.size 5 1 a3 n a7:=fun a3 n a7 a=>dQ (b:=a4.heap.size) (by omega) (dS a (fun g q=>ac (by have:=(a.lt g q).1;omega) _ _));rcases cz with ⟨a1,I,H⟩ | ⟨a1,b1,I,H,c2,c3⟩
  ·rw [if_pos a1] at m z;refine⟨K,L,t,bz,Y.lock 0,⟨⟨.slice none 0 0,?_,il ⟨by rw [m],il rfl⟩,fun g o n d a=>by simp at a⟩,a9⟩,bd,bk.set (il (il s.own)) _ _,?_,?_⟩
   ·rw [m];exact (ac G _ _).trans I
   ·rw [z];exact ao _ _ _ H
   ·rw [m];intro g _ _ _ V j;rw [ac G,I] at j;injection j with j;injection j with j _ _;simp at j;subst j;simp [Value.ownBlock]
  ·rw [if_neg a1] at m z;refine⟨K,L,t,bz,Y.lock 0,⟨⟨b1,?_,?_,fun g o n d a=>?_⟩,a9⟩,bd,bk.set (il (il s.own)) _ _,?_,?_⟩
   ·rw [m];exact (ac G _ _).trans I
   ·rw [m];exact jJ.of_own (ao _ _ _ H)
   ·have q:b1.ownBlock=some g:=by rw [a];rfl
    refine⟨c2 g q,fun e=>?_,?_⟩
    ·have:=(H.lt g q).1;omega
    ·rw [World.size_setCell];exact (H.lt g q).2
   ·rw [z];exact ao _ _ _ c3
   ·rw [m];intro g q _ _ V j cy;rw [ac G,I] at j;injection j with j;injection j with j _ _;simp at j;subst j;have:=(H.lt g cy).1;omega
def ww (B:Nat)(pd:Pd)(fs b:Fs):Prop:=b=fs\/(∃ a,B<=a/\pd≠none/\b=vT pd a fs)\/(∃ d c a e,B<=a/\pd=some (d,some c)/\e<c.size/\b=aJ d (a,c.extract 0 e) fs)
theorem jcn {w:World}{base:Nat}{j:Value}{c:Int}{d s:ByteArray}(p:w.ownsRow base 146 3 j 1 (opr c d s)):∃ a k,j=.slice (some ⟨a,0,none⟩) 1 k/\w.cell? ⟨a,0,none⟩=some (.int .i64 c)/\w.cell? ⟨a,1,none⟩=some (.string d)/\w.cell? ⟨a,2,none⟩=some (.string s):=by
 rcases p.2 with ⟨_,i⟩ | ⟨m,l,g,i,_,f,_,_,_,n⟩
 ·omega
 ·subst i;have q:g.toList.take 3=[.int .i64 c,.string d,.string s]:=by simpa [opr] using n
  have e:∀ b,b<3->g[b]?=([.int .i64 c,.string d,.string s]:List Value)[b]?:=fun b o=>by
   rw [<-q,List.getElem?_take,if_pos o,Array.getElem?_toList]
  exact⟨m,l,rfl,(ab f 0).trans (e 0 (by omega)),(ab f 1).trans (e 1 (by omega)),(ab f 2).trans (e 2 (by omega))⟩
theorem jdx (s:ByteArray):s.extract 0 s.size=s:=by
 apply ByteArray.ext
 rw [ByteArray.data_extract];exact Array.extract_size
theorem jbv (db a:Nat)(t r p q S:Value)(fs:Fs)(pd:Pd)(n d:Int)(w:World)(J:-9223372036854775808<=d)(K:d<=9223372036854775807)(o:w.heap[db]?=some (Ua a t S p q r))(m:ak w a fs)(H:fX w S pd)(P:∀ b s,pd=some (b,some s)->s.size<=1000000) :
  Calls prog 39 #[pO db 0,.int .i64 n,.int .i64 d] w fun e w'=>e=.returned (.tuple #[])/\∃ x nb,ww w.heap.size pd fs x/\w'.heap[db]?=some (oB a nb)/\w.heap.size<=nb/\ak w' a x/\ak w' nb x/\a≠nb/\ae (fun c=>c=db\/c=a) w w':=by
 have Y:a≠db:=m.map.ne o;have a0:=m.map.lt;have ad:∀ R∈fs,R.2.1≠db:=fun R H e=>by have:=m.str R H;rw [e,o] at this;simp at this
 have Q:∀ {w':World}{nb:Nat},w'.heap[db]?=some (oB a nb)->w.heap.size<=nb->ak w' nb fs->ae (fun c=>c=db) w w'->∃ x nb,ww w.heap.size pd fs x/\w'.heap[db]?=some (oB a nb)/\w.heap.size<=nb/\ak w' a x/\ak w' nb x/\a≠nb/\ae (fun c=>c=db\/c=a) w w':=fun g i j f=>⟨fs,_,il rfl,g,i,m.keep f Y ad,j,by omega,f.mono (fun _ W _=>il W)⟩;match pd,H,P with
 | none,H,_=>
  have e:S=.slice none 0 0:=H;subst e;refine (j9 db a t r p q fs n d w J K o m).mono ?_
  rintro e w' ⟨rfl,nb,g,i,j,f⟩;exact⟨rfl,Q g i j f⟩
 | some (b,some s),⟨base,hown⟩,P=>
  obtain⟨B,v,rfl,y,z,A⟩:=jcn hown;have ao:=P b s rfl;cases C:(bits BinOp.and IntKind.i64 n 1==0) with
  | true=>
   refine (jbu db a B v t r p q 1 (ay b) s fs n d w J K o m y z A (il rfl) C).mono ?_
   rintro e w' ⟨rfl,nb,g,i,j,f⟩;exact⟨rfl,Q g i j f⟩
  | false=>
   have D:=jy d 2 w (by omega) (by omega) J K;by_cases I:0=bp d 2
   ·rw [<-I] at D;have l:IntKind.i64.wrap ((s.size:Int)+1)=(s.size:Int)+1:=by rw [IntKind.wrap_i64];omega
    have V:-9223372036854775808<=IntKind.i64.wrap (d.tdiv 7)/\IntKind.i64.wrap (d.tdiv 7)<=9223372036854775807:=by rw [IntKind.wrap_i64];omega
    obtain⟨G,U⟩:∃ G,G=bp (IntKind.i64.wrap (d.tdiv 7)) (s.size+1):=⟨_,rfl⟩;have Z:=gB (IntKind.i64.wrap (d.tdiv 7)) (s.size+1) (by omega);rw [<-U] at Z;refine (jfi db a B v t r p q b s fs n d w G (by omega) (by omega) ao (aa (fun av=>by
      have:=jy (IntKind.i64.wrap (d.tdiv 7)) (s.size+1) av (by omega) (by omega) V.1 V.2;rw [<-U] at this;rw [l];exact this)) (aa D) o m y z A C).mono ?_
    rintro e w' ⟨rfl,k,nb,u,g,i,j,f,E,F⟩;refine⟨rfl,_,nb,?_,g,i,j,f,E,F⟩
    by_cases X:G.toNat<s.size
    ·exact ir (ir ⟨b,s,k,G.toNat,u,rfl,X,rfl⟩)
    ·have e:G.toNat=s.size:=by omega
     rw [e,jdx];exact ir (il ⟨k,u,by simp,rfl⟩)
   ·refine (jbw db a B v t r p q 1 (ay b) s fs n d w (bp d 2) (aa D) o m y z A (il rfl) C I (fun k=>aJ b (k,s) fs) (fun l L=>(vB a fs b s l L).mono (fun e w' ⟨M,N,O⟩=>⟨M,l.heap.size+1,Nat.le_succ _,N,O⟩))).mono ?_
    rintro e w' ⟨rfl,k,nb,u,g,i,j,f,E,F⟩;exact⟨rfl,_,nb,ir (il ⟨k,u,by simp,rfl⟩),g,i,j,f,E,F⟩
 | some (b,none),⟨base,hown⟩,_=>
  obtain⟨B,v,rfl,y,z,A⟩:=jcn hown;have T:∀ l,ak l a fs->Calls prog 59 #[.map (some a),.agg #[.int .i64 3,.string (ay b),.string ⟨#[]⟩]] l fun e w'=>e=.returned (.tuple #[])/\∃ k,l.heap.size<=k/\ak w' a ((fun _=>br b fs) k)/\ae (fun c=>c=a) l w':=fun l L=>(jbz a fs b ⟨#[]⟩ l L).mono (fun e w' ⟨M,N,O⟩=>⟨M,l.heap.size,lz,N,O⟩);cases C:(bits BinOp.and IntKind.i64 n 1==0) with
  | true=>
   refine (jbu db a B v t r p q 3 (ay b) ⟨#[]⟩ fs n d w J K o m y z A (ir rfl) C).mono ?_
   rintro e w' ⟨rfl,nb,g,i,j,f⟩;exact⟨rfl,Q g i j f⟩
  | false=>
   have D:=jy d 2 w (by omega) (by omega) J K;by_cases I:0=bp d 2
   ·rw [<-I] at D;refine (jdt db a B v t r p q (ay b) ⟨#[]⟩ fs n d w (aa D) o m y z A C (fun _=>br b fs) T).mono ?_
    rintro e w' ⟨rfl,k,nb,u,g,i,j,f,E,F⟩;exact⟨rfl,_,nb,ir (il ⟨k,u,by simp,rfl⟩),g,i,j,f,E,F⟩
   ·refine (jbw db a B v t r p q 3 (ay b) ⟨#[]⟩ fs n d w (bp d 2) (aa D) o m y z A (ir rfl) C I (fun _=>br b fs) T).mono ?_
    rintro e w' ⟨rfl,k,nb,u,g,i,j,f,E,F⟩;exact⟨rfl,_,nb,ir (il ⟨k,u,by simp,rfl⟩),g,i,j,f,E,F⟩
theorem jf7 {D:Dx}{j adm blk:Int}{φ:jI}{M:List Ky}{k:Es}{fsD i:Fs}{pd:Pd}{B:Nat}(o:U7 j)(m:U7 adm)(n:U7 blk)(l:0<=D.t)(a:cY D.t j blk φ M k fsD pd)(t:ww B pd fsD i):∃ b:de,b.ok/\(b.ld=⟨j,adm,stands k⟩\/b.ld=⟨j,adm,stands (fk φ blk k)⟩)/\(b.blk=blk/\b.hx ⟨D.t,false⟩)/\b.fsD=i/\b.fsN=i:=by
 rcases t with rfl | ⟨g,_,v,rfl⟩ | ⟨p,r,g,q,_,w,u,rfl⟩
 ·obtain⟨s,e,f⟩:=a.a;obtain⟨c,d⟩:=lj i o m n a.eo e f l;exact⟨_,c,il rfl,⟨rfl,d,(fun a=>by cases a),fun _=>rfl⟩,rfl,rfl⟩
 ·obtain⟨s,e,f⟩:=a.b v;obtain⟨c,d⟩:=lj (vT pd g fsD) o m n (a.eo.vir (blk:=blk) a.v) e (f g) l;exact⟨_,c,ir rfl,⟨rfl,d,(fun a=>by cases a),fun _=>rfl⟩,rfl,rfl⟩
 ·obtain⟨s,e,f⟩:=a.c p r w;obtain⟨c,d⟩:=lj (aJ p (g,r.extract 0 q) fsD) o m n a.eo e (f g q u) l;exact⟨_,c,il rfl,⟨rfl,d,(fun a=>by cases a),fun _=>rfl⟩,rfl,rfl⟩
theorem bH.dskF {db:Nat}{blk:Int}{w:World}{c:Int}{b:Nat}{X:Xs}{F:NP}(a:bH db blk w c b X F):F db:=by
 obtain⟨e,d,g,i⟩:=X;cases g with
 | none=>exact aU.dskF a
 | some l=>
  obtain⟨n,p,q,r,u,o,_,_,_,_,f⟩:=(a:da db blk w c b e d l i F);obtain⟨t,s,m,_,_,j,_,k,_⟩:=f.mem;exact k _ j.2.own
theorem bH.dsk {db:Nat}{blk:Int}{w:World}{e:Int}{d:Nat}{X:Xs}{F:NP}(a:bH db blk w e d X F):∃ b nb c l f dn,w.heap[db]?=some (OF b nb c l f dn):=by
 obtain⟨i,g,k,m⟩:=X;cases k with
 | none=>
  obtain⟨b,nb,l,f,a⟩:=aU.dsk a;exact⟨b,nb,_,l,f,_,a⟩
 | some o=>
  obtain⟨q,r,s,t,x,dn,_,_,_,_,j⟩:=(a:da db blk w e d i g o m F);obtain⟨v,u,p,_,_,n,_⟩:=j.mem;obtain⟨b,nb,c,l,f,a,_⟩:=n.2.mem;exact⟨b,nb,c,l,f,dn,a⟩
def bud (l f:Int):Bu:=⟨if l<0 then 4000000 else 0,if f<0 then 4000000 else 0⟩
def Xs.at (X:Xs)(k:Bu):Xs:=⟨X.L,X.D,X.ill,k⟩
theorem fC.bud {l:Int}(a:-9223372036854775808<=l/\l<=9223372036854775807):fC l (if l<0 then 4000000 else 0):=by
 by_cases b:l<0
 ·rw [if_pos b];exact fC.neg a.1 b (by decide)
 ·rw [if_neg b];exact fC.any a.1 a.2
theorem bH.refill {db:Nat}{blk:Int}{w w':World}{O:Int}{o:Nat}{X:Xs}{F:NP}(d:bH db blk w O o X F){n nb:Nat}{L:Value}{l f l' M:Int}{dn:Bool}(k:w.heap[db]?=some (OF n nb L l f dn))
  (a2:w'.heap[db]?=some (OF n nb L l' M dn)) {U:Bu}(bs:fC l' U.l) (bl:fC M U.f) (bu:X.ill=none\/4<=X.k.l\/dn=false) (H:w.heap.size<=w'.heap.size) (e:∀ b,F b->b≠db->w'.heap[b]?=w.heap[b]?):bH db blk w' O o (X.at U) F:=by
 have N:∀ (a:Bool×(Nat×ByteArray)),w.heap[a.2.1]?=some (Ub a.2.2)->a.2.1≠db:=fun a g m=>by rw [m,k] at g;simp at g
 obtain⟨a1,a0,bv,a3⟩:=X;cases bv with
 | none=>
  obtain⟨a7,V,W,Y,d⟩:=(d:aU db blk a0 a3 w O o a1 F);obtain⟨v,p,A,j,S,bj,c,i,C,D,E,G,P,B,Q,R⟩:=d.mem;obtain⟨bz,bF,bw,bd,s,t,u,I,Z,J,K,ad⟩:=c.mem;rw [k] at s;simp at s;obtain⟨rfl,rfl,rfl,_,_,rfl⟩:=s;have x:∀ y,¬A y->y≠db:=fun y T m=>T (m▸c.own);have ao:n≠db:=t.map.ne k;have av:nb≠db:=u.map.ne k;exact⟨a7,V,W,Y,⟨⟨v,p,A,(e o d.own (x o B)).trans j,ap.kept S (e v C (x v G)),bj.kept (e p D (x p E)),⟨⟨n,nb,l',M,a2,t.kept (e n (i _ J) ao) (fun a g=>e _ (i _ (c.sD a g)) (N a (t.str a g))),u.kept (e nb (i _ K) av) (fun a g=>e _ (i _ (c.sN a g)) (N a (u.str a g))),bs,bl,J,K,ad⟩,c.sD,c.sN,c.own,fun b q=>ll (c.lt b q) H⟩,i,C,D,E,G,P,B,Q,R⟩,d.own,fun b q=>ll (d.lt b q) H⟩⟩
 | some b0=>
  obtain⟨a6,bb,bg,bi,a5,b1,V,W,Y,a4,d⟩:=(d:da db blk w O o a1 a0 b0 a3 F);obtain⟨v,p,A,j,S,⟨⟨a9,bk⟩,c⟩,bo,i,C,D,E,G,P,B,Q,R⟩:=d.mem;obtain⟨bz,bF,b2,bw,bd,s,t,u,I,Z,J,K,ad⟩:=c.mem;rw [k] at s;simp at s;obtain⟨rfl,rfl,rfl,_,_,rfl⟩:=s;have x:∀ y,¬A y->y≠db:=fun y T m=>T (m▸c.own);have ao:n≠db:=t.map.ne k;have av:nb≠db:=u.map.ne k;have bK:∀ z,L.ownBlock=some z->z≠db:=fun z r m=>by
   match a5,I with
   | none,I=>
    have a8:L=.slice none 0 0:=I;rw [a8] at r;simp [Value.ownBlock] at r
   | some (_,some _),⟨base,ho⟩=>exact ax ho r k (by decide) m
   | some (_,none),⟨base,ho⟩=>exact ax ho r k (by decide) m
  exact⟨a6,bb,bg,bi,a5,dn,V,W,Y,⟨a4.1,fun d=>bu.elim (fun j=>by cases j) (fun j=>j.elim (fun j=>absurd (a4.2 d) (Nat.not_lt.2 j)) (fun j=>by rw [j] at d;cases d))⟩,⟨⟨v,p,A,(e o d.own (x o B)).trans j,ap.kept S (e v C (x v G)),⟨⟨a9,(World.cell?_of_block (e p D (x p E))).trans bk⟩,⟨⟨n,nb,L,l',M,a2,t.kept (e n (i _ J) ao) (fun a g=>e _ (i _ (c.sD a g)) (N a (t.str a g))),u.kept (e nb (i _ K) av) (fun a g=>e _ (i _ (c.sN a g)) (N a (u.str a g))),I.kept (fun z r=>e z (i _ (Z z r)) (bK z r)),Z,J,K,ad⟩,c.sD,c.sN,c.own,fun b q=>ll (c.lt b q) H⟩⟩,ll bo H,i,C,D,E,G,P,B,Q,R⟩,d.own,fun b q=>ll (d.lt b q) H⟩⟩
structure bc (w:World)(hb db _nb sb:Nat)(_mb:Option Nat)(blk:Int)(X:Xs)(F:NP)(B:Nat)(cv:Value)(m:Nat)(cb:Nat->Nat)(c:Nat->Cn):Prop where
 hh:w.heap[hb]?=some (OE db sb cv blk)
 hd:F db
 hs:bH db blk w 0 sb X F
 hc:∀ i,i<m->jl w sb (cb i) (c i) F
 hi:∀ i j,i<m->j<m->cb i=cb j->i=j
 ho:w.ownsRow B 83 1 cv m (ge cb m)
 hF:∀ g,(g=hb\/False\/cv.ownBlock=some g)->¬F g
 lo:∀ b,HG hb db F cv m cb b->B<=b
 fr:∀ i,m<=i->c i=⟨[],false⟩
theorem bc.more {wr o w4:World}{f db nb T:Nat}{ao:Option Nat}{blk:Int}{X:Xs}{F:NP}{B:Nat}{k m:Value}{e:Nat}{j:Nat->Nat}{c:Nat->Cn}{N:Nat}{v:Obj}(H:bc wr f db nb T ao blk X F B k e j c)(R:∀ i,c i=⟨[],false⟩)(y:N=wr.heap.size)(a7:B<=N)
  (s:o.heap[N]?=some (OT T)) (a3:o.heap.size=N+1) (z:Below N wr o)
  (Q:w4.ownsRow B 83 1 m (e+1) (ge j e ++ [.pointer (some ⟨N,0,none⟩)])) (t:(o.alloc v).grownBy w4 k.ownBlock) (ad:m.ownBlock=k.ownBlock\/m.ownBlock=some (o.alloc v).heap.size) :
  bc (w4.setCell ⟨f,2,none⟩ m) f db nb T ao blk X F B m (e+1) (fun i=>if i=e then N else j i) c/\ae (HG f db F k e j) wr (w4.setCell ⟨f,2,none⟩ m)/\∀ b,HG f db F m (e+1) (fun i=>if i=e then N else j i) b->HG f db F k e j b\/N<=b:=by
 have a4:f<N:=y▸am H.hh;have bb:db<N:=y▸H.hs.lt db H.hd;have bg:db≠f:=fun d=>H.hF f (il rfl) (d▸H.hd);have a6:k.ownBlock≠some f:=fun d=>ax H.ho d H.hh (by decide) rfl;have bd:k.ownBlock≠some db:=fun d=>H.hF db (ir (ir d)) H.hd;have a5:k.ownBlock≠some N:=fun d=>by have:=(aj H.ho d).2;omega
 have I:(o.alloc v).heap.size=N+2:=by rw [World.size_alloc,a3]
 have U:∀ g,g<N->k.ownBlock≠some g->w4.heap[g]?=wr.heap[g]?:=fun g A P=>
  ((t.block g (by omega) (fun d=>P d.symm)).trans (ah o v (by omega))).trans (z.block g A)
 have X:∀ g,g<N->g≠f->k.ownBlock≠some g->(w4.setCell ⟨f,2,none⟩ m).heap[g]?=wr.heap[g]?:=fun g A u P=>(ac u _ _).trans (U g A P);have Y:=(U f a4 a6).trans H.hh;have a9:N+2<=w4.heap.size:=I▸t.size;have M:∀ i,i<e->j i<N/\j i≠f/\k.ownBlock≠some (j i):=fun i n=>by
  obtain⟨V,q,_⟩:=(H.hc i n).mem;refine⟨y▸am q,fun d=>?_,fun d=>ax H.ho d q (by decide) rfl⟩
  rw [d,H.hh] at q;simp at q
 have K:∀ b,F b->b<N:=fun b a=>y▸H.hs.lt b a;have S:wr.heap.size<=(w4.setCell ⟨f,2,none⟩ m).heap.size:=by rw [World.size_setCell];omega
 refine⟨⟨by simpa using ai Y 2 m,H.hd,H.hs.kept S (fun b J=>X b (K b J) (fun d=>H.hF f (il rfl) (d▸J)) (fun d=>H.hF b (ir (ir d)) J)),fun i n=>?_,fun i C n a8 d=>?_,?_,fun l O x=>?_,fun b L=>?_,fun i n=>H.fr i (by omega)⟩,⟨t.os.trans z.os,t.tape.trans z.tape,t.output.trans z.output,S,fun g A W=>X g (by omega) (fun d=>W (il d)) (fun d=>W (ir (ir (ir (il d)))))⟩,fun b L=>?_⟩
 ·by_cases Z:i=e
  ·subst Z;rw [if_pos rfl];refine⟨⟨.slice none 0 0,?_,il ⟨by rw [R i],il rfl⟩,fun l E D w a=>by simp at a⟩,fun a=>by have:=K _ a;omega⟩
   rw [ac (by omega),t.block N (by omega) (fun d=>a5 d.symm),ah o v (by omega),s,R i]
  ·rw [if_neg Z];obtain⟨av,a0,a1⟩:=M i (by omega);obtain⟨⟨V,q,r,G⟩,a2⟩:=H.hc i (by omega);refine⟨⟨V,(X _ av a0 a1).trans q,?_,fun l E D w a=>⟨(G l E D w a).1,(G l E D w a).2.1,ll (G l E D w a).2.2 S⟩⟩,a2⟩
   rw [R i] at r ⊢;rcases r with r | ⟨r,_⟩
   ·exact il r
   ·simp at r
 ·by_cases u:i=e
  ·by_cases s:C=e
   ·omega
   ·rw [if_pos u,if_neg s] at d;have:=(M C (by omega)).1;omega
  ·by_cases s:C=e
   ·rw [if_neg u,if_pos s] at d;have:=(M i (by omega)).1;omega
   ·rw [if_neg u,if_neg s] at d;exact H.hi i C (by omega) (by omega) d
 ·have d:ge (fun i=>if i=e then N else j i) (e+1)=ge j e ++ [.pointer (some ⟨N,0,none⟩)]:=by
   unfold ge;rw [List.range_succ,List.map_append];congr 1
   ·apply List.map_congr_left
    intro i n;have:=List.mem_range.1 n;show Value.pointer (some ⟨if i=e then N else j i,0,none⟩)=_;rw [if_neg (by omega)]
   ·simp
  rw [d];exact aq Q (fun l O=>ac (ax Q O Y (by decide)) _ _)
 ·rcases O with a | a | a
  ·exact H.hF l (il a) x
  ·exact H.hF l (ir (il a)) x
  ·rcases ad with p | p
   ·exact H.hF l (ir (ir (p▸a))) x
   ·rw [p,I] at a;injection a with a;have:=K l x;omega
 ·rcases L with a | a | a | a | ⟨i,n,a⟩
  ·exact H.lo b (il a)
  ·exact H.lo b (ir (il a))
  ·exact H.lo b (ir (ir (il a)))
  ·exact (aj Q a).1
  ·dsimp only at a;split at a
   ·omega
   ·exact H.lo b (ir (ir (ir (ir ⟨i,by omega,a⟩))))
 ·rcases L with a | a | a | a | ⟨i,n,a⟩
  ·exact il (il a)
  ·exact il (ir (il a))
  ·exact il (ir (ir (il a)))
  ·rcases ad with p | p
   ·exact il (ir (ir (ir (il (p▸a)))))
   ·rw [p,I] at a;injection a with a;exact ir (by omega)
  ·dsimp only at a;split at a
   ·exact ir (by omega)
   ·exact il (ir (ir (ir (ir ⟨i,by omega,a⟩))))
theorem bc.kept {w w':World}{j db nb t:Nat}{s:Option Nat}{blk:Int}{X:Xs}{F:NP}{B:Nat}{p:Value}{r:Nat}{o:Nat->Nat}{c:Nat->Cn}(H:bc w j db nb t s blk X F B p r o c)(m:w.heap.size<=w'.heap.size)(b:∀ k,k<w.heap.size->w'.heap[k]?=w.heap[k]?):bc w' j db nb t s blk X F B p r o c:=by
 refine⟨(b j (am H.hh)).trans H.hh,H.hd,H.hs.kept m (fun n y=>b n (H.hs.lt n y)),fun A z=>?_,H.hi,aq H.ho (fun a l=>b a (aj H.ho l).2),H.hF,H.lo,H.fr⟩
 obtain⟨⟨u,q,v,g⟩,x⟩:=H.hc A z;exact⟨⟨u,(b _ (am q)).trans q,v.kept m (fun a f e d _ l=>b a l),fun a f e d i=>⟨(g a f e d i).1,(g a f e d i).2.1,ll (g a f e d i).2.2 m⟩⟩,x⟩
theorem bc.lt {w:World}{f db nb l:Nat}{k:Option Nat}{blk:Int}{X:Xs}{F:NP}{B:Nat}{e:Value}{g:Nat}{d:Nat->Nat}{c:Nat->Cn}(H:bc w f db nb l k blk X F B e g d c)(b:Nat)(a:HG f db F e g d b):b<w.heap.size:=by
 rcases a with rfl | rfl | a | a | ⟨j,i,rfl⟩
 ·exact am H.hh
 ·exact H.hs.lt _ H.hd
 ·exact H.hs.lt b a
 ·exact (aj H.ho a).2
 ·exact am (H.hc j i).mem.choose_spec.1
theorem bc.fed {w w':World}{m db nb z:Nat}{Y:Option Nat}{blk:Int}{X:Xs}{F:NP}{B:Nat}{s ad:Value}{f:Nat->Nat}{c:Nat->Cn}{Z:Int}{bs:List Int}(H:bc w m db nb z Y blk X F B s 3 f c)(bu:B<=w.heap.size)(i:Nat)(v:i<3)(P:jbc db blk z (f i) F X (c i) Z bs w ad w') :
  ∃ q X' l,(cI (co X Z) l X'/\pZ X'/\l.map Prod.fst=jW (c i) bs)/\bc w' m db nb z Y blk X' q B s 3 f (fun d=>if d=i then gU (c i) bs else c d)/\ae (HG m db F s 3 f) w w'/\(∀ b,HG m db q s 3 f b->HG m db F s 3 f b\/w.heap.size<=b)/\w'.ownsRow w.heap.size 5 1 ad (bG (mi (c i) bs l)).length ((bG (mi (c i) bs l)).map (Value.int .u8))/\(∀ g,g<w.heap.size->bE w z 3 f c g->bE w' z 3 f (fun d=>if d=i then gU (c i) bs else c d) g):=by
 obtain⟨q,X',l,bb,ao,bd,L,M,bg,bi⟩:=P;obtain⟨bl,E,a9,bv⟩:=(H.hc i v).mem;obtain⟨bw,bo,a2⟩:=a9.shape;have U:=M.size;have r:∀ e,e<w.heap.size->¬F e->e≠f i->w'.heap[e]?=w.heap[e]?:=fun e S p C=>M.block e S (fun a=>a.elim p C);have a8:m≠f i:=by
  intro j;rw [<-j,H.hh] at E;simp at E
 have K:∀ e,e<w.heap.size->¬F e->¬q e:=fun e S p a=>(L e a).elim p (fun a=>by omega);refine⟨q,X',l,bb,⟨(r m (am H.hh) (H.hF m (il rfl)) a8).trans H.hh,ao.dskF,ao,fun d o=>?_,H.hi,?_,fun g n=>?_,fun b a3=>?_,fun d o=>?_⟩,M.mono (fun e a _=>?_),fun b a=>?_,bg,fun g n W d o x O u=>?_⟩
 ·by_cases j:d=i
  ·rw [if_pos j,j];exact bd
  ·rw [if_neg j];obtain⟨⟨a0,I,J,t⟩,Q⟩:=H.hc d o;have a6:f d≠f i:=fun a=>j (H.hi d i o v a);refine⟨⟨a0,(r _ (am I) Q a6).trans I,?_,fun g D y A a=>⟨K g (t g D y A a).2.2 (t g D y A a).1,(t g D y A a).2.1,ll (t g D y A a).2.2 U⟩⟩,K _ (am I) Q⟩
   rcases J with J | ⟨p,G,N,av,V,C,R⟩
   ·exact il J
   ·refine ir ⟨p,G,N,av,V,ll C U,fun bk bj a7=>?_⟩
    have a4:G≠f i:=by
     intro a1;have a5:0<(c d).waits.length:=p;have k:=R 0 (.int .u8 ((c d).waits[0])) (by simp [a5]);rw [a1,ab E,a2] at k;rw [Nat.add_zero] at k;match N,k with
     | 0,k=>simp at k
     | 1,k=>simp at k
     | 2,k=>simp at k
     | y+3,k=>simp at k
    exact (World.cell?_of_block (w:=w) (r G C (t G N _ _ V).1 a4)).trans (R bk bj a7)
 ·exact aq H.ho (fun g n=>r g (aj H.ho n).2 (H.hF g (ir (ir n))) (ax H.ho n E (by decide)))
 ·refine K g ?_ (H.hF g n)
  rcases n with rfl | a | a
  ·exact am H.hh
  ·exact a.elim
  ·exact (aj H.ho a).2
 ·rcases a3 with a | a | a | a | a
  ·exact H.lo b (il a)
  ·exact H.lo b (ir (il a))
  ·rcases L b a with a | a
   ·exact H.lo b (ir (ir (il a)))
   ·omega
  ·exact H.lo b (ir (ir (ir (il a))))
  ·exact H.lo b (ir (ir (ir (ir a))))
 ·rw [if_neg (by omega)];exact H.fr d o
 ·rcases a with a | a
  ·exact ir (ir (il a))
  ·exact ir (ir (ir (ir ⟨i,v,a⟩)))
 ·rcases a with a | a | a | a | a
  ·exact il (il a)
  ·exact il (ir (il a))
  ·rcases L b a with a | a
   ·exact il (ir (ir (il a)))
   ·exact ir a
  ·exact il (ir (ir (ir (il a))))
  ·exact il (ir (ir (ir (ir a))))
 ·dsimp only at u x;by_cases j:d=i
  ·rw [if_pos j,j] at u;rw [if_pos j] at x;exact bi g n (W i v) x O u
  ·rw [if_neg j] at u x;have T:=(H.hc d o);refine W d o x O ((r _ (am T.mem.choose_spec.1) T.nF (fun a=>j (H.hi d i o v a))).symm.trans u)
theorem bc.keptE {w w':World}{b db nb y:Nat}{C:Option Nat}{blk:Int}{X:Xs}{F:NP}{B:Nat}{i:Value}{g:Nat}{d:Nat->Nat}{c:Nat->Cn}(H:bc w b db nb y C blk X F B i g d c)(p:Nat)(I:¬HG b db F i g d p)(K:bE w y g d c p)(v:w.heap.size<=w'.heap.size)(f:∀ k,k<w.heap.size->k≠p->w'.heap[k]?=w.heap[k]?):bc w' b db nb y C blk X F B i g d c:=by
 have m:∀ k,HG b db F i g d k->k≠p:=fun k e r=>I (r▸e);refine⟨(f b (am H.hh) (m b (il rfl))).trans H.hh,H.hd,H.hs.kept v (fun q A=>f q (H.hs.lt q A) (m q (ir (ir (il A))))),fun x u=>?_,H.hi,aq H.ho (fun a l=>f a (aj H.ho l).2 (m a (ir (ir (ir (il l)))))),H.hF,H.lo,H.fr⟩
 obtain⟨⟨z,s,E,t⟩,G⟩:=H.hc x u;exact⟨⟨z,(f _ (am s) (m _ (ir (ir (ir (ir ⟨x,u,rfl⟩)))))).trans s,nO E v (fun J a o n j r l=>f a l (fun D=>K x u J z s (by rw [r,D];rfl))),fun a o n j e=>⟨(t a o n j e).1,(t a o n j e).2.1,ll (t a o n j e).2.2 v⟩⟩,G⟩
theorem bc.refill {w w':World}{m db nb E:Nat}{A:Option Nat}{blk:Int}{X:Xs}{F:NP}{B:Nat}{t:Value}{y:Nat}{s:Nat->Nat}{c:Nat->Cn}(H:bc w m db nb E A blk X F B t y s c){z C:Nat}{D:Value}{l f l' u:Int}{dn:Bool}(M:w.heap[db]?=some (OF z C D l f dn))
  (N:w'.heap[db]?=some (OF z C D l' u dn)) {q:Bu}(Q:fC l' q.l) (O:fC u q.f) (S:X.ill=none\/4<=X.k.l\/dn=false) (p:w.heap.size<=w'.heap.size) (e:∀ k,k<w.heap.size->k≠db->w'.heap[k]?=w.heap[k]?):bc w' m db nb E A blk (X.at q) F B t y s c:=by
 have L:=H.hs.refill M N Q O S p (fun r K R=>e r (H.hs.lt r K) R);refine⟨(e m (am H.hh) (fun b=>H.hF m (il rfl) (b▸H.hd))).trans H.hh,H.hd,L,fun T P=>?_,H.hi,aq H.ho (fun a n=>e a (aj H.ho n).2 (fun b=>H.hF a (ir (ir n)) (b▸H.hd))),H.hF,H.lo,H.fr⟩
 obtain⟨⟨G,v,J,j⟩,x⟩:=H.hc T P;exact⟨⟨G,(e _ (am v) (fun b=>x (b▸H.hd))).trans v,J.kept p (fun a i g d b n=>e a n (fun I=>(j a i g d b).1 (I▸H.hd))),fun a i g d o=>⟨(j a i g d o).1,(j a i g d o).2.1,ll (j a i g d o).2.2 p⟩⟩,x⟩
theorem cL.x {w:World}{d db nb g:Nat}{f:Option Nat}{blk:Int}{D:Dx}{L:Ld}{F:NP}{B:Nat}{b:Value}{e:Nat}{a:Nat->Nat}{c:Nat->Cn}(H:cL w d db nb g f blk D L F B b e a c):bc w d db nb g f blk ⟨L,D,none,bu 0⟩ F B b e a c:=⟨H.hh,H.hd,H.hs,H.hc,H.hi,H.ho,H.hF,H.lo,H.fr⟩
theorem bc.well {w:World}{d db nb g:Nat}{f:Option Nat}{blk:Int}{D:Dx}{L:Ld}{F:NP}{B:Nat}{b:Value}{e:Nat}{a:Nat->Nat}{c:Nat->Cn}{k:Bu}(H:bc w d db nb g f blk ⟨L,D,none,k⟩ F B b e a c):cL w d db nb g f blk D L F B b e a c:=⟨H.hh,H.hd,aU.less H.hs ⟨Nat.zero_le _,Nat.zero_le _⟩,H.hc,H.hi,H.ho,H.hF,H.lo,H.fr⟩
theorem je7 (a db c:Nat)(a6 a9 D C a1 a2 q:Value)(fs:Fs)(pd:Pd)(T x:Int)(w:World)(a7:-9223372036854775808<=x)(a8:x<=9223372036854775807)(i:w.heap[a]?=some (Um db a9 D C))(u:w.heap[db]?=some (.cells #[.map (some c),a6,q,a1,a2,.bool true] 88))(t:ak w c fs)(d:fX w q pd)(R:∀ b s,pd=some (b,some s)->s.size<=1000000) :
  Calls prog 32 #[pO a 0,.int .i64 T,.int .i64 x] w fun e w'=>e=.returned (.tuple #[])/\∃ n nb,ww w.heap.size pd fs n/\w'.heap[a]?=some (uA db D C)/\w'.heap[db]?=some (oB c nb)/\w.heap.size<=nb/\ak w' c n/\ak w' nb n/\c≠nb/\ae (fun b=>b=a\/b=db\/b=c) w w':=by
 have H:a≠db:=by
  intro e;subst e;rw [i] at u;simp at u
 have O:c≠a:=t.map.ne i;have U:¬a=db:=H;have a5:¬db=a:=fun e=>H e.symm;obtain⟨g,k⟩:∃ g,g=w.setCell ⟨a,1,none⟩ (.pointer none):=⟨_,rfl⟩;have p:∀ B,B≠a->g.heap[B]?=w.heap[B]?:=fun B a4=>by rw [k,ac a4]
 have G:g.heap[a]?=some (uA db D C):=by rw [k];simpa using ai i 1 (.pointer none)
 have L:=(p db a5).trans u;have M:ak g c fs:=t.kept (p c O) (fun j d=>p _ (fun e=>by have:=t.str j d;rw [e,i] at this;simp at this));have K:ae (fun b=>b=a\/b=db\/b=c) w g:=k▸ae.set (S:=fun b=>b=a\/b=db\/b=c) (b:=a) (ae.refl _ w) (il (il rfl)) _ _;have A:g.heap.size=w.heap.size:=by rw [k];simp
 have Q:fX g q pd:=d.kept (fun bb v=>p bb (fun e=>by
   match pd,d with
   | none,d=>
     have a3:q=.slice none 0 0:=d;rw [a3] at v;simp [Value.ownBlock] at v
   | some (_,some _),⟨base,ho⟩=>exact ax ho v i (by decide) e
   | some (_,none),⟨base,ho⟩=>exact ax ho v i (by decide) e))
 have V:=aa (jbv db c _ _ _ _ q fs pd T x g a7 a8 L M Q R);have ad:=ab i;have ao:=ab u;have av:=ag i;have X:=aa K;have J:=aa G;have Z:=aa A;clear p L M K t A Q d R;go_enter func32,ntmps32
 go_upto_region 2 with fail
 rw [<-k];clear k ad ao av;have a0:=ab G;clear G;go_wp2_with fail
 refine V.out.mono ?_
 rintro e bj ⟨rfl,n,nb,y,f,I,m,l,z,r⟩;have F:=(r.block a (am J.out) (fun E=>E.elim H (fun e=>O e.symm))).trans J.out;have bd:=ab F 0;have bg:=ab f;have bi:=ag f;have Y:=aa (aN y (aN f (aN I (aN m (aN l (aN z r))))));have W:=aa F;clear y f I l r m z F a0;go_wp2_with fail
 go_region_held3 (fun w'=>w'.cell? ⟨a,0,none⟩=some (.pointer (some ⟨db,0,none⟩))) (go_keep) (fail)
 all_goals go_wp2
 all_goals go_end0
 all_goals (
   obtain⟨y,f,I,m,l,z,r⟩:=Y.out;have P:nb≠db:=l.map.ne f;have N:c≠db:=m.map.ne f;have A:=Z.out;refine⟨rfl,n,nb,by rw [<-A];exact y,?_,(aE _ _).trans (by simpa using ai (ai f 3 (.int .i64 (-1))) 4 (.int .i64 (-1))),by omega,?_,?_,z,ae.drew ?_⟩
   · rw [aE,ac U,ac U];exact W.out
   · exact m.kept (by rw [aE,ac N,ac N]) (fun j d=>by
       have o:j.2.1≠db:=fun e=>by have:=m.str j d;rw [e,f] at this;simp at this
       rw [aE,ac o,ac o])
   · exact l.kept (by rw [aE,ac P,ac P]) (fun j d=>by
       have o:j.2.1≠db:=fun e=>by have:=l.str j d;rw [e,f] at this;simp at this
       rw [aE,ac o,ac o])
   · exact ae.set (S:=fun b=>b=a\/b=db\/b=c) (b:=db) (ae.set (S:=fun b=>b=a\/b=db\/b=c) (b:=db) (X.out.then r (fun _ _ E=>ir E)) (il (ir (il rfl))) _ _) (il (ir (il rfl))) _ _)
def Vir (blk:Int)(X:Xs)(c:Ld):Prop:=∃ (b:jI) (d:List Ky) (a:Es) (e:Fs) (f:Pd),X.ill=some b/\stands a=X.L.ks/\cY X.D.t X.L.time blk b d a e f/\(c=X.L\/c=⟨X.L.time,X.L.adm,stands (fk b blk a)⟩)
theorem qD {w w':World}{j db d nb:Nat}{E:Value}{blk:Int}{L:Ld}{D:Dx}{φ:jI}{k:Bu}{F G:NP}{B:Nat}{M:List Ky}{g:Es}{fsD e:Fs}{pd:Pd}(s:stands g=L.ks)(f:(U7 L.time)/\(U7 L.adm)/\(U7 blk)/\0<=D.t)(t:cY D.t L.time blk φ M g fsD pd)(i:G j/\G db/\∀ b,F b->G b)(N:∀ b,G b->B<=b/\b<w.heap.size)(V:B<=w.heap.size)(H:F d)(I:∀ p∈fsD,F p.2.1)
  (u:ww w.heap.size pd fsD e) (K:w'.heap[j]?=some (Om db E blk)) (J:w'.heap[db]?=some (oB d nb)) (P:w.heap.size<=nb) (v:ak w' d e) (x:ak w' nb e) (O:d≠nb) (W:w.heap.size<=w'.heap.size) :
  ∃ (n:Ld) (m:NP),bQ w' w' j blk ⟨D.t,false⟩ n B m/\Vir blk ⟨L,D,some φ,k⟩ n/\∀ b,m b->G b\/w.heap.size<=b:=by
 obtain⟨o,A,q,C,r,U⟩:=jf7 (adm:=L.adm) f.1 f.2.1 f.2.2.1 f.2.2.2 t u;have Q:∀ p∈e,p∈fsD\/w.heap.size<=p.2.1:=fun p c=>by
  have y:∀ {b:Bool}{z:Nat×ByteArray},w.heap.size<=z.1->p∈aJ b z fsD->p∈fsD\/w.heap.size<=p.2.1:=fun R a=>by
   rcases cS a with a | rfl
   ·exact il a
   ·exact ir R
  rcases u with rfl | ⟨T,l,_,rfl⟩ | ⟨b,S,T,X,l,_,_,rfl⟩
  ·exact il c
  ·match pd,c with
   | none,c=>exact il c
   | some (b,some S),c=>exact y l c
   | some (b,none),c=>exact il (cg.subset c)
  ·exact y l c
 refine⟨o.ld,fun b=>G b\/(w.heap.size<=b/\b<w'.heap.size),⟨db,fun b=>F b\/(w.heap.size<=b/\b<w'.heap.size),⟨il i.1,il i.2.1,fun b a=>a.imp (i.2.2 b) id⟩,fun b a=>?_,o,d,nb,A,rfl,C,?_,il H,il (ir ⟨P,x.map.lt⟩),fun p c=>?_,ae.refl _ _⟩,⟨φ,M,g,fsD,pd,rfl,s,t,?_⟩,fun b a=>a.imp id (fun a=>a.1)⟩
 ·rcases a with a | a
  ·have:=N b a;omega
  ·omega
 ·rw [r];exact⟨⟨_,_,K⟩,⟨_,_,J⟩,v,x,O⟩
 ·rw [r] at c;rcases Q p c with a | a
  ·exact il (I p a)
  ·exact ir ⟨a,am (v.str p c)⟩
 ·rw [s] at q;exact q
theorem jdV (a db a1 c:Nat)(blk:Int)(y Z V T U k:Value)(fs:Fs)(pd:Pd)(L p:Int)(w:World)(f:w.heap[a]?=some (OE db a1 y blk))(n:w.heap[db]?=some (Ua c Z k T U V))(o:ak w c fs)(C:fX w k pd)(K:∀ b s,pd=some (b,some s)->s.size<=1000000)(ao:-9223372036854775808<=p)(av:p<=9223372036854775807) :
  Calls prog 25 #[pO a 0,.int .i64 L,.int .i64 p] w fun e w'=>e=.returned (.tuple #[])/\∃ i nb,ww w.heap.size pd fs i/\w'.heap[a]?=some (Om db y blk)/\w'.heap[db]?=some (oB c nb)/\w.heap.size<=nb/\ak w' c i/\ak w' nb i/\c≠nb/\ae (fun b=>b=a\/b=db\/b=c) w w':=by
 have I:a≠db:=by
  intro e;subst e;rw [f] at n;simp at n
 have H:c≠a:=o.map.ne f;obtain⟨d,g⟩:∃ d,d=w.setCell ⟨a,1,none⟩ (.pointer none):=⟨_,rfl⟩;have j:∀ x,x≠a->d.heap[x]?=w.heap[x]?:=fun x X=>by rw [g,ac X]
 have A:d.heap[a]?=some (Om db y blk):=by rw [g];simpa using ai f 1 (.pointer none)
 have F:=(j db (fun e=>I e.symm)).trans n;have G:ak d c fs:=o.kept (j c H) (fun ad B=>j _ (fun e=>by have:=o.str ad B;rw [e,f] at this;simp at this));have J:fX d k pd:=C.kept (fun a2 m=>j a2 (fun e=>by
   match pd,C with
   | none,B=>
     have W:k=.slice none 0 0:=B;rw [W] at m;simp [Value.ownBlock] at m
   | some (_,some _),⟨base,ho⟩=>exact ax ho m f (by decide) e
   | some (_,none),⟨base,ho⟩=>exact ax ho m f (by decide) e))
 have E:ae (fun b=>b=a\/b=db\/b=c) w d:=g▸ae.set (S:=fun b=>b=a\/b=db\/b=c) (b:=a) (ae.refl _ w) (il (il rfl)) _ _;have M:=aa (jbv db c _ _ _ _ k fs pd L p d ao av F G J K);have Q:=ab f;have R:=ag f;have a3:=ab A;have N:=aa E;clear n o C G J E j K F;go_enter func25,ntmps25
 go_upto_region 1 with fail
 rw [<-g];have P:=aa g;clear g Q R;go_wp2_with fail
 refine M.out.mono ?_
 rintro e a4 ⟨rfl,i,Y,q,r,D,t,u,v,l⟩;have O:=aa (aN q (aN r (aN D (aN t (aN u (aN v l))))));clear q r D t u v l;go_wp2
 go_end0
 obtain⟨q,r,D,t,u,v,l⟩:=O.out;have a0:d.heap.size=w.heap.size:=by rw [P.out];simp
 exact⟨rfl,i,Y,by rw [<-a0];exact q,(l.block a (am A) (fun z=>z.elim I (fun e=>H e.symm))).trans A,r,by omega,t,u,v,N.out.then l (fun _ _ z=>ir z)⟩
def mL (w:World)(d:Nat)(blk:Int)(X:Xs)(B:Nat)(G:NP):Prop:=∃ b e c f,w.heap[d]?=some (OE b e f blk)/\c b/\bH b blk w 0 e X c/\¬c d/\w.cell? ⟨b,5,none⟩=some (.bool false)/\(G d/\G b/\∀ a,c a->G a)/\∀ a,G a->B<=a/\a<w.heap.size
theorem bc.up {w:World}{b db nb i:Nat}{k:Option Nat}{blk:Int}{X:Xs}{F:NP}{B:Nat}{e:Value}{g:Nat}{f:Nat->Nat}{c:Nat->Cn}(H:bc w b db nb i k blk X F B e g f c)(j:w.cell? ⟨db,5,none⟩=some (.bool false)):mL w b blk X B (HG b db F e g f):=
 ⟨db,i,F,e,H.hh,H.hd,H.hs,H.hF b (il rfl),j,⟨il rfl,ir (il rfl),fun d a=>ir (ir (il a))⟩,fun d a=>⟨H.lo d a,H.lt d a⟩⟩
theorem jdG (a:Nat)(blk:Int)(X:Xs)(B:Nat)(G:NP)(k d:Int)(w:World)(H:mL w a blk X B G)(a2:B<=w.heap.size)(x:-9223372036854775808<=d)(y:d<=9223372036854775807) :
  Calls prog 25 #[pO a 0,.int .i64 k,.int .i64 d] w fun e w'=>e=.returned (.tuple #[])/\((X.ill=none/\bQ w w' a blk X.D X.L B G)\/∃ i g,bQ w' w' a blk ⟨X.D.t,false⟩ i B g/\Vir blk X i/\ae G w w'/\∀ b,g b->G b\/w.heap.size<=b):=by
 obtain⟨j,n,f,q,z,bk,A,bl,_,c,s⟩:=H;obtain⟨p,o,a7,a8⟩:=X;cases a7 with
 | none=>
  refine (vL a j n blk o p f q k d w z bk (aU.less A ⟨Nat.zero_le _,Nat.zero_le _⟩) bl x y).mono ?_
  rintro e w' ⟨rfl,C,m,nb,S,W,Y,Z,ad,ao,av,a0,a1,T,U,V⟩;exact⟨rfl,il ⟨rfl,j,f,c,s,C,m,nb,S,W,Y,⟨⟨_,_,Z⟩,⟨_,_,ad⟩,ao,av,a0⟩,a1,ir T,U,V⟩⟩
 | some bo=>
  obtain⟨bu,bw,N,bK,bi,bv,a9,bb,u,b5,bd⟩:=(A:da j blk w 0 n p o bo a8 f);obtain⟨cc,b0,bs,b7,b8,⟨_,v⟩,b9,l,cb,_⟩:=bd.mem;obtain⟨m,nb,bj,b6,bz,a4,a5,b1,a6,b2,t,b3,b4⟩:=v.mem;refine (jdV a j n m blk q _ _ _ _ bj N bi k d w z a4 a5 a6 u.sz x y).mono ?_
  rintro e w' ⟨rfl,bF,ch,D,E,I,J,K,L,M,r⟩;obtain⟨i,g,O,P,Q⟩:=qD (F:=f) a9 bb u c s a2 (l _ t) (fun bg a3=>l _ (v.sD bg a3)) D E I J K L M r.size;exact⟨rfl,ir ⟨i,g,O,P,r.mono (fun b R a=>by
    rcases R with rfl | rfl | rfl
    · exact c.1
    · exact c.2.1
    · exact c.2.2 _ (l _ t)),Q⟩⟩
theorem Sm.ne {fsD fsN:Fs}(c:Sm fsD fsN)(a:fsD≠[]):fsN≠[]:=fun b=>by
 match fsD,a with
 | [],a=>exact a rfl
 | p :: r,_=>
  have:=c p.1;rw [b] at this;simp [ar] at this
theorem cY.full {D g blk:Int}{φ:jI}{M:List Ky}{c:Es}{fsD fsN:Fs}{pd:Pd}(d:cY D g blk φ M c fsD pd)(e:pd≠none)(f:∀ x,Sm (vT pd x fsD) fsN):fsN≠[]:=by
 refine (f 0).ne ?_
 match pd,e,d.n with
 | some (b,some s),_,_=>
  intro a;have:=bm b ((0:Nat),s) fsD;rw [show aJ b (0,s) fsD=[] from a] at this;cases this
 | some (b,none),_,hn=>exact hn b rfl
theorem jdd {w m f:World}{d db:Nat}{blk:Int}{n:Dx}{F G:NP}{B:Nat}(c:G d/\G db/\∀ b,F b->G b)(D:∀ b,G b->B<=b)(J:B<=w.heap.size){fs:Fs}{k nb l:Nat}{o:Ld}{e:NP}(q:F k)(g:F nb\/w.heap.size<=nb)(v:∀ p∈fs,F p.2.1)(u:ae (fun b=>b=d\/b=db) w m)
  (x:f.heap[d]?=some (oO db l blk)) (r:aU db blk n (bu 0) f 0 l o e) (y:∀ b,e b->b=db\/b=k\/b=nb\/(∃ p∈fs,b=p.2.1)\/m.heap.size<=b) (z:¬e d) (H:ae (fun b=>b=d\/b=db\/b=k) m f) :
  cL f d db 0 l none blk n o e B (.slice none 0 0) 0 (fun _=>0) (fun _=>⟨[],false⟩)/\ae G w f/\∀ b,HG d db e (.slice none 0 0) 0 (fun _=>0) b->G b\/w.heap.size<=b:=by
 have L:=u.size;have s:∀ b,HG d db e (.slice none 0 0) 0 (fun _=>0) b->G b\/w.heap.size<=b:=fun b j=>by
  rcases j with a | a | a | a | ⟨t,i,_⟩
  ·exact il (a▸c.1)
  ·exact il (a▸c.2.1)
  ·rcases y b a with a | a | a | ⟨p,E,a⟩ | a
   ·exact il (a▸c.2.1)
   ·exact il (c.2.2 _ (a▸q))
   ·rcases g with g | g
    ·exact il (c.2.2 _ (a▸g))
    ·exact ir (by omega)
   ·exact il (c.2.2 _ (a▸v p E))
   ·exact ir (by omega)
  ·simp [Value.ownBlock] at a
  ·omega
 refine⟨⟨x,r.dskF,r,fun t i=>absurd i (Nat.not_lt_zero _),fun t K i=>absurd i (Nat.not_lt_zero _),World.ownsRow_nil _ _ _ _,fun I C A=>?_,fun b j=>?_,fun _ _=>rfl⟩,((u.mono (fun b a _=>a.imp id (fun a=>il a))).trans H).mono (fun b a _=>a.elim (fun a=>a▸c.1) (fun a=>a.elim (fun a=>a▸c.2.1) (fun a=>c.2.2 _ (a▸q)))),s⟩
 ·rcases C with a | a | a
  ·exact z (a▸A)
  ·exact a
  ·simp [Value.ownBlock] at a
 ·rcases s b j with a | a
  ·exact D b a
  ·omega
theorem jaq (l:Nat)(blk:Int)(X:Xs)(B:Nat)(G:NP)(w:World)(d:mL w l blk X B G)(A:B<=w.heap.size) :
  Calls prog 20 #[pO l 0,.int .i64 (-1),.int .i64 (-1),.int .i64 0,.int .i64 0] w fun e w'=>∃ a q,e=.returned (.int .i64 0)/\bx w' l blk ⟨a.time,true⟩ a B q/\((X.ill=none/\rO blk X.D X.L a)\/∃ W,Vir blk X W/\rO blk ⟨X.D.t,false⟩ W a)/\ae G w w'/\∀ b,q b->G b\/w.heap.size<=b:=by
 obtain⟨j,a5,x,a9,V,bK,a7,b0,a8,E,M⟩:=d;obtain⟨c,p,bv,bw⟩:=X;cases bv with
 | none=>
  refine (jap l blk p c B G w ⟨j,a5,x,a9,V,bK,aU.less a7 ⟨Nat.zero_le _,Nat.zero_le _⟩,b0,E,M⟩ A).mono ?_
  rintro e w' ⟨a,q,rfl,bj,bk,bl,bo⟩;exact⟨a,q,rfl,bj,il ⟨rfl,bk⟩,bl,bo⟩
 | some v=>
  obtain⟨Y,r,k,f,R,bb,P,g,i,bz,bF⟩:=(a7:da j blk w 0 a5 c p v bw x);obtain⟨cb,b3,b1,b6,b7,⟨_,Q⟩,b8,m,b9,_⟩:=bF.mem;obtain⟨t,nb,a4,b5,b2,O,ao,av,a0,b4,a1,a2,a3⟩:=Q.mem;have bs:bb=false:=by
   rw [ab O 5] at a8;simpa using a8
  subst bs;have s:=bz.1 rfl;have Z:∀ u∈k ++ f,x u.2.1:=fun u n=>(List.mem_append.1 n).elim (fun n=>m _ (Q.sD u n)) (fun n=>m _ (Q.sN u n));by_cases N:R=none
  ·subst N;have bd:a4=.slice none 0 0:=a0;subst bd;obtain⟨a6,T,U⟩:=i.a;obtain⟨bg,bi⟩:=lj (adm:=c.adm) f g.1 g.2.1 g.2.2.1 i.eo T U g.2.2.2;refine (gw l j nb t _ _ blk _ _ ⟨p.t,false⟩ _ w bg ⟨bi,(fun d=>by cases d),s 0⟩ rfl V O ao f (s 0) av a3).mono ?_
   rintro e w' ⟨S,a,y,rfl,bu,K,I,H,C,D,F⟩;obtain⟨z,L,J⟩:=o0 E (fun b d=>(M b d).1) A (m t a1) (il (m nb a2)) (fs:=k ++ f) Z (ae.refl _ w) K I C D F;exact⟨a,_,rfl,⟨j,0,S,none,y,_,0,_,by omega,z,rfl⟩,ir ⟨_,⟨v,Y,r,k,none,rfl,P,i,il (by show (⟨c.time,c.adm,stands r⟩:Ld)=c;rw [P])⟩,H⟩,L,J⟩
  ·obtain⟨a6,T,U⟩:=i.b N;have ad:=fun o=>lj (adm:=c.adm) f g.1 g.2.1 g.2.2.1 (i.eo.vir (blk:=blk) i.v) T (U o) g.2.2.2;refine (qF l j nb t _ _ a4 blk _ _ ⟨p.t,false⟩ ⟨c.time,c.adm,blk,fk v blk r,a6,[],f⟩ k R w (fun o=>(ad o).1) (fun o=>(ad o).2) (fun d=>by cases d) rfl V O ao a0 f s (i.full N s) av a3).mono ?_
   rintro e w' ⟨S,a,y,rfl,bu,K,I,H,C,D,F⟩;obtain⟨z,L,J⟩:=jdd E (fun b d=>(M b d).1) A (m t a1) (il (m nb a2)) (fs:=k ++ f) Z (ae.refl _ w) K I C D F;exact⟨a,_,rfl,⟨j,0,S,none,y,_,0,_,by omega,z,rfl⟩,ir ⟨_,⟨v,Y,r,k,R,rfl,P,i,ir rfl⟩,H⟩,L,J⟩
end Go.Proofs.YtnlgndpcddngoaaGreatDoor
