import Derived.Test.YtnlgndpcddngoaaGreatDoorZ02
import Derived.Maps.AppendAt
import Derived.Deep.RegionLaw
import Derived.Test.YtnlgndpcddngoaaGreatDoorZ14
import Derived.StringKeys
import Derived.Deep.DeepCutAuto
import Derived.OneCell
set_option linter.all false
set_option maxRecDepth 100000
set_option maxHeartbeats 4000000
namespace Go.Proofs.YtnlgndpcddngoaaGreatDoor
open Go.Proofs.Tryz Go.RowKit Go.Maps
variable [dK] [iK]
structure fB (w w':World)(v v':Value):Prop where
 g:w.grownBy w' v.ownBlock
 at_:v'.ownBlock=v.ownBlock\/∃ k,v'.ownBlock=some k/\w.heap.size<=k
theorem fB.refl (w:World)(v:Value):fB w w v v:=⟨World.grownBy.refl _ _,il rfl⟩
theorem fB.trans {a b c:World}{v n o:Value}(d:fB a b v n)(k:fB b c n o):fB a c v o:=by
 refine⟨⟨k.g.os.trans d.g.os,k.g.tape.trans d.g.tape,k.g.output.trans d.g.output,lq d.g.size k.g.size,fun m j l=>?_⟩,?_⟩
 ·refine (k.g.block m (ll j d.g.size) ?_).trans (d.g.block m j l)
  rcases d.at_ with e | ⟨g,e,f⟩
  ·rw [e];exact l
  ·rw [e];intro i;injection i with i;omega
 ·rcases k.at_ with e | ⟨g,e,f⟩
  ·rcases d.at_ with h | ⟨g,h,f⟩
   ·exact il (e.trans h)
   ·exact ir ⟨g,e.trans h,f⟩
  ·exact ir ⟨g,e,lq d.g.size f⟩
theorem fB.alloc {a b:World}{v c:Value}(d:fB a b v c)(o:Obj):fB a (b.alloc o) v c:=
 d.trans ⟨World.grownBy_alloc _ _ _,il rfl⟩
theorem fB.drew {a b:World}{v d:Value}(c:fB a b v d):fB a b.drew v d:=⟨jbT c.g,c.at_⟩
theorem fB.block {w w':World}{v f:Value}(d:fB w w' v f){b:Nat}{o:Obj}(a:w.heap[b]?=some o)(e:v.ownBlock≠some b):w'.heap[b]?=some o:=
 (d.g.block b (am a) (fun c=>e c.symm)).trans a
theorem fB.ne {w w':World}{v d:Value}(e:fB w w' v d){b:Nat}(g:b<w.heap.size)(f:v.ownBlock≠some b):d.ownBlock≠some b:=by
 rcases e.at_ with a | ⟨i,a,h⟩
 ·rw [a];exact f
 ·rw [a];intro c;injection c with c;omega
theorem fB.one {w w':World}{v a:Value}(c:w.grownBy w' v.ownBlock)(d:a.ownBlock=v.ownBlock\/a.ownBlock=some w.heap.size):fB w w' v a:=
 ⟨c,d.imp id (fun b=>⟨_,b,lz⟩)⟩
theorem fB.below {w w':World}{v h:Value}(a:fB w w' v h){B:Nat}(e:B<=w.heap.size)(g:∀ b,v.ownBlock=some b->B<=b):Below B w w':=
 ⟨a.g.os,a.g.tape,a.g.output,a.g.size,fun c f=>a.g.block c (ll f e) (fun d=>by have:=g c d.symm;omega)⟩
theorem numG (base n:Nat)(d:List Int)(b:Value)(v:Int)(w:World)(i:d.length=n)(r:w.ownsRow base 5 1 b n (d.map (Value.int .u8)))(E:n+8<=4000000)(C:base<=w.heap.size)(A:0<=v)(B:v<=18446744073709551615) :
  Calls prog 69 #[b,.int .u64 v] w fun e w'=>∃ f,e=.returned f/\w'.ownsRow base 5 1 f (n+8) ((d ++ bI v).map (Value.int .u8))/\fB w w' b f:=by
 obtain⟨y,p,t,u,x⟩:=info_parts Tryz.info5;have z:=aa i;clear i;go_enter func69,ntmps69
 go_wp2
 go_loopw [0,5] (fun l h wr=>∃ (a:Nat) (c:Value),a<=8/\h=.int .i64 (56 - 8 * (a:Int))/\c=l/\wr.ownsRow base 5 1 c (n+a) ((d ++ (bI v).take a).map (Value.int .u8))/\fB w wr b c) (fun _ h _=>(intOf h+8).toNat)
 case atStart=>exact⟨0,b,Nat.zero_le _,rfl,rfl,by simpa using r,fB.refl _ _⟩
 case round=>
  obtain⟨a,c,D,rfl,rfl,j,g⟩:=hrel;have F:=g.g.size;by_cases q:a<8
  ·go_wp2_with (at_builtin;refine wpList_append_own_at (w:=_) rfl _ _ 76 rfl base 5 y (.int .u8 0) 1 1 underlying76 p t u x rfl (by decide) c (n+a) _ rfl (j.alloc _) ⟨wr.heap.size,0,none⟩ 1 1 [.int .u8 (v / 2 ^ (56 - 8 * a) % 256)] rfl rfl (cell_one_new _ _ _) (by simp [Value.oneCell']) (by unfold maxLen;omega) (by omega) (by simp;omega) ?_;intro k G s o _ m)
   go_roundw
   case rel=>exact⟨a+1,k,by omega,by go_num,rfl,by rw [kE v a q];simpa [Nat.add_assoc] using s,(g.alloc _).trans (fB.one o m)⟩
   case measure=>simp [intOf];omega
  ·obtain rfl:a=8:=by omega
   go_wp2
   go_ret
   exact⟨c,rfl,j,g⟩
theorem fB.cell {V b:World}{v h:Value}{P a:Nat}{u:Option Value}(d:fB V b v h)(e:P<V.heap.size)(g:v.ownBlock≠some P)(f:V.cell? ⟨P,a,none⟩=u):b.cell? ⟨P,a,none⟩=u:=
 (World.cell?_of_block (w:=V) (d.g.block P e (fun c=>g c.symm))).trans f
theorem fB.up {V b:World}{o:Obj}{v g:Value}{P a:Nat}{u:Option Value}(c:fB (V.alloc o).drew b v g)(d:P<V.heap.size)(f:v.ownBlock≠some P)(e:V.cell? ⟨P,a,none⟩=u):b.cell? ⟨P,a,none⟩=u:=by
 refine fB.cell c (by show P<(V.alloc o).heap.size;simp;omega) f ?_
 show (V.alloc o).cell? ⟨P,a,none⟩=u;rw [World.cell?_alloc_lt _ _ ⟨P,a,none⟩ d];exact e
theorem polG (base n:Nat)(h:List Int)(b:Value)(d x y:Int)(w:World)(C:h.length=n)(p:w.ownsRow base 5 1 b n (h.map (Value.int .u8)))(a7:n+17<=4000000)(a6:base<=w.heap.size)(W:0<=x)(X:x<=18446744073709551615)(Y:0<=y)(Z:y<=18446744073709551615) :
  Calls prog 68 #[b,ot d x y] w fun e w'=>∃ l,e=.returned l/\w'.ownsRow base 5 1 l (n+17) ((h ++ ([d] ++ bI x ++ bI y)).map (Value.int .u8))/\fB w w' b l:=by
 obtain⟨a0,U,ad,ao,av⟩:=info_parts Tryz.info5;have o:∀ m,b.ownBlock=some m->m<w.heap.size:=fun m e=>(aj p e).2;have r:=aa C;clear C;go_enter func68,ntmps68
 go_wp2_with fail
 obtain⟨a,g⟩:∃ a,a=w.alloc (Od d x y):=⟨_,rfl⟩;rw [<-g];have G:a.heap.size=w.heap.size+1:=by rw [g];simp
 have i:∀ q,a.cell? ⟨w.heap.size,q,none⟩=(#[.int .u8 d,.int .u64 x,.int .u64 y]:Array Value)[q]?:=fun q=>by rw [g];exact World.cell?_alloc_at _ _ _ _ rfl
 have L:Hid (fB w a b b):=aa (by rw [g];exact (fB.refl w b).alloc _);have M:Hid (a.ownsRow base 5 1 b n (h.map (Value.int .u8))):=aa (by rw [g];exact p.alloc _);obtain⟨c,z⟩:∃ c,c=w.heap.size:=⟨_,rfl⟩;have k:b.ownBlock≠some c:=fun e=>by have:=o c e;omega
 rw [<-z] at G i ⊢;have a4:a.cell? ⟨c,0,none⟩=some (.int .u8 d):=i 0;have S:a.cell? ⟨c,1,none⟩=some (.int .u64 x):=i 1;have T:a.cell? ⟨c,2,none⟩=some (.int .u64 y):=i 2;have s:c<a.heap.size:=by omega
 have a5:base<=a.heap.size:=by omega
 have a3:=aa o;clear i G p g z o;go_region_law (first
   | (refine aT (by rfl) _ _ 76 5 a0 (.int .u8 0) 1 1 underlying76 U ad ao av rfl (by decide) (by rfl) base b n _ (by rfl) (M.out.alloc _) ⟨a.heap.size,0,none⟩ 1 1 [.int .u8 d] (by rfl) (by rfl) (cell_one_new a _ _) (by simp [Value.oneCell']) (by omega) (by omega) (by simp;omega) ?_;intro t H D B A;have f:=fB.one B A;have bb:=f.up s k S;have a1:=f.up s k T;have a8:a.heap.size<=H.heap.size:=lq (by simp) f.g.size;have V:=f.ne (b:=c) (by show c<(a.alloc _).heap.size;simp;omega) k;have N:=aa D;have I:=aa f;clear D B A f)
   | (refine aO (by rfl) 69 qk _ _ (by rfl) #[t,.int .u64 x] (by simp only [List.map_toArray,List.map_cons,List.map_nil];rfl) (numG base (n+1) (h ++ [d]) t x H (by have:=r.out;simp;omega) (by simpa using N.out) (by omega) (by omega) W X) ?_;rintro e a2 ⟨u,rfl,E,j⟩;refine⟨_,rfl,?_⟩;have bd:=j.cell (P:=c) (by omega) V a1;have a9:=j.g.size;have O:=aa E;have J:=aa j;clear E j)
   | (refine aO (by rfl) 69 qk _ _ (by rfl) #[u,.int .u64 y] (by simp only [List.map_toArray,List.map_cons,List.map_nil];rfl) (numG base (n+1+8) (h ++ [d] ++ bI x) u y a2 (by have:=r.out;simp [bI];omega) O.out (by omega) (by omega) Y Z) ?_;rintro e bg ⟨R,rfl,F,v⟩;refine⟨_,rfl,?_⟩;have Q:=aa F;have K:=aa v;clear F v))
 all_goals go_wp2
 all_goals go_ret
 all_goals exact⟨R,rfl,by simpa [Nat.add_assoc] using Q.out,(((L.out.alloc _).drew.trans I.out).trans J.out).trans K.out⟩
def tC (q:Qt):List Int:=[q.kd] ++ bI q.x ++ bI q.y ++ bI q.lv ++ bI q.wn
theorem iA (q:Qt):(tC q).length=33:=by simp [tC,bI]
structure Qt.fit (q:Qt):Prop where
 kd:0<=q.kd/\q.kd<=255
 x:U7 q.x
 y:U7 q.y
 lv:U7 q.lv
 wn:U7 q.wn
theorem qapp (base n:Nat)(g:List Int)(b:Value)(q:Qt)(w:World)(x:g.length=n)(r:w.ownsRow base 5 1 b n (g.map (Value.int .u8)))(X:n+33<=4000000)(W:base<=w.heap.size)(y:q.fit) :
  Calls prog 194 #[oD q,b] w fun e w'=>∃ m,e=.returned m/\w'.ownsRow base 5 1 m (n+33) ((g ++ tC q).map (Value.int .u8))/\fB w w' b m:=by
 have v:∀ o,b.ownBlock=some o->o<w.heap.size:=fun o e=>(aj r e).2;obtain⟨c,d⟩:∃ c,c=w.alloc (oH q):=⟨_,rfl⟩;have z:c.heap.size=w.heap.size+1:=by rw [d];simp
 have j:c.heap[w.heap.size]?=some (oH q):=d▸af _ _;have G:Hid (fB w c b b):=aa (by rw [d];exact (fB.refl w b).alloc _);have H:Hid (c.ownsRow base 5 1 b n (g.map (Value.int .u8))):=aa (by rw [d];exact r.alloc _);obtain⟨i,p⟩:∃ i,i=w.heap.size:=⟨_,rfl⟩;have t:b.ownBlock≠some i:=fun e=>by have:=v i e;omega
 rw [<-p] at j;have k:=aa x;have L:=aa p;have l:=aa z;have a:=aa y;have P:=ab j;clear r v x p z y;go_enter func194,ntmps194
 go_wp2_with fail
 rw [<-d,<-L.out];clear d;go_wp2_with fail
 refine (polG base n g b q.kd q.x q.y c k.out H.out (by omega) (by have:=l.out;omega) a.out.x.1 a.out.x.2 a.out.y.1 a.out.y.2).mono ?_
 rintro e U ⟨M,rfl,A,f⟩;have u:=f.block j t;have T:=f.ne (am j) t;have Q:=ab u;have Y:=f.g.size;have I:=aa A;have D:=aa f;clear A f P;go_wp2_with fail
 refine (numG base (n+17) _ M q.lv U (by have:=k.out;simp [bI];omega) I.out (by omega) (by have:=l.out;omega) a.out.lv.1 a.out.lv.2).mono ?_
 rintro e V ⟨N,rfl,B,h⟩;have S:=h.block u T;have R:=ab S;have Z:=h.g.size;have J:=aa B;have E:=aa h;clear B h Q;go_wp2_with fail
 refine (numG base (n+17+8) _ N q.wn V (by have:=k.out;simp [bI];omega) J.out (by omega) (by have:=l.out;omega) a.out.wn.1 a.out.wn.2).mono ?_
 rintro e ad ⟨O,rfl,C,s⟩;have K:=aa C;have F:=aa s;clear C s R;go_wp2
 go_ret
 exact⟨O,rfl,by have:=K.out;simpa [tC,Nat.add_assoc,List.append_assoc] using this,((G.out.trans D.out).trans E.out).trans F.out⟩
def mD (k:Ky):List Int:=[k.k0,k.k1,k.k2,k.k3,k.k4,k.k5,k.k6,k.k7]
theorem jco {w:World}{base n b g:Nat}{x y:Int}{d:List Int}(l:w.ownsRow base 5 1 (.slice (some ⟨g,0,none⟩) n b) n ((x :: d).map (Value.int .u8))):(w.setCell ⟨g,0,none⟩ (.int .u8 y)).ownsRow base 5 1 (.slice (some ⟨g,0,none⟩) n b) n ((y :: d).map (Value.int .u8)):=by
 obtain⟨f,c⟩:=l;refine⟨by simpa using f,?_⟩
 rcases c with ⟨c,_⟩ | ⟨z,v,e,i,m,o,q⟩
 ·simp at c
 ·simp at i;obtain⟨j,k⟩:=i;subst j k;refine ir ⟨g,b,e.setIfInBounds 0 (.int .u8 y),rfl,m,ai o 0 _,?_⟩
  obtain⟨r,s,t,a⟩:=q;refine⟨r,s,by simpa using t,?_⟩
  have p:n=d.length+1:=by simpa using f.symm
  subst p;rw [Array.toList_setIfInBounds];cases h:e.toList with
  | nil=>rw [h] at a;simp at a
  | cons u rest=>
   rw [h] at a;simp at a ⊢;exact a.2
theorem jeG (f base n:Nat)(m:Int)(E:List Int)(b:Value)(k:Ky)(q:Qt)(w:World)(C:E.length=n)(L:w.heap[f]?=some (.cells #[b] 76))(D:w.ownsRow base 5 1 b (n+1) ((m :: E).map (Value.int .u8)))(c9:0<=m/\m<255)(c8:n+50<=4000000)(bi:base<=w.heap.size)(bv:q.fit) :
  Calls prog 193 #[OH k q,.pointer (some ⟨f,0,none⟩)] w fun e w'=>e=.returned (.tuple #[])/\∃ J,w'.heap[f]?=some (.cells #[J] 76)/\w'.ownsRow base 5 1 J (n+42) (((m+1) :: (E ++ mD k ++ tC q)).map (Value.int .u8))/\ae (fun c=>c=f\/b.ownBlock=some c) w w'/\(J.ownBlock=b.ownBlock\/∃ g,J.ownBlock=some g/\w.heap.size<=g):=by
 obtain⟨cG,B,cy,cz,cF⟩:=info_parts Tryz.info5;obtain⟨g,l,cs⟩:∃ g l,b=.slice (some ⟨g,0,none⟩) (n+1) l:=by
  rcases D.2 with ⟨_,i⟩ | ⟨g,l,_,i,_⟩
  ·omega
  ·exact⟨g,l,i⟩
 subst cs;have P:g≠f:=ax D rfl L (by decide);have bj:g<w.heap.size:=(aj D (g:=g) rfl).2;have cv:base<=g:=(aj D (g:=g) rfl).1;obtain⟨p,x⟩:∃ p,p=w.alloc (Oh k q):=⟨_,rfl⟩;have bF:p.heap.size=w.heap.size+1:=by rw [x];simp
 have a7:p.heap[w.heap.size]?=some (Oh k q):=x▸af _ _;have bg:p.heap[f]?=some (.cells #[.slice (some ⟨g,0,none⟩) (n+1) l] 76):=x▸aB L _;have Q:p.ownsRow base 5 1 (.slice (some ⟨g,0,none⟩) (n+1) l) (n+1) ((m :: E).map (Value.int .u8)):=x▸D.alloc _;obtain⟨o,M⟩:∃ o,o=w.heap.size:=⟨_,rfl⟩;have bo:g≠o:=by omega
 have ct:f≠o:=by have:=am L;omega
 rw [<-M] at a7;obtain⟨F,bl,bk⟩:∃ F,p.heap[g]?=some (.cells F 5 (0,0))/\F[0]?=some (.int .u8 m):=by
  rcases Q.2 with ⟨i,_⟩ | ⟨c2,c1,F,i,_,cw,_,_,c6,cx⟩
  ·simp at i
  ·simp at i;obtain⟨a1,v⟩:=i;subst a1 v;refine⟨F,cw,?_⟩
   have:=congrArg (fun cR=>cR[0]?) cx;simpa [List.getElem?_take] using this
 have a5:ae (fun c=>c=f\/(Value.slice (some ⟨g,0,none⟩) (n+1) l).ownBlock=some c) w p:=x▸(ae.refl _ w).alloc _;have cb:=ab bg 0;have cc:p.cell? ⟨g,0,none⟩=some (.int .u8 m):=(ab bl 0).trans bk;have r:=ag bl 0;have a1:IntKind.u8.wrap (m+1)=m+1:=by rw [IntKind.wrap_u8];omega
 have c7:(0:Int)<((n+1:Nat):Int):=by omega
 obtain⟨h,y⟩:∃ h,h=p.setCell ⟨g,0,none⟩ (.int .u8 (m+1)):=⟨_,rfl⟩;have a8:h.heap[o]?=_:=y▸(ac (fun e=>bo e.symm) _ _).trans a7;have bb:h.heap[f]?=_:=y▸(ac (fun e=>P e.symm) _ _).trans bg;have bu:h.ownsRow base 5 1 (.slice (some ⟨g,0,none⟩) (n+1) l) (n+1) (((m+1) :: E).map (Value.int .u8)):=y▸jco Q;have a3:ae (fun c=>c=f\/(Value.slice (some ⟨g,0,none⟩) (n+1) l).ownBlock=some c) w h:=y▸a5.set (il (ir rfl)) _ _;have bw:h.heap.size=w.heap.size+1:=by rw [y,World.size_setCell];exact bF
 have b2:=aa C;have b8:=aa M;have b0:=aa a3;have b3:=aa bu;have I:=aa bw;have b7:=aa bv;have cV:=aa bj;have Z:=aa bi;clear D L C M a5 a3 bu bw bF Q bk bv bj bi cv;go_enter func193,ntmps193
 go_upto_region 1 with fail
 rw [<-x,<-b8.out];clear x;go_upto_region 2 with fail
 rw [<-y];clear y cb cc r;have ch:=ab bb 0;have a0:∀ j V,((mD k).map (Value.int .u8))[j]?=some V->h.drew.cell? ((⟨o,0,none⟩:Addr).add j)=some V:=by
  intro j V d;rw [Addr.add_lit,Nat.zero_add];show h.cell? ⟨o,j,none⟩=_;rw [ab a8];match j,d with
  | 0,d=>exact d
  | 1,d=>exact d
  | 2,d=>exact d
  | 3,d=>exact d
  | 4,d=>exact d
  | 5,d=>exact d
  | 6,d=>exact d
  | 7,d=>exact d
  | j+8,d=>simp [mD] at d
 have bK:=aa a0;have X:=aa bb;have b9:=aa a8;clear a0;go_region_law (refine aT (by rfl) _ _ 76 5 cG (.int .u8 0) 1 1 underlying76 B cy cz cF rfl (by decide) (by rfl) base (.slice (some ⟨g,0,none⟩) (n+1) l) (n+1) _ (by rfl) b3.out ⟨o,0,none⟩ 8 8 ((mD k).map (Value.int .u8)) (by rfl) (by rfl) bK.out (ints_oneCell _ _) (by omega) (by omega) (by have:=Z.out;have:=I.out;show base<=h.heap.size;omega) ?_;intro cX W R bs a9;obtain⟨r,u,v⟩:=aw R;subst v;have K:fB h.drew W _ (.slice r (n+1+8) u):=fB.one bs a9;have N:=K.block (b:=f) X.out (by intro e;injection e with e;exact P e);have cq:=K.block (b:=o) b9.out (by intro e;injection e with e;exact bo e);have ci:=ab N 0;have ck:=ag N 0;have b4:=aa R;have s:=aa K;clear R bs a9 K)
 all_goals go_upto_region 3 with fail
 all_goals (
   obtain⟨t,z⟩:∃ t,t=W.setCell ⟨f,0,none⟩ (.slice r (n+1+8) u):=⟨_,rfl⟩;have bd:t.heap[f]?=some (.cells #[.slice r (n+1+8) u] 76):=by rw [z];simpa using ai N 0 (.slice r (n+1+8) u)
   have cr:t.heap[o]?=_:=z▸(ac (fun e=>ct e.symm) _ _).trans cq;have S:(Value.slice r (n+1+8) u).ownBlock≠some f:=s.out.ne (b:=f) (am X.out) (by intro e;injection e with e;exact P e);have a6:t.ownsRow base 5 1 (.slice r (n+1+8) u) (n+1+8) ((((m+1) :: E) ++ mD k).map (Value.int .u8)):=by rw [z,List.map_append];exact ownsRow_setCell_other b4.out S _
   have a4:ae (fun c=>c=f\/(Value.slice (some ⟨g,0,none⟩) (n+1) l).ownBlock=some c) w t:=by
     rw [z];refine ae.set ?_ (il (il rfl)) _ _
     exact b0.out.then (T:=fun c=>(Value.slice (some ⟨g,0,none⟩) (n+1) l).ownBlock=some c) ⟨s.out.g.os,s.out.g.tape,s.out.g.output,s.out.g.size,fun G B C=>s.out.g.block G B (fun e=>C e.symm)⟩ (fun G _ i=>ir i)
   have bz:w.heap.size+1<=t.heap.size:=by rw [z,World.size_setCell];have:=s.out.g.size;have a2:=I.out;have c5:h.heap.size<=W.heap.size:=this;omega
   rw [<-z];have b5:=aa a6;have b1:=aa a4;have ad:=aa bz;have Y:=aa bd;have cn:=ab cr;have cp:=ab bd;clear z a6 a4 bz ci ck ch;go_wp2_with fail
   refine (qapp base (n+1+8) _ (.slice r (n+1+8) u) q t (by have:=b2.out;simp [mD];omega) b5.out (by omega) (by have:=Z.out;have:=ad.out;omega) b7.out).mono ?_
   rintro e db ⟨c0,rfl,U,H⟩;obtain⟨ao,av,cl⟩:=aw U;subst cl;have O:=H.block Y.out S;have cU:=H.ne (am Y.out) S;have c3:=ab O;have c4:=ag O;have b6:=aa U;have A:=aa H;clear U H cn cp;go_wp2
   go_end0
   refine⟨rfl,_,by simpa using ai O 0 (.slice ao (n+1+8+33) av),?_,?_,?_⟩
   · have:=ownsRow_setCell_other b6.out (a:=⟨f,0,none⟩) cU (.slice ao (n+1+8+33) av);simpa [Nat.add_assoc,List.append_assoc] using this
   · refine ae.set ?_ (il (il rfl)) _ _
     refine b1.out.then (T:=fun c=>(Value.slice r (n+1+8) u).ownBlock=some c) ⟨A.out.g.os,A.out.g.tape,A.out.g.output,A.out.g.size,fun G B C=>A.out.g.block G B (fun e=>C e.symm)⟩ (fun G B i=>?_)
     rcases s.out.at_ with e | ⟨j,e,d⟩
     · exact ir (e▸i)
     · rw [e] at i;injection i with i;have a2:h.heap.size<=j:=d;have:=I.out;omega
   · rcases A.out.at_ with e | ⟨j,e,d⟩
     · rcases s.out.at_ with v | ⟨j,v,d⟩
       · exact il (e.trans v)
       · exact ir ⟨j,e.trans v,by have a2:h.heap.size<=j:=d;have:=I.out;omega⟩
     · exact ir ⟨j,e,by have:=ad.out;omega⟩)
theorem ae.turned {w w':World}{b:Nat}(e:w.mapTurned w' b):ae (fun c=>c=b) w w':=by
 have a:=e.grown;exact⟨a.os,a.tape,a.output,a.size,fun h f g=>a.block h f (fun d=>g (Option.some.inj d))⟩
def vQ (b:Bool):Value:=.string (ay b)
def nkl (b:Bool):Lit:=.string (ay b).data.toList
theorem tg (b:Bool):(ay b).size=8:=by cases b <;> rfl
theorem dq:jn prog 9 (fun _:Bool=>True) vQ nkl:=by
 refine⟨string_keyed underlying9,fun a _=>Go.WideMaps.keyOf_string_mk underlying9 (by rw [tg];unfold maxLen;omega),fun b a _ _ c=>?_⟩
 cases b <;> cases a <;> first | rfl | (exfalso;simp [nkl,ay,jcc,jcd] at c)
def evF (p:Nat×ByteArray):Value:=.pointer (some ⟨p.1,0,none⟩)
abbrev Fs:=List (Bool×(Nat×ByteArray))
structure ak (w:World)(b:Nat)(fs:Fs):Prop where
 map:ap prog 9 (fun _:Bool=>True) nkl evF w b fs
 nd:(fs.map Prod.fst).Nodup
 str:∀ p∈fs,w.heap[p.2.1]?=some (Ub p.2.2)
theorem ak.len {w:World}{b:Nat}{fs:Fs}(d:ak w b fs):fs.length<=2:=by
 have e:=d.nd;have f:(fs.map Prod.fst).length<=2:=by
  match fs.map Prod.fst,e with
  | [],_=>simp
  | [_],_=>simp
  | [_,_],_=>simp
  | a :: b :: c :: r,d=>cases a <;> cases b <;> cases c <;> simp at d
 simpa using f
theorem ak.kept {w w':World}{b:Nat}{fs:Fs}(a:ak w b fs)(d:w'.heap[b]?=w.heap[b]?)(e:∀ p∈fs,w'.heap[p.2.1]?=w.heap[p.2.1]?):ak w' b fs:=
 ⟨a.map.kept d,a.nd,fun p c=>(e p c).trans (a.str p c)⟩
theorem ak.keep {w w':World}{b:Nat}{fs:Fs}(a:ak w b fs){S:NP}(c:ae S w w')(e:¬S b)(f:∀ p∈fs,¬S p.2.1):ak w' b fs:=
 a.kept (c.block b a.map.lt e) (fun p d=>c.block _ (am (a.str p d)) (f p d))
theorem ak.empty {w:World}{b:Nat}(a:w.heap[b]?=some (.map #[] 0)):ak w b []:=⟨ap.empty a,by simp,fun d c=>by cases c⟩
def aK (l:Int):Int:=IntKind.i64.wrap (l - 1)
theorem iJ:aK (-1)=-2:=by unfold aK;rw [IntKind.wrap_i64];omega
structure Bu where
 l:Nat
 f:Nat
@[reducible] def Bu.up (k:Bu) (n:Nat):Bu:=⟨k.l+n,k.f+n⟩
@[reducible] def Bu.dn (k:Bu) (n:Nat):Bu:=⟨k.l - n,k.f - n⟩
@[reducible] def bu (n:Nat):Bu:=⟨n,n⟩
def Bu.le (a b:Bu):Prop:=a.l<=b.l/\a.f<=b.f
structure fC (l:Int)(k:Nat):Prop where
 lo:-9223372036854775808<=l
 hi:l<=9223372036854775807
 kk:k<=1000000000
 or:l<0\/(k:Int)<=l
theorem fC.ne {l:Int}{k:Nat}(a:fC l (k+1)):l≠0:=by
 have:=a.or;omega
theorem fC.dec {l:Int}{k:Nat}(a:fC l (k+1)):fC (aK l) k:=by
 have b:=a.or;have c:=a.lo;have d:=a.hi;have e:=a.kk;unfold aK;rw [IntKind.wrap_i64];exact⟨by omega,by omega,by omega,by omega⟩
theorem fC.less {l:Int}{k b:Nat}(a:fC l k)(c:b<=k):fC l b:=⟨a.lo,a.hi,lq c a.kk,by have:=a.or;omega⟩
theorem fC.neg {l:Int}{k:Nat}(a:-9223372036854775808<=l)(b:l<0)(c:k<=1000000000):fC l k:=⟨a,by omega,c,il b⟩
theorem fC.two {l:Int}{k:Nat}(a:fC l k)(e:l≠0)(b:aK l≠0):fC l (k - 2+2):=by
 have c:=a.lo;have d:=a.hi;have f:=a.kk;have g:=a.or;unfold aK at b;rw [IntKind.wrap_i64] at b;exact⟨c,d,by omega,by omega⟩
theorem fC.few {l:Int}{k:Nat}(a:fC l k)(b:l=0\/aK l=0):k<2:=by
 have c:=a.lo;have d:=a.hi;have e:=a.or;unfold aK at b;rw [IntKind.wrap_i64] at b;omega
theorem fC.any {l:Int}(a:-9223372036854775808<=l)(b:l<=9223372036854775807):fC l 0:=⟨a,b,by omega,by omega⟩
theorem gQ (db:Nat)(g h i:Value)(l f:Int)(w:World)(a:w.heap[db]?=some (uh g h i l f))(d:l≠0)(c:f≠0) :
  Calls prog 262 #[pO db 0] w fun e w'=>e=.returned .nilIface/\w'.heap[db]?=some (uh g h i (aK l) (aK f))/\ae (fun b=>b=db) w w':=by
 have j:=ab a;have k:=ag a;have m:(l==0)=false:=by simpa using d
 have n:(f==0)=false:=by simpa using c
 have o:IntKind.i64.wrap (l - 1)=aK l:=rfl;have p:IntKind.i64.wrap (f - 1)=aK f:=rfl;clear d c;go_enter func262,ntmps262
 go_wp2
 go_ret
 refine⟨rfl,by simpa using ai (ai a 3 (.int .i64 (aK l))) 4 (.int .i64 (aK f)),?_⟩
 exact ae.set (S:=fun b=>b=db) (b:=db) (ae.set (S:=fun b=>b=db) (b:=db) (ae.refl _ w) (il rfl) _ _) (il rfl) _ _
theorem jc9 (w:World):(zeroValue 95).run prog w=.ok (.pointer none) w:=by kernel_rfl
theorem vB (d:Nat)(fs:Fs)(b:Bool)(s:ByteArray)(w:World)(h:ak w d fs) :
  Calls prog 59 #[.map (some d),Uo (.string (ay b)) s] w fun e w'=>e=.returned (.tuple #[])/\ak w' d (aJ b (w.heap.size+1,s) fs)/\ae (fun c=>c=d) w w':=by
 obtain⟨a,g⟩:∃ a,a=(w.alloc (uj (.string (ay b)) s)).alloc (Ub s):=⟨_,rfl⟩;have D:a.heap[w.heap.size]?=some (uj (.string (ay b)) s):=g▸aB (af _ _) _;have E:a.heap[w.heap.size+1]?=some (Ub s):=g▸aC (by simp);have t:ae (fun c=>c=d) w a:=g▸((ae.refl _ w).alloc _).alloc _;have p:ak a d fs:=h.kept (g▸(ah _ _ (by have:=h.map.lt;simp;omega)).trans (ah _ _ h.map.lt)) (fun j i=>g▸(ah _ _ (by have:=am (h.str j i);simp;omega)).trans (ah _ _ (am (h.str j i))));obtain⟨F,x,v,u⟩:=p.map.store dq (by have:=h.len;omega) (k:=b) trivial (w.heap.size+1,s) underlying85;have H:(Instr.mapUpdate 85 (.map (some d)) (.string (ay b)) (.pointer (some ⟨w.heap.size+1,0,none⟩))).run prog a=.ok () F:=x;have G:=ab D;have B:=aa u;have C:=aa v;have A:=aa t;have l:=aa p;have m:=aa E;clear x u v t p;go_enter func59,ntmps59
 go_upto_region 2 with fail
 rw [<-g];clear g;go_wp2
 go_end0
 have q:=ae.turned C.out;have y:∀ n c z r,a.heap[n]?=some (.cells c z r)->¬n=d:=fun n c z r f e=>l.out.map.ne f e.symm;refine⟨rfl,⟨B.out,dj l.out.nd,fun j i=>?_⟩,A.out.then q (fun I _ f=>f)⟩
 rcases cS i with f | f
 ·have o:=l.out.str j f;exact (q.block _ (am o) (y _ _ _ _ o)).trans o
 ·subst f;exact (q.block _ (am m.out) (y _ _ _ _ m.out)).trans m.out
theorem Tryz.infoOp:(prog.info? 146).map (fun i=>(i.zero,i.size,i.bytes))=some (some (.agg #[.int .i64 0,.string ⟨#[]⟩,.string ⟨#[]⟩]),3,40):=by kernel_rfl
theorem io (a:Array Value)(w:World):Sem.run prog (callFunc 59 a) w=.ok (.enter 59 a) w:=by simp [go_sem]
theorem ip (w:World)(x y z:Value)(t:TypeId):∀ b u,[x,y,z][b]?=some u->(w.alloc (.cells #[x,y,z] t)).cell? ((⟨w.heap.size,0,none⟩:Addr).add b)=some u:=by
 intro b u a;rw [Addr.add_lit,Nat.zero_add,World.cell?_alloc_at _ _ _ _ rfl];match b,a with
 | 0,a=>exact a
 | 1,a=>exact a
 | 2,a=>exact a
 | b+3,a=>simp at a
theorem jc2 (db nb:Nat)(a7:Value)(fs:Fs)(b:Bool)(s:ByteArray)(l f:Int)(w:World)(x:w.heap[db]?=some (OX a7 nb l f))(r:ak w nb fs)(b3:l≠0)(b0:f≠0) :
  Calls prog 261 #[pO db 0,Uo (.string (ay b)) s] w fun e w'=>e=.returned .nilIface/\∃ a8 g,w'.heap[db]?=some (ut a7 nb a8 (aK l) (aK f))/\w.heap.size<=g/\ak w' nb (aJ b (g,s) fs)/\w'.ownsRow w.heap.size 146 3 a8 1 [.int .i64 1,.string (ay b),.string s]/\ae (fun c=>c=db\/c=nb) w w':=by
 obtain⟨b9,b1,b6,b7,b8⟩:=info_parts Tryz.infoOp;have H:nb≠db:=r.map.ne x;obtain⟨m,n⟩:∃ m,m=w.alloc (uj (.string (ay b)) s):=⟨_,rfl⟩;obtain⟨i,v⟩:∃ i,i=w.heap.size:=⟨_,rfl⟩;have V:m.heap[i]?=some (uj (.string (ay b)) s):=by rw [v,n];exact af _ _
 have bK:m.heap[db]?=_:=n▸aB x _;have ad:ak m nb fs:=r.kept (n▸ah _ _ r.map.lt) (fun p B=>n▸ah _ _ (am (r.str p B)));have av:ae (fun c=>c=db\/c=nb) w m:=n▸(ae.refl _ w).alloc _;have bw:i≠db:=by have:=am x;omega
 have bz:i≠nb:=by have:=r.map.lt;omega
 have a5:m.heap.size=i+1:=by rw [n,v];simp
 have P:∀ p∈fs,¬p.2.1=db:=fun p B e=>by have:=r.str p B;rw [e,x] at this;simp at this
 have HD:=aa ad;have bi:=aa av;have S:=aa a5;have Q:=aa v;have bk:=aa P;clear r ad av a5 x P;go_enter func261,ntmps261
 go_upto_region 1 with fail
 rw [<-n,<-v];clear n v;go_wp2_with fail
 refine (gQ db _ _ _ l f m bK b3 b0).mono ?_
 rintro e q ⟨rfl,F,C⟩;have E:=(C.block i (am V) bw).trans V;have W:ak q nb fs:=HD.out.keep C H bk.out;have O:=aa W;have D:=aa C;clear C W;go_upto_region 6 with fail
 obtain⟨L,J⟩:∃ L,L=ni evF (.pointer none) (ar b fs):=⟨_,rfl⟩;have b5:∃ ck,L=.pointer ck:=by
  rw [J];cases ar b fs with
  | none=>exact⟨_,rfl⟩
  | some p=>exact⟨_,rfl⟩
 obtain⟨a9,a3⟩:=b5;obtain⟨j,a2⟩:∃ j,j=(ar b fs).isSome:=⟨_,rfl⟩;have b4:(Instr.lookup 85 (.map (some nb)) (.string (ay b)) true).run prog q.drew=.ok (.tuple #[.pointer a9,.bool j]) q.drew:=by
  have:=ap.look dq (w:=q.drew) (O.out.map.kept rfl) (k:=b) trivial underlying85 (jc9 _);rw [<-J,<-a2,a3] at this;exact this
 clear J a3 a2;have bo:=ab F;have bs:=ab E;go_cut [6,7] (fun ch ci N=>ch=.pointer a9/\ci=.bool j/\N=q.drew)
 case first=>
  go_region
  all_goals (go_wp2_with fail;go_meet)
  all_goals exact⟨rfl,rfl,rfl⟩
 case rest=>
  obtain⟨rfl,rfl,rfl⟩:=hcut;clear b4;have bg:Hid (ak q.drew.drew nb fs):=aa (O.out.kept rfl (fun _ _=>rfl));have cb:∀ j,j=true\/j=false:=fun j=>by cases j <;> simp
  rcases cb j with rfl | rfl
  all_goals (
    go_upto_region 9 with fail
    go_cut [] (fun N=>∃ (d:World) (g:Nat),d=N/\q.heap.size<=g/\ak d nb (aJ b (g,s) fs)/\ae (fun c=>c=nb) q d)
    case first=>
      go_region_law (refine aO (by rfl) 59 io _ _ (by rfl) #[.map (some nb),Uo (.string (ay b)) s] (by simp only [List.map_toArray,List.map_cons,List.map_nil];rfl) (vB nb fs b s _ bg.out) ?_;rintro e cy ⟨rfl,X,a1⟩;refine⟨_,rfl,?_⟩;have bb:=aa X;have u:=aa a1;clear X a1)
      all_goals (go_wp2_with fail;go_meet)
      all_goals exact⟨_,_,rfl,Nat.le_succ _,bb.out,⟨u.out.os,u.out.tape,u.out.output,u.out.size,u.out.block⟩⟩
    case rest=>
      obtain⟨d,g,rfl,a0,Y,A⟩:=hcut;have y:=(A.block db (am F) (fun e=>H e.symm)).trans F;have bv:=(A.block i (am E) bz).trans E;have a4:i+1<=d.heap.size:=by have cl:=S.out;have cn:=D.out.size;have cp:=A.size;omega
      have bd:=aa Y;have bj:=aa A;have HG:=aa a0;have bl:=aa a4;have cs:=ce y (uj (.string (ay b)) s);have cq:=ab y;have cr:=ab bv;have cc:(Value.slice none 0 0).ownBlock≠some db:=by simp [Value.ownBlock]
      clear bo bs Y A a0 a4;go_upto_region 10 with fail
      go_region_law (refine aT (by rfl) _ _ 86 146 b9 (.agg #[.int .i64 0,.string ⟨#[]⟩,.string ⟨#[]⟩]) 3 40 underlying86 b1 b6 b7 b8 rfl (by decide) (by rfl) i (.slice none 0 0) 0 [] (by rfl) (World.ownsRow_nil _ _ _ _) ⟨d.heap.size,0,none⟩ 1 1 [.int .i64 1,.string (ay b),.string s] (by rfl) (by rfl) (ip d _ _ _ _) (by simp [Value.oneCell']) (by omega) (by omega) (by have:=bl.out;simp;omega) ?_;intro cx M I G bF;obtain⟨T,U,bu⟩:=aw I;subst bu;have z:=(G.block db (by have:=am y;simp;omega) (fun e=>cc e.symm)).trans ((ah _ _ (am y)).trans y);have ct:=ab z;have cv:=ag z;have R:=aa I;have t:=aa G;clear I G bF)
      all_goals go_wp2
      all_goals go_ret
      all_goals (
        have cw:∀ o K,d.heap[o]?=some K->M.heap[o]?=some K:=fun o K h=>(t.out.block o (by have:=am h;show o<(d.alloc _).heap.size;simp;omega) (by simp [Value.ownBlock])).trans ((ah _ _ (am h)).trans h);have ao:ae (fun _=>False) d M:=⟨t.out.os,t.out.tape,t.out.output,lq (by show d.heap.size<=(d.alloc _).heap.size;simp) t.out.size,fun o b2 _=>(t.out.block o (by show o<(d.alloc _).heap.size;simp;omega) (by simp [Value.ownBlock])).trans (ah _ _ b2)⟩;refine⟨rfl,.slice T (0+1) U,g,by simpa using ai z 2 (.slice T (0+1) U),?_,?_,?_,?_⟩
        · have cl:=S.out;have cn:=D.out.size;have cp:=HG.out;have cz:=Q.out;omega
        · have Z:ak M nb (aJ b (g,s) fs):=bd.out.keep ao (fun h=>h) (fun _ _ h=>h);exact Z.kept (ac H _ _) (fun p B=>ac (fun e=>by have:=Z.str p B;rw [e,z] at this;simp at this) _ _)
        · rw [<-Q.out];exact ownsRow_setCell_other R.out (a:=⟨db,2,none⟩) (fun e=>ax R.out e z (by decide) rfl) _
        · refine ae.set ?_ (il (il rfl)) _ _
          exact ((bi.out.then D.out (fun a6 _ h=>il h)).then bj.out (fun a6 _ h=>ir h)).then ao (fun a6 _ h=>h.elim)))
structure nU (w3 wr:World)(g n:Nat):Prop where
 keep:ae (fun c=>c=g) w3 wr
 cur:∃ cur,wr.heap[g]?=some (.cells cur 5 (0,0))/\n<=cur.size
theorem nU.step {c wr:World}{g n:Nat}(a:nU c wr g n)(b:Nat)(u:Value):nU c (wr.setCell ⟨g,b,none⟩ u) g n:=by
 obtain⟨f,d,e⟩:=a.cur;exact⟨a.keep.set (il rfl) _ _,_,ai d b u,by simpa using e⟩
theorem nU.cell {e wr:World}{g n:Nat}(d:nU e wr g n)(a:Nat)(h:a<n):(∃ u,wr.cell? ⟨g,a,none⟩=some u)/\wr.frozen? ⟨g,a,none⟩=false:=by
 obtain⟨c,b,f⟩:=d.cur;exact⟨⟨c[a]'(by omega),by rw [ab b];simp⟩,ag b a⟩
theorem mS (b:Nat)(a:Es)(w:World)(l:aH w b a)(p:a.length<=1000) :
  Calls prog 155 #[.map (some b)] w fun e w'=>e=.returned (.map (some w.heap.size))/\aH w' w.heap.size a/\B7 w w':=by
 have q:=@run_makeMap prog;obtain⟨m,h,d,c⟩:=l;have n:=d.lt;have i:=aa (jdr b w.heap.size m h a (w.alloc (.map #[] 0)) c (d.alloc _) (World.ownsMap_made w _ _ _) (by omega) (by rw [c.size];omega));have HD:=aa c;clear d c;go_enter func155,ntmps155
 go_wp2_with fail
 refine i.out.mono ?_
 rintro e s ⟨rfl,f,g⟩;have j:=aa f;have k:=aa g;clear f g;go_wp2
 go_ret
 refine⟨rfl,⟨_,_,j.out,HD.out⟩,?_⟩
 exact (ba w).trans (k.out.below (by simp) (fun r o=>by omega))
theorem wt (b:Nat)(c:Es)(k:Ky)(p:Qt×Qt)(w:World)(j:aH w b c)(M:c.length<=900)(E:k.ok) :
  Calls prog 135 #[.map (some b),om k,oL p.1 p.2] w fun e w'=>∃ nb,e=.returned (.map (some nb))/\w.heap.size<=nb/\aH w' nb (aJ k p c)/\B7 w w':=by
 obtain⟨h,i⟩:=p;dsimp only;obtain⟨a,d⟩:∃ a,a=(w.alloc (ol k)).alloc (oe h i):=⟨_,rfl⟩;have l:B7 w a:=d▸(ba w).alloc (by simp) _;have v:a.heap[w.heap.size]?=some (ol k):=d▸aB (af _ _) _;have u:a.heap[w.heap.size+1]?=some (oe h i):=d▸aC (by simp);have x:aH a b c:=ap.kept j (l.block b (ap.lt j));have z:=aa x;have o:=aa l;clear j x l;go_enter func135,ntmps135
 go_upto_region 1 with fail
 rw [<-d];clear d;go_wp2_with fail
 refine (mS b c a z.out (by omega)).mono ?_
 rintro e H ⟨rfl,m,f⟩;have F:=(f.block _ (am v)).trans v;have D:=(f.block _ (am u)).trans u;have K:=ab F;have L:=ab D;obtain⟨nb,n⟩:∃ nb,nb=a.heap.size:=⟨_,rfl⟩;rw [<-n] at m ⊢;obtain⟨I,y,t,s⟩:=ap.store mF m (by omega) E (h,i) jF;have N:(Instr.mapUpdate 121 (.map (some nb)) (om k) (oL h i)).run prog H=.ok () I:=y;have A:=aa s;have B:=aa t;have q:=aa f;have r:=aa n;clear m y s t f n;go_wp2
 go_ret
 have g:=o.out.size;have G:=ae.turned B.out;refine⟨nb,rfl,by rw [r.out];exact g,A.out,?_⟩
 exact (o.out.trans (q.out.mono g)).trans (G.below (lq g q.out.size) (fun J C=>by rw [C,r.out];exact g))
theorem mf (b:Nat)(c:Es)(k:Ky)(w:World)(g:aH w b c)(I:c.length<=900)(B:k.ok)(t:(c.map Prod.fst).Nodup) :
  Calls prog 141 #[.map (some b),om k] w fun e w'=>∃ nb,e=.returned (.map (some nb))/\w.heap.size<=nb/\aH w' nb (br k c)/\B7 w w':=by
 obtain⟨a,d⟩:∃ a,a=w.alloc (ol k):=⟨_,rfl⟩;have h:B7 w a:=d▸ba w;have r:a.heap[w.heap.size]?=some (ol k):=d▸af _ _;have s:aH a b c:=ap.kept g (h.block b (ap.lt g));have v:=aa s;have m:=aa h;have y:=aa t;clear g s h t;go_enter func141,ntmps141
 go_upto_region 1 with fail
 rw [<-d];clear d;go_wp2_with fail
 refine (mS b c a v.out (by omega)).mono ?_
 rintro e E ⟨rfl,j,i⟩;have C:=(i.block _ (am r)).trans r;have H:=ab C;obtain⟨nb,l⟩:∃ nb,nb=a.heap.size:=⟨_,rfl⟩;rw [<-l] at j ⊢;obtain⟨F,u,q,p⟩:=ap.drop mF j y.out B jF 0;have J:(Builtin.delete_ #[121,63] 0 #[.map (some nb),om k]).run prog E=.ok (.tuple #[]) F:=u;have x:=aa p;have z:=aa q;have n:=aa i;have o:=aa l;clear j u p q i l;go_wp2
 go_ret
 have f:=m.out.size;have D:=ae.turned z.out;refine⟨nb,rfl,by rw [o.out];exact f,x.out,?_⟩
 exact (m.out.trans (n.out.mono f)).trans (D.below (lq f n.out.size) (fun G A=>by rw [A,o.out];exact f))
theorem jbz (a:Nat)(fs:Fs)(b:Bool)(s:ByteArray)(w:World)(g:ak w a fs) :
  Calls prog 59 #[.map (some a),Un (.string (ay b)) s] w fun e w'=>e=.returned (.tuple #[])/\ak w' a (br b fs)/\ae (fun c=>c=a) w w':=by
 obtain⟨d,f⟩:∃ d,d=(w.alloc (uz (.string (ay b)) s)).alloc (Ub s):=⟨_,rfl⟩;have B:d.heap[w.heap.size]?=some (uz (.string (ay b)) s):=f▸aB (af _ _) _;have q:ae (fun c=>c=a) w d:=f▸((ae.refl _ w).alloc _).alloc _;have h:ak d a fs:=g.kept (f▸(ah _ _ (by have:=g.map.lt;simp;omega)).trans (ah _ _ g.map.lt)) (fun j i=>f▸(ah _ _ (by have:=am (g.str j i);simp;omega)).trans (ah _ _ (am (g.str j i))));obtain⟨D,v,t,r⟩:=h.map.drop dq h.nd (k:=b) trivial underlying85 0;have F:(Builtin.delete_ #[85,9] 0 #[.map (some a),.string (ay b)]).run prog d=.ok (.tuple #[]) D:=v;have E:=ab B;have z:=aa r;have A:=aa t;have y:=aa q;have l:=aa h;clear v r t q h;go_enter func59,ntmps59
 go_upto_region 2 with fail
 rw [<-f];clear f;go_wp2
 go_end0
 have u:=ae.turned A.out;have C:∀ m c x p,d.heap[m]?=some (.cells c x p)->¬m=a:=fun m c x p n e=>l.out.map.ne n e.symm;refine⟨rfl,⟨z.out,l.out.nd.sublist (cg.map _),fun j i=>?_⟩,y.out.then u (fun G _ n=>n)⟩
 have o:=l.out.str j (cg.subset i);exact (u.block _ (am o) (C _ _ _ _ o)).trans o
end Go.Proofs.YtnlgndpcddngoaaGreatDoor
