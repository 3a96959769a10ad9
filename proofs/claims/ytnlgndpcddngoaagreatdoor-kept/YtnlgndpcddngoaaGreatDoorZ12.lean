import Derived.Test.YtnlgndpcddngoaaGreatDoorZ06
import Derived.Shelf.SlIter.Collect
import Derived.Test.YtnlgndpcddngoaaGreatDoorZ13
import Derived.Laws.LoneSync
import Derived.Laws.Small
import Derived.Defers
import Derived.RegionCalls
import Derived.Recover
import Derived.Laws.Pointers
import Derived.Laws.EntriesVeiled
import Derived.LoopN
import Derived.Deep.QuietTactic
import Derived.BigQuiet
import Derived.Shelf.SlicesE.Index
set_option linter.all false
set_option maxRecDepth 100000
set_option maxHeartbeats 4000000
namespace Go.Proofs.YtnlgndpcddngoaaGreatDoor
open Go.Proofs.Tryz Go.RowKit Go.Maps Go.Sort
variable [dK] [iK]
def jv (ks:List Ky):List Value:=ks.flatMap dg
theorem jb5 (a b:List Ky):jv (a ++ b)=jv a ++ jv b:=by unfold jv;rw [List.flatMap_append]
def kB:Code:=(Code.region 2 #[{ dst:=some 5,op:=Op.alloc 63,type:=0,pos:= "iter.go:51",after:=#[],guard:=none },{ dst:=none,op:=Op.store 63 (Operand.tmp 5) (Operand.tmp 7),type:=0,pos:= "iter.go:51",after:=#[{ on:=0,ground:=Ground.data },{ on:=0,ground:=Ground.phase }],guard:=none }] false)
def rT:Code:=(Code.block 1 (Code.region 3 #[{ dst:=some 8,op:=Op.load 304 (Operand.tmp 2),type:=304,pos:= "iter.go:52",after:=#[],guard:=none },{ dst:=some 9,op:=Op.load 63 (Operand.tmp 5),type:=63,pos:= "iter.go:52",after:=#[],guard:=none },{ dst:=some 10,op:=Op.buildSlice 304 1 #[(0,Operand.tmp 9)],type:=304,pos:= "iter.go:52",after:=#[{ on:=1,ground:=Ground.data }],guard:=none },{ dst:=some 11,op:=Op.call { callee:=Callee.builtin Builtin.append,args:=#[Operand.tmp 8,Operand.tmp 10],argTypes:=#[304,304] },type:=304,pos:= "iter.go:52",after:=#[{ on:=0,ground:=Ground.data },{ on:=2,ground:=Ground.data }],guard:=none },{ dst:=none,op:=Op.store 304 (Operand.tmp 2) (Operand.tmp 11),type:=0,pos:= "iter.go:52",after:=#[{ on:=3,ground:=Ground.data },{ on:=3,ground:=Ground.chain },{ on:=0,ground:=Ground.phase },{ on:=1,ground:=Ground.phase },{ on:=2,ground:=Ground.phase },{ on:=3,ground:=Ground.phase }],guard:=none }] false))
def fR (c:FuncId)(a:Value)(b D:Nat)(e:LoopState)(d:Option Code):Loop:=
 { state:=e,pending:=d,fn:=c,tmps:=#[.slice none 0 0,a,.pointer (some ⟨b,0,none⟩),undef,.slice none 0 0,undef,a,undef,undef,undef,undef,undef,undef],params:=#[7],assign:=kB,body:=rT,defers:=D }
structure ApK (w0:World)(fn:FuncId)(sv:Value)(Bs l D:Nat)(ks:List Ky)(W:World):Prop where
 box:∃ v,W.heap[Bs]?=some (.cells #[v] 304 (0,0))/\W.ownsRow w0.heap.size 63 8 v ks.length (jv ks)
 L:W.heap[l]?=some (.loop (fR fn sv Bs D .ready none))
 K:W.heap[D]?=some (.deferred (some []))
 below:B7 w0 W
theorem wD (w0:World)(m:FuncId)(r:Value)(j l D B:Nat)(n:w0.heap.size<=B):AbidesFrom B (ApK w0 m r j l D):=fun u k t q a b f=>by
 have c:∀ d,q=some d->∃ i:Obj,k.heap[d]?=some i/\i.isWalk=true:=fun d e=>(f d e).2;obtain⟨s,g,o⟩:=a.box;exact⟨⟨s,(grownBy_keeps b c g rfl).trans g,ownsRow_abides_a o b c⟩,(grownBy_keeps b c a.L rfl).trans a.L,(grownBy_keeps b c a.K rfl).trans a.K,
   a.below.grown b a.below.size (fun p e=>lq n (f p e).1)⟩
theorem Tryz.infoKey:(prog.info? 63).map (fun i=>(i.zero,i.size,i.bytes))=some (some (uS),8,8):=by kernel_rfl
theorem sA (w:World)(k:Ky)(t:TypeId):∀ b u,(dg k)[b]?=some u->(w.alloc (.cells (bL k) t)).cell? ((⟨w.heap.size,0,none⟩:Addr).add b)=some u:=by
 intro b u a;rw [Addr.add_lit,Nat.zero_add,World.cell?_alloc_at _ _ _ _ rfl];match b,a with
 | 0,a=>exact a
 | 1,a=>exact a
 | 2,a=>exact a
 | 3,a=>exact a
 | 4,a=>exact a
 | 5,a=>exact a
 | 6,a=>exact a
 | 7,a=>exact a
 | b+8,a=>simp [dg] at a
theorem jbL (k:Ky):∀ u∈dg k,u.oneCell'=true:=by
 intro c b;simp [dg] at b;rcases b with a | a | a | a | a | a | a | a <;> subst a <;> rfl
theorem jde (w0:World)(g:FuncId)(d:Value)(a l D:Nat)(C:a≠l)(S:D≠l)(a6:D≠a)(a4:w0.heap.size<=a)(R:w0.heap.size<=l)(ks:List Ky)(x:Ky)(j:World)(n:ApK w0 g d a l D ks j)(cc:ks.length<1000) :
  YieldAt Fence.wide 0 prog l #[iW x] j fun e L=>e=.returned (.bool true)/\ApK w0 g d a l D (ks ++ [x]) L/\KeepsWalks j L:=by
 have p:(304:TypeId)≠63:=by decide
 obtain⟨b4,bd,b1,b2,b3⟩:=info_parts Tryz.infoKey;obtain⟨t,bw,bv⟩:=n.box;refine⟨g,#[.slice none 0 0,d,.pointer (some ⟨a,0,none⟩),undef,.slice none 0 0,undef,d,iW x,undef,undef,undef,undef,undef],kB,rT,by simpa [fR] using run_yield (P:=prog) (args:=#[iW x]) n.L rfl,roundIn_of_wpIn trivial ?_⟩
 obtain⟨c,i⟩:∃ c,c=j.alloc (.cells (bL x) 63):=⟨_,rfl⟩;have bF:c.heap[a]?=some (.cells #[t] 304 (0,0)):=i▸aB bw _;have a9:c.heap[D]?=some (.deferred (some [])):=i▸aB n.K _;have v:c.heap[l]?=some (.loop (fR g d a D .ready none)):=i▸aB n.L _;have ao:c.ownsRow w0.heap.size 63 8 t ks.length (jv ks):=i▸bv.alloc _;have X:B7 w0 c:=i▸n.below.alloc n.below.size _;obtain⟨q,G⟩:∃ q,q=j.heap.size:=⟨_,rfl⟩;have b0:c.heap[q]?=some (.cells (bL x) 63):=by rw [G,i];exact af _ _
 have bk:KeepsWalks j c:=i▸KeepsWalks.alloc _ _;have bb:q≠l:=by have:=(Array.getElem?_eq_some_iff.1 n.L).1;omega
 have bl:l<c.heap.size:=(Array.getElem?_eq_some_iff.1 v).1;have w:=run_beginRound (P:=prog) v rfl;obtain⟨b,k⟩:∃ b,c.putObj l (.loop { fR g d a D .ready none with state:=.busy })=b:=⟨_,rfl⟩;rw [k] at w;have Y:c.grownBy b (some l):=by rw [<-k];exact grownBy_putObj_a _ _ _
 have bi:KeepsWalks j b:=bk.trans (by rw [<-k];exact KeepsWalks.putObj _ v rfl);have A:b.heap[a]?=some (.cells #[t] 304 (0,0)):=by rw [<-k];exact (World.putObj_heap_other C).trans bF
 have bK:b.heap[q]?=some (.cells (bL x) 63):=by rw [<-k];exact (World.putObj_heap_other bb).trans b0
 have E:b.heap[D]?=some (.deferred (some [])):=by rw [<-k];exact (World.putObj_heap_other S).trans a9
 have F:b.heap[l]?=some (.loop { fR g d a D .ready none with state:=.busy }):=by rw [<-k];exact World.putObj_heap_same bl
 have r:b.ownsRow w0.heap.size 63 8 t ks.length (jv ks):=ao.kept Y (ownsRow_ne_a ao v (fun m e=>by first | cases e | exact p (Obj.cells.inj e).2.1));have H:B7 w0 b:=X.grown Y X.size (fun B e=>by cases e;exact R);obtain⟨b7,b9⟩:=cell_of_box_a A;have b6:=ab bK;have a5:a<b.heap.size:=(Array.getElem?_eq_some_iff.1 A).1;have bo:l<b.heap.size:=(Array.getElem?_eq_some_iff.1 F).1;have a7:D<b.heap.size:=(Array.getElem?_eq_some_iff.1 E).1;have ci:=H.size;have K:∀ {av:Nat}{a0:Obj},b.heap[av]?=some a0->(∀ m,a0≠.cells m 63 (0,0))->some av≠t.ownBlock:=fun bg bu=>by
  rcases ownsRow_ne_a r bg bu with e | e
  ·rw [e];simp
  ·exact fun a1=>e a1.symm
 unfold iW kB;gi_wp2_with gi_round_op_a
 rw [<-i,<-G];refine⟨b,w,?_⟩
 have b5:=aa w;clear w i G k;obtain⟨M,O,a2⟩:=aw r;subst a2;unfold rT;gi_wp2_with (first
   | (gi_at_builtin;refine wpListIn_append_own _ rfl _ _ 304 rfl w0.heap.size 63 b4 (uS) 8 8 underlying304 bd b1 b2 b3 rfl (by decide) _ _ _ rfl (r.alloc _) ⟨b.heap.size,0,none⟩ 1 1 (dg x) rfl rfl (sA _ _ _) (jbL x) (by unfold maxLen;omega) (by omega) (by simp;omega) ?_;intro ck o I Z ch
      have J:o.heap[a]?=some (.cells #[.slice M ks.length O] 304 (0,0)):=(Z.block a (by simp;omega) (K A (fun m e=>by first | cases e | exact p (Obj.cells.inj e).2.1))).trans ((Below.heap_alloc _ _ a a5).trans A);obtain⟨b8,cb⟩:=cell_of_box_a J;obtain⟨N,Q,a3⟩:=aw I;subst a3;go_frame)
   | gi_round_op_a)
 have y:(b.alloc (.cells (bL x) 63)).grownBy o (Value.slice M ks.length O).ownBlock:=Z;have U:o.heap[l]?=some (.loop { fR g d a D .ready none with state:=.busy }):=(y.block l (by simp;omega) (K F (fun m e=>by first | cases e | exact p (Obj.cells.inj e).2.1))).trans ((Below.heap_alloc _ _ l bo).trans F);have T:o.heap[D]?=some (.deferred (some [])):=(y.block D (by simp;omega) (K E (fun m e=>by first | cases e | exact p (Obj.cells.inj e).2.1))).trans ((Below.heap_alloc _ _ D a7).trans E);obtain⟨f,s⟩:∃ f,o.setCell ⟨a,0,none⟩ (.slice N (ks.length+1) Q)=f:=⟨_,rfl⟩;rw [s];have z:o.grownBy f (some a):=by rw [<-s];exact grownBy_setCell0_a _ _ _
 have bz:f.heap[a]?=some (.cells #[.slice N (ks.length+1) Q] 304 (0,0)):=by rw [<-s];exact heap_setCell_box_a _ J
 have u:f.heap[l]?=some (.loop { fR g d a D .ready none with state:=.busy }):=(z.block l (Array.getElem?_eq_some_iff.1 U).1 (fun e=>C (by cases e;rfl))).trans U;have a8:f.heap[D]?=some (.deferred (some [])):=(z.block D (Array.getElem?_eq_some_iff.1 T).1 (fun e=>a6 (by cases e;rfl))).trans T;have ad:=I.kept z (ownsRow_ne_a I J (fun m e=>by first | cases e | exact p (Obj.cells.inj e).2.1));have bs:l<f.heap.size:=(Array.getElem?_eq_some_iff.1 u).1;have V:B7 w0 o:=(H.alloc H.size _).grown y (by simp;omega) (fun B e=>(r.lt B e).1);have W:B7 w0 f:=V.grown z V.size (fun B e=>by cases e;exact a4);have bj:KeepsWalks j f:=((bi.trans (KeepsWalks.alloc _ _)).trans (KeepsWalks.of_grownBy y (ownsRow_not_walk_a (r.alloc _)))).trans (by rw [<-s];exact KeepsWalks.setCell _ _ _);clear s;refine⟨_,_,run_endRound none u,rfl,⟨⟨_,(World.putObj_heap_other C).trans bz,?_⟩,World.putObj_heap_same bs,(World.putObj_heap_other S).trans a8,W.grown (grownBy_putObj_a _ _ _) W.size (fun B e=>by cases e;exact R)⟩,bj.trans (KeepsWalks.putObj _ u rfl)⟩
 have:=ad.kept (grownBy_putObj_a f l (.loop { { fR g d a D .ready none with state:=.busy } with state:=if (none:Option Code).isNone then .ready else .done,pending:=none })) (ownsRow_ne_a ad u (fun m e=>by first | cases e | exact p (Obj.cells.inj e).2.1));rw [jb5];simpa [jv] using this
theorem o8 (g:Nat)(c:Array Value)(B:∀ args w,(callFunc g args).run prog w=.ok (.enter g args) w)
  (S:List Ky->Prop) (w:World) (K:SeqGives Fence.wide 0 prog g c iW S 1000 w) :
  CallsIn Fence.wide 0 prog 195 #[.slice none 0 0,.func (.func g) #[] c] w fun e w'=>∃ (v:Value) (ks:List Ky),e=.returned v/\S ks/\w'.ownsRow w.heap.size 63 8 v ks.length (jv ks)/\B7 w w':=by
 have u:(304:TypeId)≠63:=by decide
 refine callsIn_of_wp_marks func195 rfl trivial ?_ rfl
 simp only [ntmps195,List.size_toArray,List.length_cons,List.length_nil,Nat.reduceAdd,Nat.reduceSub,Array.replicate_succ,Array.replicate_zero,List.push_toArray,List.append_toArray,List.nil_append,List.cons_append];gi_wp2
 refine wpIn_rangeFunc ?_
 intro i W;obtain⟨a,m⟩:∃ a,w.alloc (.cells #[.slice none 0 0] 304)=a:=⟨_,rfl⟩;have J:a.heap.size=w.heap.size+1:=by rw [<-m];simp
 have M:a.heap[w.heap.size]?=some (.cells #[.slice none 0 0] 304 (0,0)):=by rw [<-m];exact World.alloc_heap_new w _
 have n:B7 w a:=by rw [<-m];exact ba w
 rw [m];obtain⟨b,k⟩:∃ b,(a.alloc (.deferred (some []))).alloc (.loop (fR i (.func (.func g) #[] c) w.heap.size a.heap.size .ready none))=b:=⟨_,rfl⟩;have I:∀ d,d<a.heap.size->b.heap[d]?=a.heap[d]?:=fun d G=>by
  rw [<-k];exact (Below.heap_alloc _ _ d (by simp;omega)).trans (Below.heap_alloc _ _ d G)
 have o:B7 w b:=by rw [<-k];exact (n.alloc n.size _).alloc (by have:=n.size;simp;omega) _
 have X:b.heap.size=a.heap.size+2:=by rw [<-k];simp
 have E:ApK w i (.func (.func g) #[] c) w.heap.size (a.heap.size+1) a.heap.size [] b:=
  ⟨⟨_,(I w.heap.size (by omega)).trans M,⟨rfl,.inl ⟨rfl,rfl⟩⟩⟩,
   by rw [<-k];have:=World.alloc_heap_new (a.alloc (.deferred (some []))) (.loop (fR i (.func (.func g) #[] c) w.heap.size a.heap.size .ready none));rwa [World.size_alloc] at this,
   by rw [<-k];exact (Below.heap_alloc _ _ _ (by simp)).trans (World.alloc_heap_new a _),o⟩
 refine⟨a.heap.size+1,[{ target:=.collected a.heap.size,args:=#[] }],b,{ target:=.fn (.func g) c,args:=#[.func (.yield (a.heap.size+1)) #[] #[]] },b,g,
   #[.func (.yield (a.heap.size+1)) #[] #[]] ++ c,b,?_,?_,?_,?_,?_,?_⟩
 ·rw [<-k];exact run_enterLoop_outer _ _ _ _ _
 ·simp [resolve,go_sem]
 ·intro R U;trivial
 ·simp [invoke,go_sem,B]
 ·intro C;simp [Fence.wide] at C
 ·refine (K (a.heap.size+1) (ApK w i (.func (.func g) #[] c) w.heap.size (a.heap.size+1) a.heap.size) b o (wD _ _ _ _ _ _ _ o.size)
     (fun O Q z D H=>jde w i _ w.heap.size (a.heap.size+1) a.heap.size (by omega) (by omega) (by omega) lz (by omega) O Q z D H) E).mono ?_
  rintro e p ⟨⟨Y,rfl⟩,ks,F,j⟩;obtain⟨v,L,x⟩:=j.box;have s:=run_endLoop (P:=prog) j.L (by simp [fR]);obtain⟨f,l⟩:∃ f,p.putObj (a.heap.size+1) (.loop { fR i (.func (.func g) #[] c) w.heap.size a.heap.size .ready none with state:=.exhausted })=f:=⟨_,rfl⟩;rw [l] at s;have t:p.grownBy f (some (a.heap.size+1)):=by rw [<-l];exact grownBy_putObj_a _ _ _
  have N:f.heap[w.heap.size]?=some (.cells #[v] 304 (0,0)):=by rw [<-l];exact (World.putObj_heap_other (by omega)).trans L
  have q:f.heap[a.heap.size]?=some (.deferred (some [])):=by rw [<-l];exact (World.putObj_heap_other (by omega)).trans j.K
  have y:=x.kept t (ownsRow_ne_a x j.L (fun A e=>by first | cases e | exact u (Obj.cells.inj e).2.1));have r:B7 w f:=j.below.grown t j.below.size (fun d e=>by cases e;omega);obtain⟨T,V⟩:=cell_of_box_a N;clear l;refine⟨none,f,s,?_⟩
  gi_wp2
  rw [<-J];refine⟨by simp,.inl ⟨_,_,rfl,run_takeDeferred q,?_⟩⟩
  exact⟨_,results_tmp rfl _ _ _,v,ks,rfl,F,y.kept (grownBy_putObj_a _ _ _) (ownsRow_ne_a y q (fun A e=>by first | cases e | exact u (Obj.cells.inj e).2.1)),r.grown (grownBy_putObj_a _ _ _) r.size (fun d e=>by cases e;omega)⟩
section
variable {F:Fence}{n:Nat}{P:Program}{kt:TypeId}{K V:Type} [DecidableEq K] {ok:K->Prop}{kv:K->Value}{kl:K->Lit}{ev:V->Value}
variable (w:World) {ops:Array Oper}{rest:List Oper}{o:Oper}{a:Act}{Q:Exit->Act->World->Prop}
theorem jY (M:jn P kt ok kv kl)(C:o.guard=none)(q:Operand)(e:o.op=Op.next q false)(b c r:Nat)(D:DataW Value)(i:List (K×V))(u:gS ok kl ev D i)(left:Lit->Bool)(f:Nat)
  (m:a.eval q=.pointer (some ⟨c,0,none⟩)) (s:w.ranges P kt bM b c r D left f)
  (v:f=0->(∀ l,left l=false)->wpListIn F n P ops Q rest (a.put o.dst (.tuple #[.bool false])) w)
  (x:∀ (k:K) (p:V) (w':World) (d:Nat),ok k->ar k i=some p->left (kl k)=true->w'.ranges P kt bM b c r D (fun z=>left z && !z.sameKey (kl k)) d->d<f->
    w.grownBy w' (some c)->w'.heap.size=w.heap.size->(Instr.entry (.pointer (some ⟨c,0,none⟩))).run P w'=.ok (.tuple #[kv k,ev p]) w'->wpListIn F n P ops Q rest (a.put o.dst (.tuple #[.bool true,kv k,ev p])) w') :
  wpListIn F n P ops Q (o :: rest) a w:=by
 refine wpListIn_plain C fun T j=>?_
 unfold Oper.wpIn;refine⟨by simp [Oper.about,e],?_⟩
 rw [Oper.semAt_plain F _ _ (by rw [e];intro U A;cases A)];rcases s.next M.keyed o.type with ⟨t,H,g⟩ | ⟨W,X,l,Y,w',d,G,I,S,y,g,O,J,E,R,B⟩
 ·simp [execOp,e,m,g,Result.andThen];exact j _ _ (v t H)
 ·obtain⟨k,p,L,rfl,N,rfl,rfl⟩:=u.come M G S y;simp [execOp,e,m,g,Result.andThen];exact j _ _ (x k p w' d L N I O J E R B)
end
structure iF (es:Es)(left:Lit->Bool)(ks:List Ky):Prop where
 nd:ks.Nodup
 mem:∀ k,k.ok->(k∈ks↔(ar k es).isSome=true/\left (ga k)=false)
 ok:∀ k∈ks,k.ok
theorem iF.start (D:DataW Value)(b:Es)(a:gS Ky.ok ga evE D b):iF b (Maps.has D) []:=
 ⟨List.nodup_nil,fun d f=>(by
   rw [a.has d f];constructor
   · intro a;cases a
   · rintro ⟨e,c⟩;rw [e] at c;cases c),fun d a=>(by cases a)⟩
theorem iF.step {g:Es}{left:Lit->Bool}{ks:List Ky}(b:iF g left ks){k:Ky}{p:Qt×Qt}(e:k.ok)(r:ar k g=some p)(q:left (ga k)=true):iF g (fun z=>left z && !z.sameKey (ga k)) (ks ++ [k]):=by
 have s:(ga k).sameKey (ga k)=true:=WideAt.sameKey_self (fK.key (fp k e));refine⟨List.nodup_append.2 ⟨b.nd,by simp,fun m o t l d=>?_⟩,fun c i=>?_,fun c n=>?_⟩
 ·simp at l;subst l d;have:=((b.mem m e).1 o).2;rw [q] at this;cases this
 ·rw [List.mem_append];constructor
  ·rintro (a | a)
   ·obtain⟨j,f⟩:=(b.mem c i).1 a;exact⟨j,by rw [f];rfl⟩
   ·simp at a;subst a;exact⟨by rw [r];rfl,by rw [s];simp⟩
  ·rintro ⟨j,f⟩;by_cases d:c=k
   ·right;simp [d]
   ·left
    refine (b.mem c i).2 ⟨j,?_⟩
    have:(ga c).sameKey (ga k)=false:=sameKey_ne (fun b=>d (qJ i e b));rw [this] at f;simpa using f
 ·rcases List.mem_append.1 n with a | a
  ·exact b.ok c a
  ·simp at a;subst a;exact e
theorem iF.perm {a:Es}{left:Lit->Bool}{ks:List Ky}(b:iF a left ks)(g:∀ z,left z=false)(f:(a.map Prod.fst).Nodup)(i:∀ p∈a,p.1.ok):ks.Perm (a.map Prod.fst):=by
 refine (List.perm_ext_iff_of_nodup b.nd f).2 (fun e=>?_)
 constructor
 ·intro c;obtain⟨k,_⟩:=(b.mem e (b.ok e c)).1 c;obtain⟨p,d⟩:=Option.isSome_iff_exists.1 k;exact List.mem_map.2 ⟨(e,p),aR d,rfl⟩
 ·intro c;obtain⟨⟨j,p⟩,d,rfl⟩:=List.mem_map.1 c;exact (b.mem j (i _ d)).2 ⟨by rw [aV f d];rfl,g _⟩
theorem jdS (l s b k:Nat)(f:DataW Value)(d:Es)(n:gS Ky.ok ga evE f d)(O:(d.map Prod.fst).Nodup)(Q:∀ p∈d,p.1.ok)(a5:d.length<=900)(c:List Ky->World->Prop)
  (I:∀ r x a,c r a->r.length<1000->YieldAt Fence.wide 0 prog l #[iW x] a fun e g=>e=.returned (.bool true)/\c (r ++ [x]) g/\KeepsWalks a g)
  (a:World) (o:AbidesFrom a.heap.size c) (a3:a.cell? ⟨s,0,none⟩=some (.map (some b))) (R:a.ownsMap prog 63 bM b k f) (D:c [] a) :
  CallsIn Fence.wide 0 prog 183 #[.func (.yield l) #[] #[],.pointer (some ⟨s,0,none⟩)] a fun e g=>(∃ v,e=.returned v)/\∃ ks:List Ky,ks.Perm (d.map Prod.fst)/\c ks g:=by
 refine callsIn_of_wp func183 rfl trivial ?_ rfl
 simp only [ntmps183,List.size_toArray,List.length_cons,List.length_nil,Nat.reduceAdd,Nat.reduceSub,Array.replicate_succ,Array.replicate_zero,List.push_toArray,List.append_toArray,List.nil_append,List.cons_append];gi_wp2_with (first
   | (gi_at_range;refine wpListIn_range_own _ rfl _ 121 rfl 63 177 fK jF _ b k _ rfl R ?_;intro Z T w a4)
   | gi_in)
 go_frame
 gi_loopw [6] (fun _ wr=>∃ (left:Lit->Bool) (i:Nat) (ks:List Ky),wr.ranges prog 63 bM b a.heap.size k f left i/\ks.length+i<=Maps.size f/\iF d left ks/\c ks wr/\a.heap.size<=wr.heap.size)
  (fun _ wr=>wr.rangeLeft b a.heap.size)
 case atStart=>
  exact⟨_,_,[],T,by simp,iF.start f d n,o [] a Z none D w (fun B e=>by cases e),w.size⟩
 case round=>
  obtain⟨left,i,ks,q,a2,t,u,X⟩:=hrel;gi_wp2_with (first
    | (gi_at_next;refine jY (P:=prog) (kt:=63) _ mF rfl _ rfl b a.heap.size k f d n left i rfl q ?_ ?_)
    | gi_in)
  ·intro a1 L;gi_wp2
   go_end0
   exact⟨⟨_,rfl⟩,ks,t.perm L O Q,u⟩
  ·intro j a6 a7 m C K S M U N y W J;have E:c ks m:=o ks wr m (some a.heap.size) u y (fun B e=>by cases e;exact⟨lz,q.iter_walk⟩);have F:c ks (m.alloc (.cells (bL j) 63)):=o ks m _ none E (World.grownBy_alloc _ _ _) (fun B e=>by cases e);obtain⟨a0,a8,ao,av,Y,H⟩:=I ks j _ F (by have:=n.size;omega);simp only [iW,evE] at J Y ⊢;have V:=U.alloc (.cells (bL j) 63);clear W;gi_wp2
   refine⟨rfl,H.mono ?_⟩
   rintro e ad ⟨rfl,G,z⟩;gi_wp2
   have A:=V.of_walks z;go_roundw
   case rel=>exact⟨_,C,ks ++ [j],A,by simp;omega,t.step K S M,G,lq X (lq y.size (lq (by simp) z.size))⟩
   case measure=>rw [A.left_eq,q.left_eq];exact N
theorem sZ (c b e:Nat)(d:DataW Value)(a:Es)(q:gS Ky.ok ga evE d a)(y:(a.map Prod.fst).Nodup)(z:∀ p∈a,p.1.ok)(C:a.length<=900)(w:World)(o:c<w.heap.size)
  (x:w.cell? ⟨c,0,none⟩=some (.map (some b))) (i:w.ownsMap prog 63 bM b e d) :
  SeqGives Fence.wide 0 prog 183 #[pO c 0] iW (fun ks=>ks.Perm (a.map Prod.fst)) 1000 w:=fun D k f g s t n=>by
 have A:f.ownsMap prog 63 bM b e d:=by
  have v:=i.lt;obtain⟨m,l,u,j,B,r⟩:=i;exact⟨m,l,(g.block b v).trans u,j,B,r⟩
 exact jdS D c b e d a q y z C k t f s ((g.cell (p:=⟨c,0,none⟩) o).trans x) A n
theorem jac (a:Array Value)(w:World):Sem.run prog (callFunc 183 a) w=.ok (.enter 183 a) w:=by simp [go_sem]
theorem jdR (b:Nat)(w:World) :
  Calls prog 164 #[.map (some b)] w fun e w'=>e=.returned (.func (.func 183) #[] #[pO w.heap.size 0])/\w'=w.alloc (Uh b):=by
 have d:∀ (c:Fn) (first a:Array Value) (w:World),(Instr.makeFunc c first a).run prog w=.ok (.func c first a) w:=fun _ _ _ _=>rfl;go_enter func164,ntmps164
 go_wp2
 go_ret
 exact⟨rfl,rfl⟩
theorem sB (c b:Nat)(a:Es)(w:World)(r:aH w b a)(k:(a.map Prod.fst).Nodup)(m:∀ p∈a,p.1.ok)(s:a.length<=900)(d:w.heap[c]?=some (Uh b)) :
  Calls prog 181 #[.func (.func 183) #[] #[pO c 0]] w fun e w'=>∃ (v:Value) (ks:List Ky),e=.returned v/\ks.Perm (a.map Prod.fst)/\w'.ownsRow w.heap.size 63 8 v ks.length (jv ks)/\B7 w w':=by
 obtain⟨t,n,l,j⟩:=r;have o:=aa (callsIn_wide.1 (o8 _ #[pO c 0] jac (fun ks=>ks.Perm (a.map Prod.fst)) w (sZ c b t n a j k m s w (am d) (ab d 0) l)));clear l j d k m;go_enter func181,ntmps181
 go_wp2_with fail
 refine o.out.mono ?_
 rintro e u ⟨v,ks,rfl,f,g,i⟩;have q:=aa (aN f (aN g i));clear f g i;go_wp2
 go_ret
 exact⟨v,ks,rfl,q.out⟩
theorem qK:∀ (ks:List Ky) (t:Nat),t<ks.length * 8->(jv ks)[t]?=some ((dg ks[t / 8]!)[t % 8]!)
 | [],t,h=>by simp at h
 | k :: r,t,h=>by
  show ((dg k) ++ jv r)[t]?=_;have b:(dg k).length=8:=rfl;by_cases a:t<8
  ·rw [List.getElem?_append_left (by rw [b];exact a),Nat.div_eq_of_lt a,Nat.mod_eq_of_lt a];show (dg k)[t]?=some ((dg k)[t]!);rw [List.getElem?_eq_getElem (by rw [b];exact a),List.getElem!_eq_getElem?_getD,List.getElem?_eq_getElem (by rw [b];exact a)];rfl
  ·rw [List.getElem?_append_right (by rw [b];omega),b,qK r (t - 8) (by simp at h;omega)];have c:t / 8=(t - 8) / 8+1:=by omega
   have d:t % 8=(t - 8) % 8:=by omega
   rw [c,d];rfl
theorem jay {w:World}{base g f n:Nat}{ks:List Ky}(a:w.ownsRow base 63 8 (.slice (some ⟨g,0,none⟩) n f) n (jv ks))(q:ks.length=n):HoldsK dg 8 w g 0 ks.toArray:=by
 intro b c;rw [size_flatK] at c;rcases a.2 with ⟨a,_⟩ | ⟨p,m,o,a,_,e,_,_,_,l⟩
 ·simp at a
 ·simp at a;obtain⟨i,j⟩:=a;subst i j;refine⟨?_,by rw [Nat.zero_add];exact ag e b⟩
  have k:b<ks.length * 8:=by simpa using c
  rw [Nat.zero_add,ab e,get_flatK dg 8 _ b c];have d:=qK ks b k;rw [<-l,List.getElem?_take,if_pos (by omega),Array.getElem?_toList] at d;rw [d];simp
def KRow (w:World)(base:Nat)(v:Value)(ks:List Ky):Prop:=
 (v=.slice none 0 0/\ks=[])\/∃ a b,v=.slice (some ⟨a,0,none⟩) ks.length b/\ks.length<=b/\base<=a/\a<w.heap.size/\HoldsK dg 8 w a 0 ks.toArray
theorem sS {w:World}{g:Nat}{ks:List Ky}(f:HoldsK dg 8 w g 0 ks.toArray)(i:Nat)(j:i<ks.length)(a:Nat)(k:a<8):w.cell? ⟨g,i * 8+a,none⟩=(bL ks[i])[a]?:=by
 have b:=(f (i * 8+a) (by rw [size_flatK];simp;omega)).1;rw [Nat.zero_add,get_flatK dg 8 _ _ (by simp;omega)] at b;have c:(i * 8+a) / 8=i:=by omega
 have d:(i * 8+a) % 8=a:=by omega
 rw [b,c,d];have e:ks.toArray[i]! = ks[i]:=by simp [j]
 rw [e];match a,k with
 | 0,_=>rfl
 | 1,_=>rfl
 | 2,_=>rfl
 | 3,_=>rfl
 | 4,_=>rfl
 | 5,_=>rfl
 | 6,_=>rfl
 | 7,_=>rfl
theorem jdI (a:Value)(w:World):Calls prog 207 #[.slice none 0 0,.int .i64 0,.int .i64 0,a] w fun e w'=>e=.returned (.tuple #[])/\w'=w:=by
 go_enter func207,ntmps207
 go_wp2
 refine wp_loop_rounds 1 ?_
 rw [rounds_succ];go_wp2
 go_end0
 exact⟨rfl,rfl⟩
theorem jd4 (l:Int)(a:Value)(w:World):Calls prog 196 #[.slice none 0 0,.int .i64 0,.int .i64 0,.int .i64 l,a] w fun e w'=>e=.returned (.tuple #[])/\w'=w:=by
 go_enter func196,ntmps196
 go_wp2
 refine wp_loop_rounds 1 ?_
 rw [rounds_succ];go_wp2_with (go_at_call 207;refine (jdI a w).mono ?_;rintro e w' ⟨rfl,rfl⟩)
 (try simp only [Exit.inBlock,Exit.then]);refine bodyPost_ret (results_none rfl _ _ _) rfl ?_
 exact⟨rfl,rfl⟩
theorem jaY (b:Value)(w:World):Calls prog 182 #[.slice none 0 0,b] w fun e w'=>e=.returned (.tuple #[])/\w'=w:=by
 go_enter func182,ntmps182
 go_wp2_with fail
 refine (jeX 0 w (by omega)).mono ?_
 rintro e d ⟨⟨c,rfl⟩,a⟩;rw [a];clear a;go_wp2_with fail
 refine (jd4 c b w).mono ?_
 rintro e f ⟨rfl,a⟩;rw [a];clear a;go_wp2
 go_end0
 exact⟨rfl,rfl⟩
theorem jaX (o b:Nat)(d:Es)(w:World)(C:aH w b d)(F:(d.map Prod.fst).Nodup)(G:∀ p∈d,p.1.ok)(V:d.length<=12)(E:w.heap[o]?=some (Uh b)) :
  Calls prog 163 #[.func (.func 183) #[] #[pO o 0],.func (.func 165) #[] #[]] w fun e w'=>∃ (v:Value) (ks:List Ky),e=.returned v/\ks.Perm (d.map Prod.fst)/\KRow w' w.heap.size v ks/\B7 w w':=by
 have q:=aa (sB o b d w C F G (by omega) E);clear C F G E;go_enter func163,ntmps163
 go_wp2_with fail
 refine q.out.mono ?_
 rintro e n ⟨v,ks,rfl,g,m,k⟩;have U:ks.length=d.length:=by rw [g.length_eq,List.length_map]
 rcases m.2 with ⟨rfl,B⟩ | ⟨j,A,T,rfl,D,f,Q,_⟩
 ·have P:ks=[]:=List.length_eq_zero_iff.1 B;subst P;have r:=aa g;have i:=aa k;clear g m k q B;go_wp2_with fail
  refine (jaY _ n).mono ?_
  rintro e R ⟨rfl,a⟩;rw [a];clear a;go_wp2
  go_ret
  exact⟨_,[],rfl,r.out,il ⟨rfl,rfl⟩,i.out⟩
 ·have t:=jay m rfl;have u:=am f;obtain⟨z,l⟩:∃ z,z=ks.length:=⟨_,rfl⟩;rw [<-l];have M:=aa (jcU j A z ks.toArray n t u (by simpa using l.symm) (by omega));have y:=pB (ltOf kL) ks.toArray;have r:=aa g;have i:=aa k;have K:=aa t;have L:=aa l;clear g m k q t f l;go_wp2_with fail
  refine M.out.mono ?_
  rintro e R ⟨rfl,H,I,a⟩;have J:=aa a;clear a;go_wp2
  go_ret
  obtain⟨c,N⟩:∃ c,c=insertionSort (ltOf kL) ks.toArray 0 ks.toArray.size:=⟨_,rfl⟩;have a:=J.out;rw [<-N] at a y;have s:c.size=ks.length:=by simpa using y.2
  have x:=rD n j H c I;have f:=pQ n j H ks.toArray c I K.out u (by simpa using s);rw [<-a] at x f;refine⟨_,c.toList,rfl,(by simpa using y.1:c.toList.Perm ks).trans r.out,ir ⟨j,A,?_,?_,D,ll u x.size,by simpa using f⟩,?_⟩
  ·rw [L.out];simp [s]
  ·simp [s];exact Q
  ·exact i.out.trans (x.below i.out.size (fun S O=>by rw [O];exact D))
def aL (a:Es)(k:Ky):Qt:=((ar k a).map Prod.snd).getD ⟨0,0,0,0,0⟩
def dp (b:Es)(ks:List Ky):List Int:=ks.flatMap fun a=>mD a ++ tC (aL b a)
theorem rr (a:Es)(ks:List Ky):(dp a ks).length=41 * ks.length:=by
 unfold dp;induction ks with
 | nil=>rfl
 | cons c d b=>rw [List.flatMap_cons,List.length_append,b,List.length_append,iA];simp [mD];omega
theorem jaK (a:Es)(ks:List Ky)(i:Nat)(b:i<ks.length):dp a (ks.take (i+1))=dp a (ks.take i) ++ mD ks[i] ++ tC (aL a ks[i]):=by
 rw [List.take_add_one,List.getElem?_eq_getElem b];unfold dp;rw [List.flatMap_append];simp [List.append_assoc]
theorem jeD {g:Array Oper}{o:Oper}{a:Act}{w:World}{d:Act->World->Prop}{k:Exit->Act->World->Prop}{j:Prop}{R:Ending->World->Prop}(r:o.guard=none)(f:FuncId)(c:Array Value)(q:∀ b w,Sem.run prog (callFunc f b) w=.ok (.enter f b) w)(s:Operand)(i:Array Operand)(A:Array TypeId)
  (t:o.op=.call { callee:=.value s,args:=i,argTypes:=A }) (x:a.eval s=.func (.func f) #[] c) (b:Array Value) (z:i.map a.eval=b) (n:Calls prog f (b ++ c) w R)
  (p:∀ e w',R e w'->∃ v,e=.returned v/\d (a.put o.dst v) w') :
  if Region.wanted o (yielded g a.tmps)=true then Oper.wp prog o a w d k else j:=by
 have y:Region.wanted o (yielded g a.tmps)=true:=by simp [Region.wanted,r]
 rw [if_pos y];have u:(execOp a.eval o).run prog w=.ok (.enter f (b ++ c)) w:=by
  subst z;simp only [execOp,t,resolve,x,Deferred.ofValue];simp [invoke,q]
 unfold Oper.wp;rw [u,Oper.upon_enter];refine n.mono ?_
 intro e w' l;obtain⟨v,rfl,m⟩:=p e w' l;exact m
theorem jgb (b a:Qt)(w:World):(Instr.field 177 (oL b a) 1).run prog w=.ok (oD a) w:=by kernel_rfl
theorem bldR (k:Ky)(a:Qt)(w:World):(Instr.build 175 #[(0,(om k)),(1,(oD a))]).run prog w=.ok (OH k a) w:=by kernel_rfl
theorem jbs (a:Array Value)(w:World):Sem.run prog (callFunc 193 a) w=.ok (.enter 193 a) w:=by simp [go_sem]
structure Tld (w1 wr:World)(bb base:Nat)(v0:Value)(bs:List Int):Prop where
 box:∃ b,wr.heap[bb]?=some (.cells #[b] 76)/\wr.ownsRow base 5 1 b bs.length (bs.map (Value.int .u8))/\(b.ownBlock=v0.ownBlock\/∃ g,b.ownBlock=some g/\w1.heap.size<=g)
 keep:ae (fun c=>c=bb\/v0.ownBlock=some c) w1 wr
theorem tJ (b q base:Nat)(d:Es)(o:Int)(l:List Int)(I:Value)(w:World)(ad:aH w b d)(ch:(d.map Prod.fst).Nodup)(ck:∀ p∈d,p.1.ok)(cl:∀ p∈d,p.2.2.fit)(cn:d.length<=12)(en:0<=o/\o<=100)(eo:l.length<=100)(d7:base<=w.heap.size)
  (z:Tld w w q base I (o :: l)) :
  Calls prog 143 #[.map (some b),.func (.func 193) #[] #[pO q 0]] w fun e w'=>e=.returned (.tuple #[])/\∃ ks:List Ky,ks.Perm (d.map Prod.fst)/\Tld w w' q base I ((o+ks.length) :: (l ++ dp d ks)):=by
 have b4:=ap.lt ad;obtain⟨bo,a0,G,b3⟩:=z.box;have c6:=am a0;have a1:bo.ownBlock=I.ownBlock:=by
  rcases b3 with f | ⟨g,f,b7⟩
  ·exact f
  ·have:=(aj G f).2;omega
 clear b3;have J:=aa ad;have d1:=aa z;have bi:=aa ch;have bj:=aa ck;have cz:=aa cl;clear ad z ch ck cl;go_enter func143,ntmps143
 go_wp2_with fail
 refine (jdR b w).mono ?_
 rintro e Q ⟨rfl,a7⟩;have cb:Q.heap[w.heap.size]?=some (Uh b):=a7▸af _ _;have Y:B7 w Q:=a7▸ba w;have bF:aH Q b d:=ap.kept J.out (Y.block b b4);have bk:=aa (jaX w.heap.size b d Q bF bi.out bj.out cn cb);have bb:=aa Y;clear a7 cb Y bF;go_wp2_with fail
 refine bk.out.mono ?_
 rintro e u ⟨dN,ks,rfl,t,av,Z⟩;have df:=bb.out.size;have di:=Z.size;have E:B7 w u:=bb.out.trans (Z.mono df);have bK:aH u b d:=ap.kept J.out (E.block b b4);have ei:ks.length=d.length:=by rw [t.length_eq,List.length_map]
 have b2:Tld u u q base I (o :: l):=
  ⟨⟨bo,(E.block q c6).trans a0,aq G (fun g b7=>E.block g (aj G b7).2),il a1⟩,ae.refl _ _⟩
 have cc:∀ a (f:a<ks.length),∃ p,ar ks[a] d=some p/\ks[a].ok/\p.2.fit:=fun a f=>by
  have W:ks[a]∈d.map Prod.fst:=t.mem_iff.1 (List.getElem_mem f);obtain⟨⟨eq,p⟩,r,X⟩:=List.mem_map.1 W;dsimp only at X;subst X;exact⟨p,aV bi.out r,bj.out _ r,cz.out _ r⟩
 have cy:=aa t;have cx:=aa cc;have cG:=aa b2;have bd:=aa bK;have R:=aa E;clear t cc b2 bK E Z bk;obtain⟨n,F⟩:∃ n,n=ks.length:=⟨_,rfl⟩;obtain⟨U,V,a6⟩:∃ U V,dN=.slice U n V:=by
  rcases av with ⟨rfl,rfl⟩ | ⟨g,cV,rfl,_⟩
  ·exact⟨_,_,by rw [F];rfl⟩
  ·exact⟨_,_,by rw [F]⟩
 have b1:∀ a,a<n->∃ g,U=some ⟨g,0,none⟩/\n<=V/\w.heap.size<=g/\g<u.heap.size/\∀ k,k<8->u.cell? ⟨g,a * 8+k,none⟩=(bL (ks.getD a default))[k]?:=fun a c9=>by
  rcases av with ⟨rfl,rfl⟩ | ⟨g,cV,W,r,X,c3,c4⟩
  ·simp at F;omega
  ·rw [W] at a6;injection a6 with cX x c0;subst cX c0;refine⟨g,rfl,by omega,by omega,c3,fun k P=>?_⟩
   rw [sS c4 a (by omega) k P];simp [List.getD,List.getElem?_eq_getElem (show a<ks.length by omega)]
 subst a6;have cw:=aa b1;have v:=aa F;clear b1 av F;go_wp2_with fail
 go_loopw [12] (fun a8 wr=>∃ a:Nat,a<=n/\a8=.int .i64 a/\Tld u wr q base I ((o+a) :: (l ++ dp d (ks.take a)))) (fun a8 _=>n - (intOf a8).toNat)
 case atStart=>exact⟨0,by omega,rfl,by simpa [dp] using cG.out⟩
 case round=>
  obtain⟨a,c9,rfl,B⟩:=hrel;have C:=B.keep;have a5:=C.size;by_cases dd:a<n
  ·have ej:(a:Int)<(n:Int):=by omega
   have ef:(0:Int)<=(a:Int):=by omega
   obtain⟨g,rfl,eb,em,c7,a2⟩:=cw.out a dd;obtain⟨p,t,b9,b6⟩:=cx.out a (by have:=v.out;omega);obtain⟨j,a3⟩:∃ j,j=ks.getD a default:=⟨_,rfl⟩;have a4:ks[a]'(by have:=v.out;omega)=j:=by rw [a3];simp [List.getD,List.getElem?_eq_getElem (show a<ks.length by have:=v.out;omega)]
   rw [a4] at t b9;rw [<-a3] at a2;obtain⟨K,O,H,N⟩:=B.box;have b8:wr.heap[g]?=u.heap[g]?:=C.block g c7 (fun f=>f.elim (fun e=>by omega) (fun e=>by rw [<-a1] at e;have:=(aj G e).2;omega));have s:∀ k,k<8->wr.cell? ⟨g,a * 8+k,none⟩=(bL j)[k]?:=fun k P=>(World.cell?_of_block (w:=u) b8).trans (a2 k P);have ao:aH wr b d:=ap.kept bd.out (C.block b (ap.lt bd.out) (fun f=>f.elim (fun e=>ap.ne J.out a0 e) (fun e=>by
     rw [<-a1] at e;rcases G.2 with ⟨r,_⟩ | ⟨y,d5,d6,r,_,c8,_⟩
     · rw [r] at e;simp [Value.ownBlock] at e
     · rw [r] at e;simp [Value.ownBlock] at e;subst e;exact ap.ne J.out c8 rfl)))
   have cq:=s 0 (by omega);have dk:=s 1 (by omega);have dl:=s 2 (by omega);have dm:=s 3 (by omega);have dn:=s 4 (by omega);have ds:=s 5 (by omega);have dt:=s 6 (by omega);have dv:=s 7 (by omega);rw [Nat.add_zero] at cq;obtain⟨i,m⟩:∃ i,i=wr.alloc (.cells (bL j) 63):=⟨_,rfl⟩;obtain⟨S,M⟩:∃ S,S=wr.heap.size:=⟨_,rfl⟩;have cp:i.heap[S]?=some (.cells (bL j) 63):=by rw [M,m];exact af _ _
   have c5:i.heap[q]?=some (.cells #[K] 76):=m▸aB O _;have ci:=m▸H.alloc (.cells (bL j) 63);have b0:aH i b d:=ap.kept ao (m▸ah _ _ (ap.lt ao));have b5:base<=i.heap.size:=by rw [m];simp;have:=R.out.size;omega
   obtain⟨cr,A⟩:=p;have eg:(Instr.lookup 121 (.map (some b)) (om j) false).run prog i.drew=.ok (oL cr A) i.drew:=by
    have:=ap.look1 mF (w:=i.drew) (b0.kept rfl) b9 jF (jc8 _);rw [t] at this;exact this
   have db:(l ++ dp d (ks.take a)).length<=1000:=by
    rw [List.length_append,rr,List.length_take];have:=v.out;omega
   have ek:n<=12:=by have:=v.out;omega
   have cR:=aa (jeG q base (l ++ dp d (ks.take a)).length (o+a) (l ++ dp d (ks.take a)) K j A i.drew rfl c5 ci (by omega) (by omega) b5 b6);have cF:Hid (dp d (ks.take (a+1))=dp d (ks.take a) ++ mD j ++ tC A):=aa (by rw [jaK d ks a (by have:=v.out;omega),a4];unfold aL;rw [t];rfl);have d8:=jgb cr A;have d9:=bldR j A;have bl:=aa B;have bg:=aa C;have a9:=aa N;have cU:=aa m;have dR:=aa H;have d0:=aa a5;have d4:=ab cp;clear B C ci b0 ao s a2 b8 t a4 a3 db b5 H N O cp b6 a5;go_upto_region 4 with fail
   rw [<-m,<-M];have d2:=aa M;clear M m cq dk dl dm dn ds dt dv;go_region_law (refine jeD (by rfl) 193 #[pO q 0] jbs _ _ _ (by rfl) (by rfl) #[OH j A] (by simp only [List.map_toArray,List.map_cons,List.map_nil];rfl) cR.out ?_;rintro e er ⟨rfl,d3,bu,bv,bw,bz⟩;refine⟨_,rfl,?_⟩;have cs:=aa bu;have ct:=aa bv;have D:=aa bw;have cv:=aa bz;clear bu bv bw bz)
   all_goals (
     go_wp2
     go_roundw
     case rel=>
       have m:=cU.out;have el:i.heap.size=wr.heap.size+1:=by rw [m];simp
       have bs:(o+((a+1:Nat):Int)) :: (l ++ dp d (ks.take (a+1)))=(o+a+1) :: (l ++ dp d (ks.take a) ++ mD j ++ tC A):=by
         rw [cF.out];simp [List.append_assoc];omega
       have c1:((o+((a+1:Nat):Int)) :: (l ++ dp d (ks.take (a+1)))).length=(l ++ dp d (ks.take a)).length+42:=by
         rw [bs];simp [iA,mD];omega
       have di:=bg.out.size;refine⟨a+1,by omega,by go_num,⟨_,cs.out,?_,?_⟩,?_⟩
       · rw [c1,bs];exact ct.out
       · rcases cv.out with e | ⟨y,e,L⟩
         · rcases a9.out with x | ⟨y,x,L⟩
           · exact il (e.trans x)
           · exact ir ⟨y,e.trans x,L⟩
         · exact ir ⟨y,e,by have r:i.heap.size<=y:=L;omega⟩
       · refine (bg.out.then (T:=fun _=>False) (b:=wr) (c:=i) (by rw [m];exact (ae.refl _ wr).alloc _) (fun _ _ f=>f.elim)).then (b:=i) ⟨D.out.os,D.out.tape,D.out.output,D.out.size,D.out.block⟩ (fun k P f=>?_)
         rcases f with f | f
         · exact il f
         · rcases a9.out with x | ⟨y,x,L⟩
           · exact ir (x▸f)
           · rw [x] at f;injection f with f;omega
     case measure=>simp [intOf];omega)
  ·obtain rfl:a=n:=by omega
   have bl:=aa B;clear B C a5;go_wp2
   go_end0
   have c2:ks.take a=ks:=List.take_of_length_le (by rw [<-v.out];exact lz);have z:=bl.out;rw [c2] at z;obtain⟨K,O,H,N⟩:=z.box;have cn:=R.out.size;refine⟨rfl,ks,cy.out,⟨K,O,?_,N.imp id (fun ⟨y,e,f⟩=>⟨y,e,by omega⟩)⟩,(ae.of_below R.out).trans z.keep⟩
   rw [<-v.out];exact H
end Go.Proofs.YtnlgndpcddngoaaGreatDoor
namespace Go.Proofs.YtnlgndpcddngoaaGreatDoor
open Go.Proofs.Tryz Go.RowKit Go.Maps
variable [dK] [iK]
theorem kH (g o:Nat)(x:Int)(w:World)(b:w.cell? ⟨g,o,none⟩=some (.int .u32 x)) :
  Calls prog 221 #[.pointer (some ⟨g,o,none⟩)] w fun e w'=>e=.returned (.bool (x != 0))/\w'=w:=by
 have c:=run_call_load (P:=prog) func232 (by kernel_rfl) (by kernel_rfl) (by kernel_rfl) .u32 (by kernel_rfl) (a:=⟨g,o,none⟩) (x:=x) b;go_enter func221,ntmps221
 go_wp2
 go_ret
 exact⟨rfl,rfl⟩
theorem jav (g o:Nat)(a:Value)(w:World)(b:w.cell? ⟨g,o,none⟩=some (.int .u32 1)) :
  Calls prog 202 #[.pointer (some ⟨g,o,none⟩),a] w fun e w'=>e=.returned (.tuple #[])/\w'=w:=by
 go_enter func202,ntmps202
 go_wp2_with (go_at_call 221;refine (kH g o 1 _ b).mono ?_;rintro e w' ⟨rfl,rfl⟩)
 go_end0
 exact⟨rfl,rfl⟩
def crcS (rest c:Int):Int:=bits BinOp.xor IntKind.u64 (tP (bits BinOp.xor IntKind.u8 (rest % 256) c).toNat) (rest / 256)
def pi:Int->List Int->Int
 | r,[]=>r
 | r,c :: t=>pi (crcS r c) t
theorem jdm (c:BinOp)(a b:Int):0<=bits c .u8 a b/\bits c .u8 a b<=255:=by
 have d:=bounds_u8 (Go.wf_bits c .u8 a b);exact⟨d.1,by omega⟩
theorem vu (a c:Int):0<=crcS a c/\crcS a c<=18446744073709551615:=kF _ _ _
theorem vt:∀ (bs:List Int) (a:Int),0<=a->a<=18446744073709551615->0<=pi a bs/\pi a bs<=18446744073709551615
 | [],_,h0,h1=>⟨h0,h1⟩
 | c :: t,a,_,_=>vt t _ (vu a c).1 (vu a c).2
theorem mT:∀ (bs:List Int) (a c:Int),pi a (bs ++ [c])=crcS (pi a bs) c
 | [],_,_=>rfl
 | b :: t,a,c=>mT t (crcS a b) c
def sumM (bs:List Int):Int:=bits BinOp.xor IntKind.u64 IntKind.u64.max (pi 18446744073709551615 bs)
structure cC (w:World)(g o:Nat):Prop where
 once:∃ d:Bool,w.cell? ⟨g,o,none⟩=some (.int .u32 (if d then 1 else 0))/\∀ j,j<256->∃ u,w.cell? ⟨g,o+3+j,none⟩=some (.int .u64 u)/\(d=true->u=tP j)
 mu:w.cell? ⟨g,o+1,none⟩=some (.int .i32 0)
 fro:∀ j,j<259->w.frozen? ⟨g,o+j,none⟩=false
theorem rY (a:Addr)(v:Value)(u:FrameMode)(w:World)(f:w.cell? a=some v)(g:w.frozen? a=false) :
  CallsD prog 233 #[.pointer (some a),.bool true] u w fun e d w'=>d=u/\(e=.returned (.tuple #[])/\w'=w.drew.setCell a (.int .u32 1)):=by
 have b:w.drew.cell? a=some v:=by go_simp
 have c:w.drew.frozen? a=false:=by go_simp
 have h:=run_call_store (P:=prog) func235 (by kernel_rfl) (by kernel_rfl) (by kernel_rfl) (by kernel_rfl) (k:=.u32) (y:=1) b c;go_enter_d func233,ntmps233
 go_wp2
 go_region_calls
 all_goals (go_end0;exact⟨rfl,rfl⟩)
theorem jaw (g o:Nat)(w:World)(z:w.cell? ⟨g,o,none⟩=some (.int .u32 0))(s:w.cell? ⟨g,o+1,none⟩=some (.int .i32 0))(y:w.frozen? ⟨g,o,none⟩=false)(r:w.frozen? ⟨g,o+1,none⟩=false)
  (t:mm (w.setCell ⟨g,o+1,none⟩ (.int .i32 1)) g o 0 (w.setCell ⟨g,o+1,none⟩ (.int .i32 1))) :
  Calls prog 222 #[.pointer (some ⟨g,o,none⟩),.func (.func 203) #[.pointer (some ⟨g,o,none⟩)] #[]] w fun e w'=>e=.returned (.tuple #[])/\∃ d,mm (w.setCell ⟨g,o+1,none⟩ (.int .i32 1)) g o 256 d/\w'=(d.drew.setCell ⟨g,o,none⟩ (.int .u32 1)).setCell ⟨g,o+1,none⟩ (.int .i32 0):=by
 have i:=aa t;clear t;obtain⟨a,b⟩:∃ a,a=w.setCell ⟨g,o+1,none⟩ (.int .i32 1):=⟨_,rfl⟩;have k:a.cell? ⟨g,o,none⟩=some (.int .u32 0):=by rw [b];exact (World.cell?_setCell_other _ ⟨g,o+1,none⟩ ⟨g,o,none⟩ _ (by simp)).trans z
 have l:a.cell? ⟨g,o+1,none⟩=some (.int .i32 1):=by rw [b];exact World.cell?_setCell_same w _ _ s
 have m:a.frozen? ⟨g,o,none⟩=false:=by rw [b,World.frozen?_setCell];exact y
 have n:a.frozen? ⟨g,o+1,none⟩=false:=by rw [b,World.frozen?_setCell];exact r
 rw [<-b] at i ⊢;have u:=aa l;have v:=aa m;have x:=aa n;clear l m n;go_enter_defers func222,ntmps222
 go_wp2_with fail
 refine (jcb ⟨g,o+1,none⟩ _ s r).mono ?_
 rintro e w' ⟨rfl,c⟩;rw [c,<-b];clear c b;go_wp2_with fail
 refine (kH g o 0 _ k).mono ?_
 rintro e w' ⟨rfl,c⟩;rw [c];clear c;go_wp2_with fail
 refine (jbQ g o a i.out).mono ?_
 rintro e d ⟨rfl,j⟩;have h:=aa j;clear j;go_wp2
 refine leaves_cons (f:=233) (args:=#[.pointer (some ⟨g,o,none⟩),.bool true]) (by simp) (by simp [go_sem]) ?_
 have p:=h.out.cel o (il (by omega));have q:=h.out.cel (o+1) (il (by omega));refine (rY ⟨g,o,none⟩ (.int .u32 0) .returning _ (p.1.trans k) (p.2.trans v.out)).mono ?_
 rintro e A B ⟨rfl,rfl,rfl⟩;refine leaves_cons (f:=46) (args:=#[.pointer (some ⟨g,o+1,none⟩)]) (by simp [settle]) (by simp [go_sem]) ?_
 refine (pV ⟨g,o+1,none⟩ _ _ ?_ ?_).mono ?_
 ·refine (World.cell?_setCell_other _ ⟨g,o,none⟩ ⟨g,o+1,none⟩ _ (by simp)).trans ?_
  rw [World.cell?_drew];exact q.1.trans u.out
 ·rw [World.frozen?_setCell,World.frozen?_drew];exact q.2.trans x.out
 rintro e A B ⟨rfl,rfl,rfl⟩;exact⟨_,results_none rfl _ _ _,rfl,d,h.out,rfl⟩
theorem th (g o:Nat)(w:World)(b:w.cell? ⟨g,o,none⟩=some (.int .u32 0))(k:w.cell? ⟨g,o+1,none⟩=some (.int .i32 0))(i:w.frozen? ⟨g,o,none⟩=false)(j:w.frozen? ⟨g,o+1,none⟩=false)
  (c:mm (w.setCell ⟨g,o+1,none⟩ (.int .i32 1)) g o 0 (w.setCell ⟨g,o+1,none⟩ (.int .i32 1))) :
  Calls prog 202 #[.pointer (some ⟨g,o,none⟩),.func (.func 203) #[.pointer (some ⟨g,o,none⟩)] #[]] w fun e w'=>e=.returned (.tuple #[])/\∃ f,mm (w.setCell ⟨g,o+1,none⟩ (.int .i32 1)) g o 256 f/\w'=(f.drew.setCell ⟨g,o,none⟩ (.int .u32 1)).setCell ⟨g,o+1,none⟩ (.int .i32 0):=by
 have h:=aa (jaw g o w b k i j c);clear c;go_enter func202,ntmps202
 go_wp2_with fail
 refine (kH g o 0 _ b).mono ?_
 rintro e w' ⟨rfl,d⟩;rw [d];clear d;go_wp2_with fail
 refine h.out.mono ?_
 rintro e w' ⟨rfl,a⟩;have a:=aa a;go_wp2
 go_end0
 exact⟨rfl,a.out⟩
structure jf1 (V X:World)(g o:Nat):Prop where
 d:X.cell? ⟨g,o,none⟩=some (.int .u32 1)
 mu:X.cell? ⟨g,o+1,none⟩=some (.int .i32 0)
 row:∀ j,j<256->X.cell? ⟨g,o+3+j,none⟩=some (.int .u64 (tP j))
 fro:∀ j,j<259->X.frozen? ⟨g,o+j,none⟩=false
 cel:∀ j,(j<o\/o+259<=j)->X.cell? ⟨g,j,none⟩=V.cell? ⟨g,j,none⟩/\X.frozen? ⟨g,j,none⟩=V.frozen? ⟨g,j,none⟩
 keep:ae (fun c=>c=g) V X
theorem jcf (g o:Nat)(w:World)(d:cC w g o) :
  Calls prog 202 #[.pointer (some ⟨g,o,none⟩),.func (.func 203) #[.pointer (some ⟨g,o,none⟩)] #[]] w fun e X=>e=.returned (.tuple #[])/\jf1 w X g o:=by
 obtain⟨s,l,r⟩:=d.once;have t:w.frozen? ⟨g,o,none⟩=false:=d.fro 0 (by omega);have u:=d.fro 1 (by omega);cases s with
 | true=>
  refine (jav g o _ w l).mono ?_
  rintro e X ⟨rfl,rfl⟩;refine⟨rfl,l,d.mu,fun a c=>?_,d.fro,fun _ _=>⟨rfl,rfl⟩,ae.refl _ _⟩
  obtain⟨p,k,n⟩:=r a c;rw [k,n rfl]
 | false=>
  refine (th g o w l d.mu t u ?_).mono ?_
  ·refine⟨fun a c=>?_,fun a c=>?_,fun _ _=>⟨rfl,rfl⟩,ae.refl _ _⟩
   ·obtain⟨p,k,_⟩:=r a c;refine⟨p,?_,fun d=>by omega⟩
    rw [World.cell?_setCell_other _ _ _ _ (by intro e;injection e with _ f _;omega)];exact k
   ·rw [World.frozen?_setCell,Nat.add_assoc];exact d.fro (3+a) (by omega)
  ·rintro e X ⟨rfl,m,i,rfl⟩;have j:∀ a,(a<o+3\/o+259<=a)->a≠o->a≠o+1->((m.drew.setCell ⟨g,o,none⟩ (.int .u32 1)).setCell ⟨g,o+1,none⟩ (.int .i32 0)).cell? ⟨g,a,none⟩=w.cell? ⟨g,a,none⟩:=fun a c y z=>by
    rw [World.cell?_setCell_other _ _ _ _ (by intro e;injection e with _ f _;omega),World.cell?_setCell_other _ _ _ _ (by intro e;injection e with _ f _;omega),World.cell?_drew,(i.cel a c).1,World.cell?_setCell_other _ _ _ _ (by intro e;injection e with _ f _;omega)]
   have q:∀ a,(a<o+3\/o+259<=a)->((m.drew.setCell ⟨g,o,none⟩ (.int .u32 1)).setCell ⟨g,o+1,none⟩ (.int .i32 0)).frozen? ⟨g,a,none⟩=w.frozen? ⟨g,a,none⟩:=fun a c=>by
    rw [World.frozen?_setCell,World.frozen?_setCell,World.frozen?_drew,(i.cel a c).2,World.frozen?_setCell]
   have v:m.drew.cell? ⟨g,o,none⟩=some (.int .u32 0):=by
    rw [World.cell?_drew,(i.cel o (il (by omega))).1,World.cell?_setCell_other _ _ _ _ (by intro e;injection e with _ f _;omega)];exact l
   have x:(m.drew.setCell ⟨g,o,none⟩ (.int .u32 1)).cell? ⟨g,o+1,none⟩=some (.int .i32 1):=by
    rw [World.cell?_setCell_other _ _ _ _ (by intro e;injection e with _ f _;omega),World.cell?_drew,(i.cel (o+1) (il (by omega))).1];exact World.cell?_setCell_same w _ _ d.mu
   refine⟨rfl,?_,World.cell?_setCell_same _ _ _ x,fun a c=>?_,fun a c=>?_,fun a c=>⟨j a (by omega) (by omega) (by omega),q a (by omega)⟩,?_⟩
   ·rw [World.cell?_setCell_other _ _ _ _ (by intro e;injection e with _ f _;omega)];exact World.cell?_setCell_same _ _ _ v
   ·rw [World.cell?_setCell_other _ _ _ _ (by intro e;injection e with _ f _;omega),World.cell?_setCell_other _ _ _ _ (by intro e;injection e with _ f _;omega),World.cell?_drew];obtain⟨p,k,n⟩:=i.row a c;rw [k,n c]
   ·by_cases A:a<3
    ·rw [q (o+a) (by omega)];exact d.fro a c
    ·rw [World.frozen?_setCell,World.frozen?_setCell,World.frozen?_drew];have:=i.fro (a - 3) (by omega);rwa [show o+3+(a - 3)=o+a by omega] at this
   ·refine ae.set (S:=fun j=>j=g) (b:=g) (ae.set (S:=fun j=>j=g) (b:=g) ?_ (il rfl) _ _) (il rfl) _ _
    exact ((ae.set (S:=fun j=>j=g) (b:=g) (ae.refl _ w) (il rfl) _ _).trans i.keep).drew
structure bJ (w w':World)(g o:Nat):Prop where
 tab:cC w' g o
 cel:∀ j,(j<o\/o+259<=j)->w'.cell? ⟨g,j,none⟩=w.cell? ⟨g,j,none⟩/\w'.frozen? ⟨g,j,none⟩=w.frozen? ⟨g,j,none⟩
 keep:ae (fun c=>c=g) w w'
theorem je1 (g o b x n t:Nat)(bs:List Int)(w:World)(R:cC w g o)(Z:bs.length=n)(b5:n<=t)(b4:n<=1048576)(m:g<w.heap.size)(V:b<w.heap.size)(bj:b≠g)
  (W:∀ a,a<n->w.cell? ⟨b,x+a,none⟩=some (.int .u8 (bs.getD a 0))) (ao:∀ a,0<=bs.getD a 0/\bs.getD a 0<=255) (v:Int) (av:v=sumM bs) :
  Calls prog 187 #[.pointer (some ⟨g,o,none⟩),.slice (some ⟨b,x,none⟩) n t] w fun e w'=>e=.returned (oE (nb v 0) (nb v 1) (nb v 2) (nb v 3) (nb v 4) (nb v 5) (nb v 6) (nb v 7))/\bJ w w' g o:=by
 have D:=aa R;have a3:=aa W;have bF:=aa ao;have N:=aa Z;have a7:=aa av;clear R W ao Z av;have b3:∀ (Q:Fn) (first t:Array Value) (w:World),(Instr.makeFunc Q first t).run prog w=.ok (.func Q first t) w:=fun _ _ _ _=>rfl;go_enter func187,ntmps187
 go_wp2_with fail
 obtain⟨r,z⟩:∃ d,d=w.alloc (oK):=⟨_,rfl⟩;have k:B7 w r:=by rw [z];exact ba w
 have F:r.heap[w.heap.size]?=some (oK):=by rw [z];exact af _ _
 rw [<-z];clear z;have S:cC r g o:=by
  obtain⟨a9,bd,bg⟩:=D.out.once;exact⟨⟨a9,(k.cell (p:=⟨g,o,none⟩) m).trans bd,fun a c=>by obtain⟨C,u,bu⟩:=bg a c;exact⟨C,(k.cell (p:=⟨g,o+3+a,none⟩) m).trans u,bu⟩⟩,(k.cell (p:=⟨g,o+1,none⟩) m).trans D.out.mu,fun a c=>(k.frozen (p:=⟨g,o+a,none⟩) m).trans (D.out.fro a c)⟩
 refine (jcf g o r S).mono ?_
 rintro e d ⟨rfl,q⟩;have i:=aa q;have y:=aa k;have bl:=q.keep.size;have ad:¬w.heap.size=g:=by omega
 have P:=aa ((q.keep.block w.heap.size (am F) ad).trans F);have a5:Hid (∀ a,a<n->d.cell? ⟨b,x+a,none⟩=some (.int .u8 (bs.getD a 0))):=aa (fun a c=>(World.cell?_of_block (w:=r) (q.keep.block b (ll V k.size) bj)).trans ((k.cell (p:=⟨b,x+a,none⟩) V).trans (a3.out a c)));clear q k F S bl ad;go_wp2_with fail
 go_loopw [5,16] (fun bz L wr=>∃ a:Nat,a<=n/\L=.int .i64 a/\bz=.int .u64 (pi 18446744073709551615 (bs.take a))/\wr=d) (fun _ L _=>n - (intOf L).toNat)
 case atStart=>exact⟨0,by omega,rfl,by first | rfl | simp [pi],by first | rfl | trivial⟩
 case round=>
  obtain⟨a,c,rfl,rfl,a0⟩:=hrel;rw [a0];clear a0;obtain⟨j,E⟩:∃ j,j=pi 18446744073709551615 (bs.take a):=⟨_,rfl⟩;have bi:=vt (bs.take a) 18446744073709551615 (by omega) (by omega);rw [<-E] at bi ⊢;have O:=aa E;clear E;by_cases Y:a<n
  ·have b2:(a:Int)<(n:Int):=by omega
   have b1:(0:Int)<=(a:Int):=by omega
   obtain⟨f,I⟩:∃ f,f=bs.getD a 0:=⟨_,rfl⟩;have b8:d.cell? ⟨b,x+a,none⟩=some (.int .u8 f):=by rw [I];exact a5.out a Y
   have a1:=jdm BinOp.xor (j % 256) f;have bw:=i.out.row (bits BinOp.xor IntKind.u8 (j % 256) f).toNat (by omega);have b7:(0:Int)<=bits BinOp.xor IntKind.u8 (j % 256) f:=a1.1;have b6:bits BinOp.xor IntKind.u8 (j % 256) f<256:=by omega
   have a4:=aa I;clear I a1;obtain⟨C,u⟩:∃ C,C=tP (bits BinOp.xor IntKind.u8 (j % 256) f).toNat:=⟨_,rfl⟩;rw [<-u] at bw;have a6:=aa u;clear u;go_wp2
   go_roundw
   case rel=>
    have X:a<bs.length:=by rw [N.out];exact Y
    have bo:bs.take (a+1)=bs.take a ++ [f]:=by
     rw [List.take_add_one,List.getElem?_eq_getElem X,a4.out,List.getD_eq_getElem?_getD,List.getElem?_eq_getElem X];rfl
    refine⟨a+1,by omega,by go_num,?_,by first | rfl | trivial⟩
    rw [bo,mT,<-O.out,a6.out];rfl
   case measure=>simp [intOf];omega
  ·obtain rfl:a=n:=by omega
   have bb:bs.take a=bs:=List.take_of_length_le (by rw [N.out];exact lz);have B:v=bits BinOp.xor IntKind.u64 IntKind.u64.max j:=by rw [a7.out,O.out,bb];rfl
   have K:=kF BinOp.xor IntKind.u64.max j;rw [<-B] at K;go_wp2_with fail
   rw [<-B];have bK:=aa B;clear B;refine (tX v d K.1 K.2).mono ?_
   rintro e a2 ⟨rfl,H⟩;have J:=(H.block w.heap.size (am P.out)).trans P.out;have a8:=ab J;have b0:=ag J;have M:=aa H;clear H J;go_wp2
   refine bodyPost_ret (v:=(oE (nb v 0) (nb v 1) (nb v 2) (nb v 3) (nb v 4) (nb v 5) (nb v 6) (nb v 7))) (by simp [results,results187,go_sem,a8]) rfl ⟨rfl,?_⟩
   have bk:g<d.heap.size:=ll m (lq y.out.size i.out.keep.size);have l:¬g=w.heap.size:=by omega
   obtain⟨s,G⟩:∃ s,s=(((((((a2.setCell ⟨w.heap.size,0,none⟩ (.int .u8 (nb v 0))).setCell ⟨w.heap.size,1,none⟩ (.int .u8 (nb v 1))).setCell ⟨w.heap.size,2,none⟩ (.int .u8 (nb v 2))).setCell ⟨w.heap.size,3,none⟩ (.int .u8 (nb v 3))).setCell ⟨w.heap.size,4,none⟩ (.int .u8 (nb v 4))).setCell ⟨w.heap.size,5,none⟩ (.int .u8 (nb v 5))).setCell ⟨w.heap.size,6,none⟩ (.int .u8 (nb v 6))).setCell ⟨w.heap.size,7,none⟩ (.int .u8 (nb v 7)):=⟨_,rfl⟩;rw [<-G];have U:s.heap[g]?=d.heap[g]?:=by
    rw [G,ac l,ac l,ac l,ac l,ac l,ac l,ac l,ac l];exact M.out.block g bk
   have A:∀ a,s.cell? ⟨g,a,none⟩=d.cell? ⟨g,a,none⟩:=fun a=>World.cell?_of_block (w:=d) U;have T:∀ a,s.frozen? ⟨g,a,none⟩=d.frozen? ⟨g,a,none⟩:=fun a=>World.frozen?_of_block (w:=d) U;refine⟨⟨⟨true,(A o).trans i.out.d,fun a c=>⟨_,(A _).trans (i.out.row a c),fun _=>rfl⟩⟩,(A _).trans i.out.mu,fun a c=>(T _).trans (i.out.fro a c)⟩,fun a c=>⟨(A a).trans ((i.out.cel a c).1.trans (y.out.cell (p:=⟨g,a,none⟩) m)),(T a).trans ((i.out.cel a c).2.trans (y.out.frozen (p:=⟨g,a,none⟩) m))⟩,?_⟩
   have bv:ae (fun f=>f=g) w a2:=((ae.of_below y.out).trans i.out.keep).trans (ae.of_below M.out);rw [G];exact (((((((bv.set (ir lz) _ _).set (ir lz) _ _).set (ir lz) _ _).set (ir lz) _ _).set (ir lz) _ _).set (ir lz) _ _).set (ir lz) _ _).set (ir lz) _ _
def fZ (turn b:Int)(a:Es)(ks:List Ky):List Int:=(ks.length:Int) :: (bI turn ++ bI b ++ dp a ks)
def aX (turn b:Int)(a:Es)(ks:List Ky):List Int:=fZ turn b a ks ++ bI (sumM (fZ turn b a ks))
theorem bX (v:Int):Bytes (bI v):=by
 intro c b;simp [bI] at b;rcases b with a | a | a | a | a | a | a | a <;> subst a <;> exact qQ v _
theorem tK (e:Es)(ks:List Ky)(g:∀ k∈ks,k.ok/\(aL e k).fit):Bytes (dp e ks):=by
 intro d a;obtain⟨k,i,a⟩:=List.mem_flatMap.1 a;obtain⟨c,f⟩:=g k i;rcases List.mem_append.1 a with a | a
 ·simp [mD] at a;rcases a with b | b | b | b | b | b | b | b <;> subst b
  ·exact c.h0
  ·exact c.h1
  ·exact c.h2
  ·exact c.h3
  ·exact c.h4
  ·exact c.h5
  ·exact c.h6
  ·exact c.h7
 ·unfold tC at a;simp only [List.mem_append] at a;rcases a with (((a | a) | a) | a) | a
  ·simp at a;subst a;exact f.kd
  ·exact bX _ d a
  ·exact bX _ d a
  ·exact bX _ d a
  ·exact bX _ d a
theorem iw (turn e:Int)(b:Es)(ks:List Ky)(f:ks.length<=12)(d:∀ k∈ks,k.ok/\(aL b k).fit):Bytes (fZ turn e b ks):=by
 intro c a;rcases List.mem_cons.1 a with a | a
 ·subst a;omega
 ·rcases List.mem_append.1 a with a | a
  ·rcases List.mem_append.1 a with a | a
   ·exact bX _ c a
   ·exact bX _ c a
  ·exact tK b ks d c a
theorem ew (turn b:Int)(a:Es)(ks:List Ky):(fZ turn b a ks).length=17+41 * ks.length:=by
 unfold fZ;rw [List.length_cons,List.length_append,List.length_append,rr];simp [bI];omega
theorem su {w:World}{base g n b:Nat}{bs:List Int}(c:w.ownsRow base 5 1 (.slice (some ⟨g,0,none⟩) n b) n (bs.map (Value.int .u8)))(e:bs.length=n):∀ a,a<n->w.cell? ⟨g,0+a,none⟩=some (.int .u8 (bs.getD a 0)):=fun a d=>by
 rw [Nat.zero_add,c.cellAt a (by omega)];simp [List.getD,List.getElem?_eq_getElem (show a<bs.length by omega)]
structure Bx (w0 W:World)(bb:Nat)(v:Value)(bs:List Int):Prop where
 box:W.heap[bb]?=some (.cells #[v] 76)
 own:W.ownsRow w0.heap.size 5 1 v bs.length (bs.map (Value.int .u8))
 below:B7 w0 W
 bb0:w0.heap.size<=bb
theorem Bx.ne {w0 c:World}{a:Nat}{v:Value}{bs:List Int}(b:Bx w0 c a v bs):v.ownBlock≠some a:=fun d=>ax b.own d b.box (by decide) rfl
theorem Bx.put {w0 f e:World}{c:Nat}{v b:Value}{bs d:List Int}(a:Bx w0 f c v bs)(G:fB f e v b)(k:e.ownsRow w0.heap.size 5 1 b d.length (d.map (Value.int .u8))):Bx w0 (e.setCell ⟨c,0,none⟩ b) c b d:=by
 have i:=G.block a.box a.ne;have j:=G.ne (am a.box) a.ne;refine⟨by simpa using ai i 0 b,ownsRow_setCell_other k j _,?_,a.bb0⟩
 refine Below.setCell ?_ a.bb0 _
 exact a.below.trans (G.below a.below.size (fun l g=>(aj a.own g).1))
theorem Bx.mid {w0 a d:World}{b:Nat}{v e:Value}{bs:List Int}(c:Bx w0 a b v bs)(G:fB a d v e):d.heap[b]?=some (.cells #[v] 76):=G.block c.box c.ne
theorem Bx.tld {w0 a:World}{b:Nat}{v:Value}{bs:List Int}(c:Bx w0 a b v bs):Tld a a b w0.heap.size v bs:=⟨⟨v,c.box,c.own,il rfl⟩,ae.refl _ _⟩
theorem Bx.told {w0 e g:World}{b:Nat}{v:Value}{bs f:List Int}(a:Bx w0 e b v bs)(T:Tld e g b w0.heap.size v f):∃ d,Bx w0 g b d f:=by
 obtain⟨d,i,j,_⟩:=T.box;exact⟨d,i,j,a.below.trans (T.keep.below a.below.size (fun l k=>k.elim (fun c=>c▸a.bb0) (fun c=>(aj a.own c).1))),a.bb0⟩
theorem mg (g o b:Nat)(d:Es)(turn f:Int)(w:World)(a8:aH w b d)(cz:(d.map Prod.fst).Nodup)(cR:∀ p∈d,p.1.ok)(cV:∀ p∈d,p.2.2.fit)(eg:d.length<=12)(ej:0<=turn)(ek:turn<=18446744073709551615)(d7:0<=f)(d8:f<=18446744073709551615)(cl:cC w g o)(z:g<w.heap.size)(eB:b≠g) :
  Calls prog 180 #[.pointer (some ⟨g,o,none⟩),.int .u64 turn,.int .u64 f,.func (.func 143) #[.map (some b)] #[]] w fun e w'=>∃ (a7 J:Nat) (ks:List Ky),e=.returned (.slice (some ⟨a7,0,none⟩) (aX turn f d ks).length J)/\ks.Perm (d.map Prod.fst)/\w.heap.size<=a7/\w'.ownsRow w.heap.size 5 1 (.slice (some ⟨a7,0,none⟩) (aX turn f d ks).length J) (aX turn f d ks).length ((aX turn f d ks).map (Value.int .u8))/\bJ w w' g o:=by
 obtain⟨eo,W,el,em,en⟩:=info_parts Tryz.info5;have d0:=ap.lt a8;have eN:∀ (cb:Fn) (first J:Array Value) (w:World),(Instr.makeFunc cb first J).run prog w=.ok (.func cb first J) w:=fun _ _ _ _=>rfl;have c4:=aa a8;have bz:=aa cz;have b0:=aa cR;have b1:=aa cV;have ao:=aa cl;clear a8 cz cR cV cl;obtain⟨s,E⟩:∃ s,s=(w.alloc (.cells #[.int .u8 0] 5)).alloc (.cells #[.slice (some ⟨w.heap.size,0,none⟩) 1 1] 76):=⟨_,rfl⟩;obtain⟨l,U⟩:∃ l,l=w.heap.size+1:=⟨_,rfl⟩;have bd:s.heap[l]?=some (.cells #[.slice (some ⟨w.heap.size,0,none⟩) 1 1] 76):=by rw [U,E];exact aC (by simp)
 have c0:s.heap[w.heap.size]?=some (.cells #[.int .u8 0] 5):=E▸aB (af _ _) _;have cG:s.ownsRow w.heap.size 5 1 (.slice (some ⟨w.heap.size,0,none⟩) 1 1) 1 (([0]:List Int).map (Value.int .u8)):=
  ⟨rfl,ir ⟨w.heap.size,1,_,rfl,lz,c0,lz,by unfold maxLen;omega,rfl,rfl⟩⟩
 have ci:B7 w s:=E▸(ba w).alloc (by simp) _;have ei:s.heap.size=w.heap.size+2:=by rw [E];simp
 have cp:Bx w s l (.slice (some ⟨w.heap.size,0,none⟩) 1 1) [0]:=⟨bd,cG,ci,by omega⟩;have L:=aa cp;have c2:=aa U;clear ci cG c0 cp ei;go_enter func180,ntmps180
 go_upto_region 2 with fail
 rw [<-E,<-U];clear E U;have df:=ab bd;go_wp2_with fail
 refine (numG w.heap.size 1 [0] _ turn s rfl L.out.own (by omega) L.out.below.size ej ek).mono ?_
 rintro e ey ⟨eX,rfl,bu,Z⟩;obtain⟨b5,b6,dl⟩:=aw bu;subst dl;have bo:=L.out.mid Z;have a5:=ab bo;have a6:=ag bo;obtain⟨N,a9⟩:∃ N,N=ey.setCell ⟨l,0,none⟩ (.slice b5 (1+8) b6):=⟨_,rfl⟩;have cq:Bx w N l (.slice b5 (1+8) b6) ([0] ++ bI turn):=a9▸L.out.put Z (by simpa [bI] using bu);have G:=aa cq;clear bu Z cq df bd bo;go_upto_region 3 with fail
 rw [<-a9];clear a9 a5 a6;have cs:=G.out.box;have di:=ab cs;go_wp2_with fail
 refine (numG w.heap.size 9 ([0] ++ bI turn) _ f N (by simp [bI]) (by have:=G.out.own;simpa [bI] using this) (by omega) G.out.below.size d7 d8).mono ?_
 rintro e ez ⟨e0,rfl,bv,ad⟩;obtain⟨a0,a2,dm⟩:=aw bv;subst dm;have bs:=G.out.mid ad;have a5:=ab bs;have a6:=ag bs;obtain⟨I,bb⟩:∃ I,I=ez.setCell ⟨l,0,none⟩ (.slice a0 (9+8) a2):=⟨_,rfl⟩;have cr:Bx w I l (.slice a0 (9+8) a2) (0 :: (bI turn ++ bI f)):=bb▸G.out.put ad (by simpa [bI] using bv);have M:=aa cr;clear bv ad cr di cs bs;go_upto_region 4 with fail
 rw [<-bb];clear bb a5 a6;have ef:=M.out.below.size;have ck:aH I b d:=ap.kept c4.out (M.out.below.block b d0);have b2:=aa (tJ b l w.heap.size d 0 (bI turn ++ bI f) (.slice a0 (9+8) a2) I ck bz.out b0.out b1.out eg (by omega) (by simp [bI]) ef M.out.tld);clear ck;go_wp2_with fail
 refine b2.out.mono ?_
 rintro e K ⟨rfl,ks,Y,b4⟩;obtain⟨et,n⟩:=M.out.told b4;have b8:((0:Int)+(ks.length:Int)) :: (bI turn ++ bI f ++ dp d ks)=fZ turn f d ks:=by unfold fZ;rw [Int.zero_add]
 rw [b8] at n;have eL:ks.length=d.length:=by rw [Y.length_eq,List.length_map]
 have ct:Bytes (fZ turn f d ks):=iw turn f d ks (by omega) (fun eS d5=>by
   obtain⟨⟨eV,p⟩,u,ch⟩:=List.mem_map.1 (Y.mem_iff.1 d5);dsimp only at ch;subst ch;refine⟨b0.out _ u,?_⟩
   unfold aL;rw [aV bz.out u];exact b1.out _ u)
 have d6:=ew turn f d ks;obtain⟨j,x⟩:∃ j,j=(fZ turn f d ks).length:=⟨_,rfl⟩;obtain⟨m,t,dn,eF⟩:∃ m t,et=.slice (some ⟨m,0,none⟩) j t/\w.heap.size<=m:=by
  rcases n.own.2 with ⟨_,q⟩ | ⟨D,O,b7,q,y,_⟩
  ·omega
  ·exact⟨D,O,by rw [x];exact q,y⟩
 subst dn;have eb:j<=t:=by
  rcases n.own.2 with ⟨_,q⟩ | ⟨D,O,b7,q,y,_,u,_⟩
  ·omega
  ·rw [<-x] at q u;simp at q;omega
 have cn:cC K g o:=by
  have S:=n.below;obtain⟨a4,cc,u⟩:=ao.out.once;exact⟨⟨a4,(S.cell (p:=⟨g,o,none⟩) z).trans cc,fun a c=>by obtain⟨A,bk,bl⟩:=u a c;exact⟨A,(S.cell (p:=⟨g,o+3+a,none⟩) z).trans bk,bl⟩⟩,(S.cell (p:=⟨g,o+1,none⟩) z).trans ao.out.mu,fun a c=>(S.frozen (p:=⟨g,o+a,none⟩) z).trans (ao.out.fro a c)⟩
 have eQ:=n.below.size;have X:K.ownsRow w.heap.size 5 1 (.slice (some ⟨m,0,none⟩) j t) j ((fZ turn f d ks).map (Value.int .u8)):=by have:=n.own;rw [<-x] at this;exact this
 have d1:m<K.heap.size:=(aj X (g:=m) rfl).2;obtain⟨i,bj⟩:∃ i,i=sumM (fZ turn f d ks):=⟨_,rfl⟩;have c5:=aa (je1 g o m 0 j t (fZ turn f d ks) K cn x.symm eb (by omega) (by omega) d1 (by omega) (su X x.symm) (fun a=>ct.getD a) i bj);have dk:=ab n.box;have dd:=aa n;have bK:=aa X;have c8:=aa Y;have c9:=aa bj;have bF:=aa x;have bg:=n.box;clear b4 n Y b8 ct cn X bj x b2 d6;go_wp2_with fail
 refine c5.out.mono ?_
 rintro e v ⟨rfl,H⟩;obtain⟨k,r⟩:∃ k,k=v.alloc (OJ (nb i 0) (nb i 1) (nb i 2) (nb i 3) (nb i 4) (nb i 5) (nb i 6) (nb i 7)):=⟨_,rfl⟩;obtain⟨C,R⟩:∃ C,C=v.heap.size:=⟨_,rfl⟩;have dR:k.heap[l]?=some (.cells #[.slice (some ⟨m,0,none⟩) j t] 76):=r▸aB ((H.keep.block l (am bg) (by have:=c2.out;omega)).trans bg) _;have dv:k.heap[C]?=some (OJ (nb i 0) (nb i 1) (nb i 2) (nb i 3) (nb i 4) (nb i 5) (nb i 6) (nb i 7)):=by rw [R,r];exact af _ _
 have cF:k.ownsRow w.heap.size 5 1 (.slice (some ⟨m,0,none⟩) j t) j ((fZ turn f d ks).map (Value.int .u8)):=by
  rw [r];exact (aq bK.out (fun D y=>H.keep.block D (aj bK.out y).2 (by simp [Value.ownBlock] at y;omega))).alloc _
 have cX:K.heap.size<=k.heap.size:=by rw [r];have:=H.keep.size;simp;omega
 have cv:∀ a A,((bI i).map (Value.int .u8))[a]?=some A->k.drew.cell? ((⟨C,0,none⟩:Addr).add a)=some A:=by
  intro a A c;rw [Addr.add_lit,Nat.zero_add];show k.cell? ⟨C,a,none⟩=_;rw [ab dv];match a,c with
  | 0,c=>exact c
  | 1,c=>exact c
  | 2,c=>exact c
  | 3,c=>exact c
  | 4,c=>exact c
  | 5,c=>exact c
  | 6,c=>exact c
  | 7,c=>exact c
  | a+8,c=>simp [bI] at c
 have F:=aa H;have c6:=aa cF;have c3:=aa cv;have db:=aa r;have eA:=aa R;have b3:=aa cX;have eE:j<=600:=by have cc:=bF.out;have u:=ew turn f d ks;omega
 have eD:=ab dR;clear H cF cv cX dk bg;go_upto_region 6 with fail
 rw [<-r,<-R];clear r R;go_region_law (refine aT (by rfl) _ _ 76 5 eo (.int .u8 0) 1 1 underlying76 W el em en rfl (by decide) (by rfl) w.heap.size (.slice (some ⟨m,0,none⟩) j t) j _ (by rfl) c6.out ⟨C,0,none⟩ 8 8 ((bI i).map (Value.int .u8)) (by rfl) (by rfl) c3.out (ints_oneCell _ _) (by omega) (by omega) (by have:=b3.out;show w.heap.size<=k.heap.size;omega) ?_;intro ev bw cU cx dN;have c7:=aa cU;have B:=aa cx;clear cU cx dN)
 all_goals go_wp2
 all_goals go_ret
 all_goals (
   have b9:fZ turn f d ks ++ bI i=aX turn f d ks:=by unfold aX;rw [c9.out]
   have dt:j+8=(aX turn f d ks).length:=by rw [<-b9,List.length_append,<-bF.out];rfl
   have bi:=c7.out;rw [<-List.map_append,b9,dt] at bi;obtain⟨P,a3,ds,d3⟩:∃ P a3,ev=.slice (some ⟨P,0,none⟩) (aX turn f d ks).length a3/\w.heap.size<=P:=by
     rcases bi.2 with ⟨_,q⟩ | ⟨D,O,b7,q,y,_⟩
     · omega
     · exact⟨D,O,q,y⟩
   subst ds;refine⟨P,a3,ks,rfl,c8.out,d3,bi,?_⟩
   have Q:=dd.out.below;have d4:g<k.heap.size:=by have:=b3.out;omega
   have r:=db.out;have d2:g<v.heap.size:=ll (ll z Q.size) F.out.keep.size;have cy:bw.heap[g]?=v.heap[g]?:=(B.out.block g d4 (by intro e;simp [Value.ownBlock] at e;omega)).trans (by rw [r];exact ah _ _ d2);have V:∀ a,bw.cell? ⟨g,a,none⟩=v.cell? ⟨g,a,none⟩:=fun a=>World.cell?_of_block (w:=v) cy;have cw:∀ a,bw.frozen? ⟨g,a,none⟩=v.frozen? ⟨g,a,none⟩:=fun a=>World.frozen?_of_block (w:=v) cy;have av:=F.out.tab;obtain⟨a4,er,es⟩:=av.once;refine⟨⟨⟨a4,(V _).trans er,fun a c=>by obtain⟨A,bk,bl⟩:=es a c;exact⟨A,(V _).trans bk,bl⟩⟩,(V _).trans av.mu,fun a c=>(cw _).trans (av.fro a c)⟩,fun a c=>⟨(V a).trans ((F.out.cel a c).1.trans (Q.cell (p:=⟨g,a,none⟩) z)),(cw a).trans ((F.out.cel a c).2.trans (Q.frozen (p:=⟨g,a,none⟩) z))⟩,?_⟩
   have eq:ae (fun a1=>a1=g) w k:=by rw [r];exact ((ae.of_below Q).trans F.out.keep).alloc _
   refine eq.then (T:=fun a1=>a1=m) ⟨B.out.os,B.out.tape,B.out.output,B.out.size,fun c1 W d9=>B.out.block c1 W (by intro e;simp [Value.ownBlock] at e;exact d9 e)⟩ (fun c1 W q=>by omega))
theorem jd7 (db nb base d n F:Nat)(C:Value)(fs:Fs)(b:Bool)(bs:List Int)(l f:Int)(w:World)(A:w.heap[db]?=some (OX C nb l f))(z:ak w nb fs)(X:l≠0)(W:f≠0)
  (B:bs.length=n) (a6:n<=4000000) (j:w.ownsRow base 5 1 (.slice (some ⟨d,0,none⟩) n F) n (bs.map (Value.int .u8))) :
  Calls prog 263 #[pO db 0,.int .i64 1,.string (ay b),.slice (some ⟨d,0,none⟩) n F] w fun e w'=>e=.returned .nilIface/\∃ u g,w'.heap[db]?=some (ut C nb u (aK l) (aK f))/\w.heap.size<=g/\ak w' nb (aJ b (g,strOfNums bs) fs)/\w'.ownsRow w.heap.size 146 3 u 1 [.int .i64 1,.string (ay b),.string (strOfNums bs)]/\ae (fun c=>c=db\/c=nb\/c=d) w w':=by
 have I:=gk j B;obtain⟨D,K⟩:∃ D,D=strOfNums bs:=⟨_,rfl⟩;rw [<-K] at I ⊢;have M:d≠db:=ax j rfl A (by decide);have ad:d<w.heap.size:=(aj j (g:=d) rfl).2;have N:d≠nb:=by
  intro e;rcases j.2 with ⟨a,_⟩ | ⟨y,S,k,a,_,s,_⟩
  ·simp at a
  ·simp at a;rw [<-a.1] at s;exact z.map.ne s e.symm
 obtain⟨G,H,V⟩:∃ k,w.heap[d]?=some (.cells k 5 (0,0))/\n<=k.size:=by
  rcases j.2 with ⟨a,_⟩ | ⟨y,S,k,a,_,s,a0,_,a1,_⟩
  ·simp at a
  ·simp at a;obtain⟨T,U⟩:=a;subst T U;exact⟨k,s,by omega⟩
 have HD:=aa z;have Q:=aa A;have P:=aa H;have av:=aa B;clear j z A H B K;go_enter func263,ntmps263
 go_wp2_with fail
 refine (jc2 db nb C fs b D l f w Q.out HD.out X W).mono ?_
 rintro e v ⟨rfl,u,g,p,r,o,i,q⟩;have L:v.heap[d]?=some (.cells G 5 (0,0)):=(q.block d ad (fun a=>a.elim M N)).trans P.out;have R:=aa (aN p (aN r (aN o (aN i q))));have O:Hid (nU v v d n):=aa ⟨ae.refl _ _,G,L,V⟩;clear p r o i q I;go_wp2_with fail
 go_loopw [20] (fun E wr=>∃ h:Nat,h<=n/\E=.int .i64 h/\nU v wr d n) (fun E _=>n - (intOf E).toNat)
 case atStart=>exact⟨0,by omega,rfl,O.out⟩
 case round=>
  obtain⟨h,a3,rfl,m⟩:=hrel;by_cases Y:h<n
  ·have a5:(h:Int)<(n:Int):=by omega
   have a4:(0:Int)<=(h:Int):=by omega
   obtain⟨⟨bb,a7⟩,a2⟩:=m.cell h Y;have x:=aa m;clear m;go_wp2
   go_roundw
   case rel=>exact⟨h+1,by omega,by go_num,x.out.step h _⟩
   case measure=>simp [intOf];omega
  ·obtain rfl:h=n:=by omega
   have x:=aa m;clear m;go_wp2
   go_ret
   obtain⟨p,r,o,i,q⟩:=R.out;have t:=x.out.keep;refine⟨rfl,u,g,(t.block db (am p) (fun e=>M e.symm)).trans p,r,o.keep t (fun e=>N e.symm) (fun ao Z e=>?_),?_,?_⟩
   ·have:=o.str ao Z;rw [e,L] at this;simp at this
   ·exact aq i (fun y J=>t.block y (aj i J).2 (fun e=>by have:=(aj i J).1;omega))
   ·exact (q.mono (fun a9 a _=>a.elim il (fun a=>ir (il a)))).then t (fun a8 _ a=>ir (ir a))
theorem rN (db nb base a n h:Nat)(i:Value)(fs:Fs)(b:Bool)(bs:List Int)(l f:Int)(w:World)(k:w.heap[db]?=some (OX i nb l f))(j:ak w nb fs)(o:l≠0)(m:f≠0)
  (p:bs.length=n) (t:n<=4000000) (q:w.ownsRow base 5 1 (.slice (some ⟨a,0,none⟩) n h) n (bs.map (Value.int .u8))) :
  Calls prog 259 #[pO db 0,.string (ay b),.slice (some ⟨a,0,none⟩) n h] w fun e w'=>e=.returned .nilIface/\∃ r g,w'.heap[db]?=some (ut i nb r (aK l) (aK f))/\w.heap.size<=g/\ak w' nb (aJ b (g,strOfNums bs) fs)/\w'.ownsRow w.heap.size 146 3 r 1 [.int .i64 1,.string (ay b),.string (strOfNums bs)]/\ae (fun c=>c=db\/c=nb\/c=a) w w':=by
 have s:=aa (jd7 db nb base a n h i fs b bs l f w k j o m p t q);clear k j o m q p;go_enter func259,ntmps259
 go_wp2_with fail
 refine s.out.mono ?_
 rintro e u ⟨rfl,d⟩;have d:=aa d;go_wp2
 go_ret
 exact⟨rfl,d.out⟩
theorem rJ (db a base:Nat)(V G:Value)(fs:Fs)(b:Bool)(s:ByteArray)(l f:Int)(w:World)(t:w.heap[db]?=some (.cells #[.map (some a),V,G,.int .i64 l,.int .i64 f,.bool false] 88))(p:ak w a fs)(a7:l≠0)(a4:f≠0)
  (D:w.ownsRow base 146 3 G 1 [.int .i64 1,.string (ay b),.string s]) :
  Calls prog 258 #[pO db 0] w fun e w'=>e=.returned .nilIface/\∃ g,w'.heap[db]?=some (.cells #[.map (some a),V,.slice none 0 0,.int .i64 (aK l),.int .i64 (aK f),.bool false] 88)/\w.heap.size<=g/\ak w' a (aJ b (g,s) fs)/\ae (fun c=>c=db\/c=a) w w':=by
 obtain⟨d,M,o,rfl,a8,a9,F,U⟩:∃ d M o,G=.slice (some ⟨d,0,none⟩) 1 M/\d≠db/\d<w.heap.size/\w.heap[d]?=some (.cells o 146 (0,0))/\o.toList.take 3=[.int .i64 1,.string (ay b),.string s]:=by
  rcases D.2 with ⟨_,h⟩ | ⟨a0,av,o,h,_,S,_,_,_,a2⟩
  ·omega
  ·subst h;exact⟨a0,av,o,rfl,ax D rfl t (by decide),am S,S,by simpa using a2⟩
 have C:a≠db:=p.map.ne t;have bs:a≠d:=p.map.ne F;have R:∀ y,y<3->o[y]?=([.int .i64 1,.string (ay b),.string s]:List Value)[y]?:=fun y a6=>by
  rw [<-U,List.getElem?_take,if_pos a6,Array.getElem?_toList]
 have L:∀ m∈fs,¬m.2.1=db:=fun m q e=>by have:=p.str m q;rw [e,t] at this;simp at this
 have HD:=aa p;have X:=aa L;have Y:=aa F;have z:=aa R;clear D p L F R U;go_enter func258,ntmps258
 go_wp2_with fail
 refine (gQ db _ _ _ l f w t a7 a4).mono ?_
 rintro e i ⟨rfl,u,x⟩;have E:=(x.block d a9 a8).trans Y.out;have N:ak i a fs:=HD.out.keep x C X.out;have bd:i.cell? ⟨d,0,none⟩=some (.int .i64 1):=(ab E 0).trans (z.out 0 (by omega));have bg:i.cell? ⟨d,1,none⟩=some (.string (ay b)):=(ab E 1).trans (z.out 1 (by omega));have bi:i.cell? ⟨d,2,none⟩=some (.string s):=(ab E 2).trans (z.out 2 (by omega));have Z:=ab u;have A:=aa N;have I:=aa x;clear N x;go_wp2_with fail
 refine wp_loop_rounds 2 ?_
 rw [rounds_succ];obtain⟨j,k⟩:∃ j,j=i.alloc (uj (.string (ay b)) s):=⟨_,rfl⟩;obtain⟨B,r⟩:∃ B,B=i.heap.size:=⟨_,rfl⟩;have a1:j.heap[B]?=some (uj (.string (ay b)) s):=by rw [r,k];exact af _ _
 have a3:j.heap[db]?=_:=k▸aB u _;have P:ak j.drew a fs:=A.out.kept (k▸ah _ _ A.out.map.lt) (fun m q=>k▸ah _ _ (am (A.out.str m q)));have Q:ae (fun _=>False) i j:=k▸(ae.refl _ i).alloc _;have W:=aa P;have K:=aa Q;have bk:=aa r;clear P Q;go_upto_region 7 with fail
 rw [<-k,<-r];clear k r bd bg bi Z;have ad:=ab a3;have ao:=ab a1;go_region_law (refine aO (by rfl) 59 io _ _ (by rfl) #[.map (some a),Uo (.string (ay b)) s] (by simp only [List.map_toArray,List.map_cons,List.map_nil];rfl) (vB a fs b s _ W.out) ?_;rintro e bj ⟨rfl,O,T⟩;refine⟨_,rfl,?_⟩;have H:=aa O;have n:=aa T;clear O T)
 all_goals (
   have a5:Hid (i.heap.size<=j.heap.size+1):=aa (lq K.out.size (Nat.le_succ _));have J:Hid (ae (fun c=>c=a) i bj):=aa ((K.out.mono (fun _ h _=>h.elim)).then (b:=j) ⟨n.out.os,n.out.tape,n.out.output,n.out.size,n.out.block⟩ (fun bb _ h=>h));have v:=(J.out.block db (am u) (fun e=>C e.symm)).trans u;have bl:=ab v;have bo:=ag v;clear ad ao n;go_wp2
   rw [rounds_succ];go_wp2
   go_ret
   have bu:=I.out.size;refine⟨rfl,_,by simpa using ai v 2 (.slice none 0 0),?_,H.out.kept (ac C _ _) (fun m q=>ac (fun e=>by have:=H.out.str m q;rw [e,v] at this;simp at this) _ _),?_⟩
   · have:=a5.out;show w.heap.size<=j.heap.size+1;omega
   · refine ae.set ?_ (il (il rfl)) _ _
     exact (I.out.mono (fun bv h _=>il h)).then J.out (fun bb _ h=>ir h))
structure bP (w:World)(db:Nat)(k:Bu)(fsD fsN:Fs)(F:NP):Prop where
 mem:∃ mb nb l f,w.heap[db]?=some (ox mb nb l f)/\ak w mb fsD/\ak w nb fsN/\fC l k.l/\fC f k.f/\F mb/\F nb/\mb≠nb
 sD:∀ p∈fsD,F p.2.1
 sN:∀ p∈fsN,F p.2.1
 own:F db
 lt:∀ b,F b->b<w.heap.size
theorem bP.kept {w w':World}{db:Nat}{k:Bu}{fsD fsN:Fs}{F:NP}(a:bP w db k fsD fsN F)(s:w.heap.size<=w'.heap.size)(c:∀ b,F b->w'.heap[b]?=w.heap[b]?):bP w' db k fsD fsN F:=by
 obtain⟨i,nb,t,j,l,m,n,o,p,f,g,q⟩:=a.mem;exact⟨⟨i,nb,t,j,(c db a.own).trans l,m.kept (c i f) (fun e d=>c _ (a.sD e d)),n.kept (c nb g) (fun e d=>c _ (a.sN e d)),o,p,f,g,q⟩,a.sD,a.sN,a.own,fun b r=>ll (a.lt b r) s⟩
theorem gz (a:Value)(w:World):(Go.method 510 78 a "Write").run prog w=.ok (259,a) w:=by kernel_rfl
theorem ex (a:Value)(w:World):(Go.method 510 78 a "Sync").run prog w=.ok (258,a) w:=by kernel_rfl
theorem sr (a:Array Value)(w:World):Sem.run prog (callFunc 180 a) w=.ok (.enter 180 a) w:=by simp [go_sem]
theorem gi (a:Array Value)(w:World):Sem.run prog (callFunc 147 a) w=.ok (.enter 147 a) w:=by simp [go_sem]
theorem sd (a:Array Value)(w:World):Sem.run prog (callFunc 259 a) w=.ok (.enter 259 a) w:=by simp [go_sem]
theorem gI {k:Array Oper}{o:Oper}{a:Act}{w:World}{i:Act->World->Prop}{m:Exit->Act->World->Prop}{l:Prop}{R:Ending->World->Prop}(x:o.guard=none)(f:FuncId)(j:String)(t:TypeId)(b:Value)(y:∀ w,(Go.method 510 t b j).run prog w=.ok (f,b) w)(u:∀ d w,Sem.run prog (callFunc f d) w=.ok (.enter f d) w)(s:Operand)(c:Array Operand)(F:Array TypeId)
  (A:o.op=.call { callee:=.invoke s j,args:=c,argTypes:=F }) (D:a.eval s=.iface t b) (d:Array Value) (g:c.map a.eval=d) (q:Calls prog f (#[b] ++ d) w R)
  (r:∀ e w',R e w'->∃ v,e=.returned v/\i (a.put o.dst v) w') :
  if Region.wanted o (yielded k a.tmps)=true then Oper.wp prog o a w i m else l:=by
 have E:Region.wanted o (yielded k a.tmps)=true:=by simp [Region.wanted,x]
 rw [if_pos E];have C:(execOp a.eval o).run prog w=.ok (.enter f (#[b] ++ d)) w:=by
  subst g;simp only [execOp,A,resolve,D];simp [invoke,callMethod,go_sem];have n:(#[Value.iface t b] ++ Array.map a.eval c)[0]?=some (.iface t b):=by rw [Array.getElem?_append_left (by simp)];rfl
  have B:Sem.run prog program w=.ok prog w:=rfl;have z:prog.types.size+100=510:=by kernel_rfl
  have g:(Array.map a.eval c).extract 0 c.size=Array.map a.eval c:=by
   rw [show c.size=(Array.map a.eval c).size from (Array.size_map ..).symm];exact Array.extract_size
  rw [n,g];simp only [Sem.run_bind,B,z,y,Result.andThen,u]
 unfold Oper.wp;rw [C,Oper.upon_enter];refine q.mono ?_
 intro e w' b;obtain⟨v,rfl,p⟩:=r e w' b;exact p
structure aY (w:World)(g db:Nat)(turn:Int):Prop where
 fro:∀ j,j<262->w.frozen? ⟨g,j,none⟩=false
 dsk:w.cell? ⟨g,0,none⟩=some (.iface 78 (.pointer (some ⟨db,0,none⟩)))
 tab:cC w g 1
 turn:w.cell? ⟨g,260,none⟩=some (.int .u64 turn)
 err:w.cell? ⟨g,261,none⟩=some .nilIface
theorem bT {w:World}{g c:Nat}{v:Value}(b:w.cell? ⟨g,c,none⟩=some v):g<w.heap.size:=by
 rcases Nat.lt_or_ge g w.heap.size with a | a
 ·exact a
 ·simp [World.cell?,Array.getElem?_eq_none a] at b
theorem aY.lt {w:World}{g db:Nat}{turn:Int}(a:aY w g db turn):g<w.heap.size:=bT a.dsk
theorem cC.block {w w':World}{g o:Nat}(b:cC w g o)(e:w'.heap[g]?=w.heap[g]?):cC w' g o:=by
 have c:∀ a,w'.cell? ⟨g,a,none⟩=w.cell? ⟨g,a,none⟩:=fun a=>World.cell?_of_block (w:=w) e;have i:∀ a,w'.frozen? ⟨g,a,none⟩=w.frozen? ⟨g,a,none⟩:=fun a=>World.frozen?_of_block (w:=w) e;obtain⟨f,l,m⟩:=b.once;exact⟨⟨f,(c _).trans l,fun a d=>by obtain⟨n,j,k⟩:=m a d;exact⟨n,(c _).trans j,k⟩⟩,(c _).trans b.mu,fun a d=>(i _).trans (b.fro a d)⟩
theorem aY.kept {w w':World}{g db:Nat}{turn:Int}(a:aY w g db turn)(c:w'.heap[g]?=w.heap[g]?):aY w' g db turn:=by
 have d:∀ b,w'.cell? ⟨g,b,none⟩=w.cell? ⟨g,b,none⟩:=fun b=>World.cell?_of_block (w:=w) c;exact⟨fun b e=>(World.frozen?_of_block (w:=w) c).trans (a.fro b e),(d _).trans a.dsk,a.tab.block c,(d _).trans a.turn,(d _).trans a.err⟩
theorem cC.set {w:World}{g o c:Nat}(e:cC w g o)(p:c<o\/o+259<=c)(v:Value):cC (w.setCell ⟨g,c,none⟩ v) g o:=by
 obtain⟨i,l,m⟩:=e.once;have f:∀ a,a≠c->(w.setCell ⟨g,c,none⟩ v).cell? ⟨g,a,none⟩=w.cell? ⟨g,a,none⟩:=fun a b=>World.cell?_setCell_other _ _ _ _ (by intro d;injection d with _ d _;exact b d.symm);exact⟨⟨i,(f _ (by omega)).trans l,fun a b=>by obtain⟨n,j,k⟩:=m a b;exact⟨n,(f _ (by omega)).trans j,k⟩⟩,(f _ (by omega)).trans e.mu,fun a b=>by rw [World.frozen?_setCell];exact e.fro a b⟩
theorem fe {a V:Type} [DecidableEq a] (k:a)(v:V)(ks:List (a×V)):(k,v)∈aJ k v ks:=by
 refine aR ?_
 unfold aJ;split
 ·exact dc (by assumption)
 ·rw [dx,if_neg (by assumption),if_pos rfl]
def au (t:Int):Int:=(t+1) % 18446744073709551616
theorem lW (g db b:Nat)(k:Bu)(i:Es)(turn l:Int)(fsD fsN:Fs)(F:NP)(w:World)(bk:aH w b i)(a5:(i.map Prod.fst).Nodup)(ck:∀ p∈i,p.1.ok)(cl:∀ p∈i,p.2.2.fit)(dl:i.length<=12)(dv:0<=turn)(dN:turn<=18446744073709551615)(c9:0<=l)(dd:l<=18446744073709551615)
  (v:aY w g db turn) (X:bP w db (k.up 2) fsD fsN F) (Z:¬F g) (dt:¬F b) (cc:b≠g) :
  Calls prog 161 #[pO g 0,.int .u64 l,.func (.func 143) #[.map (some b)] #[]] w fun e w'=>e=.returned .nilIface/\∃ (ks:List Ky) (a c:Nat) (bK:NP),ks.Perm (i.map Prod.fst)/\aY w' g db (au turn)/\bP w' db k (aJ (au turn % 2==1) (a,strOfNums (aX (au turn) l i ks)) fsD) (aJ (au turn % 2==1) (c,strOfNums (aX (au turn) l i ks)) fsN) bK/\(∀ b,bK b->F b\/w.heap.size<=b)/\ae (fun c=>c=g\/F c) w w':=by
 obtain⟨f,Y⟩:∃ f,f=au turn:=⟨_,rfl⟩;have a3:U7 f:=by rw [Y];unfold au;omega
 have d1:IntKind.u64.wrap (turn+1)=f:=by rw [Y,IntKind.wrap_u64];rfl
 rw [<-Y];have d4:=v.lt;have d2:=ap.lt bk;have d3:=X.lt db X.own;have ch:g≠db:=fun e=>Z (e▸X.own);obtain⟨m,x⟩:∃ m,m=w.setCell ⟨g,260,none⟩ (.int .u64 f):=⟨_,rfl⟩;have bs:aY m g db f:=by
  rw [x];exact⟨fun o ad=>by rw [World.frozen?_setCell];exact v.fro o ad,(World.cell?_setCell_other _ _ _ _ (by simp)).trans v.dsk,v.tab.set (ir (by omega)) _,World.cell?_setCell_same _ _ _ v.turn,(World.cell?_setCell_other _ _ _ _ (by simp)).trans v.err⟩
 have b7:bP m db (k.up 2) fsD fsN F:=X.kept (by rw [x];simp) (fun c a4=>by rw [x];exact ac (fun (e:c=g)=>Z (e▸a4)) _ _);have b8:aH m b i:=ap.kept bk (by rw [x];exact ac cc _ _);have b9:ae (fun c=>c=g\/F c) w m:=x▸(ae.refl _ w).set (il (il rfl)) _ _;have cn:m.heap.size=w.heap.size:=by rw [x,World.size_setCell]
 have cX:=v.turn;have c0:=v.fro 260 (by omega);have b4:=aa (mg g 1 b i f l m.drew (b8.kept rfl) a5 ck cl dl a3.1 a3.2 c9 dd (bs.tab.block rfl) (by show g<m.heap.size;omega) cc);have T:=aa bs;have I:=aa b7;have cx:=aa b9;have cV:=aa cn;have ds:=aa Y;clear v X bk a5 ck cl bs b7 b8 b9 cn Y;go_enter func161,ntmps161
 go_upto_region 2 with fail
 rw [<-x];clear x cX c0;have c1:=T.out.turn;go_cut [7] (fun dm bF=>∃ (t:World) (u A:Nat) (ks:List Ky),t=bF/\dm=.slice (some ⟨u,0,none⟩) (aX f l i ks).length A/\ks.Perm (i.map Prod.fst)/\m.heap.size<=u/\t.ownsRow m.heap.size 5 1 (.slice (some ⟨u,0,none⟩) (aX f l i ks).length A) (aX f l i ks).length ((aX f l i ks).map (Value.int .u8))/\bJ m t g 1)
 case first=>
  go_region_law (refine aO (by rfl) 180 sr _ _ (by rfl) #[pO g 1,.int .u64 f,.int .u64 l,.func (.func 143) #[.map (some b)] #[]] (by simp only [List.map_toArray,List.map_cons,List.map_nil];rfl) b4.out ?_;rintro e r ⟨u,A,ks,rfl,j,U,V,W⟩;refine⟨_,rfl,?_⟩;have a9:=aa j;have bb:=aa U;have bd:=aa V;have s:=aa W;clear j U V W)
  all_goals (go_wp2_with fail;go_meet)
  all_goals exact⟨r,u,A,ks,rfl,rfl,a9.out,bb.out,bd.out,s.out.tab,fun o ad=>s.out.cel o ad,⟨s.out.keep.os,s.out.keep.tape,s.out.keep.output,s.out.keep.size,s.out.keep.block⟩⟩
 case rest=>
  obtain⟨r,u,A,ks,rfl,rfl,n,ci,a6,q⟩:=hcut;obtain⟨ao,K⟩:∃ ao,ao=(aX f l i ks).length:=⟨_,rfl⟩;obtain⟨J,B⟩:∃ J,J=aX f l i ks:=⟨_,rfl⟩;rw [<-B] at K a6;rw [<-B,<-K];rw [<-K] at a6;have dk:ao<=4000000:=by
   have c4:=ew f l i ks;have d0:ks.length=i.length:=by rw [n.length_eq,List.length_map]
   rw [K,B];unfold aX;rw [List.length_append,c4];simp [bI];omega
  have a2:aY r g db f:=by
   refine⟨fun o ad=>?_,(q.cel 0 (il (by omega))).1.trans T.out.dsk,q.tab,(q.cel 260 (ir (by omega))).1.trans T.out.turn,(q.cel 261 (ir (by omega))).1.trans T.out.err⟩
   by_cases j:o<1\/260<=o
   ·exact (q.cel o (by omega)).2.trans (T.out.fro o ad)
   ·have:=q.tab.fro (o - 1) (by omega);rwa [show 1+(o - 1)=o by omega] at this
  have bi:bP r db (k.up 2) fsD fsN F:=I.out.kept q.keep.size (fun c a4=>q.keep.block c (I.out.lt c a4) (fun (e:c=g)=>Z (e▸a4)));obtain⟨z,nb,a7,a1,y,C,D,L,M,E,N,O⟩:=bi.mem;have di:=gz (.pointer (some ⟨db,0,none⟩));have c2:=a2.dsk;have c3:=a2.turn;have b5:=aa (rN db nb m.heap.size u ao A (.map (some z)) fsN (f % 2==1) J a7 a1 r.drew y (D.kept rfl (fun _ _=>rfl)) L.ne M.ne K.symm dk a6);have b0:=aa (cK f r.drew a3.1 a3.2);have b2:=aa a2;have bg:=aa bi;have b1:=aa q;have cz:=aa n;have cs:=aa B;have cw:=aa ci;have cy:=aa (aN y (aN C (aN D (aN L M))));have cv:=aa (aN E (aN N O));clear a2 bi q n B ci y C D L M E N O a6 K b4 c1;go_upto_region 3 with fail
  go_cut [8] (fun dn bF=>∃ (t:World) (P:Value) (c:Nat),t=bF/\dn=.nilIface/\t.heap[db]?=some (OR z nb P (aK a7) (aK a1))/\r.heap.size<=c/\ak t nb (aJ (f % 2==1) (c,strOfNums J) fsN)/\t.ownsRow r.heap.size 146 3 P 1 [.int .i64 1,.string (ay (f % 2==1)),.string (strOfNums J)]/\ae (fun c=>c=db\/c=nb\/c=u) r t)
  case first=>
   go_region_law (first
     | (refine aO (by rfl) 147 gi _ _ (by rfl) #[.int .u64 f] (by simp only [List.map_toArray,List.map_cons,List.map_nil];rfl) b0.out ?_;rintro e Q ⟨rfl,rfl⟩;refine⟨_,rfl,?_⟩)
     | (refine gI (by rfl) 259 "Write" 78 (.pointer (some ⟨db,0,none⟩)) di sd _ _ _ (by rfl) (by rfl) #[.string (ay (f % 2==1)),.slice (some ⟨u,0,none⟩) ao A] (by simp only [List.map_toArray,List.map_cons,List.map_nil];rfl) b5.out ?_;rintro e Q ⟨rfl,P,c,j,U,V,W,b6⟩;refine⟨_,rfl,?_⟩;have a9:=aa j;have bb:=aa U;have bd:=aa V;have s:=aa W;have S:=aa b6;clear j U V W b6))
   all_goals (go_wp2_with fail;go_meet)
   all_goals exact⟨Q,P,c,rfl,rfl,a9.out,bb.out,bd.out,s.out,⟨S.out.os,S.out.tape,S.out.output,S.out.size,S.out.block⟩⟩
  case rest=>
   obtain⟨Q,P,c,rfl,rfl,bv,bw,av,cq,G⟩:=hcut;obtain⟨y,C,D,L,M⟩:=cy.out;obtain⟨E,N,O⟩:=cv.out;have c7:g≠nb:=fun e=>Z (e▸N);have c6:g≠z:=fun e=>Z (e▸E);have eb:=cV.out;have d9:=cw.out;have d6:=b1.out.keep.size;have d7:=G.size;have bl:=I.out.lt;have bo:aY Q g db f:=b2.out.kept (G.block g b2.out.lt (fun d=>by rcases d with d | d | d;exact ch d;exact c7 d;omega));have df:z≠db:=C.map.ne y;have a5:nb≠db:=D.map.ne y;have bj:ak Q z fsD:=C.keep G (fun d=>by
     rcases d with d | d | d
     · exact df d
     · exact O d
     · have:=bl z E;omega) (fun p n d=>by
     have j:=C.str p n;rcases d with d | d | d
     · rw [d,y] at j;simp at j
     · rw [d] at j;exact D.map.ne j rfl
     · have:=bl _ (bg.out.sD p n);omega)
   have d5:=ex (.pointer (some ⟨db,0,none⟩));have dR:=bo.dsk;have cU:=aa (rJ db z r.heap.size (.map (some nb)) P fsD (f % 2==1) (strOfNums J) (aK a7) (aK a1) Q bv bj L.dec.ne M.dec.ne cq);have cF:=aa (aN bw (aN av G));have cG:=aa bv;have ct:=aa bj;have b3:=aa bo;clear bv bw av cq G bj bo c2 c3 y C D b5 b0;go_wp2_with fail
   refine cU.out.mono ?_
   rintro e cr ⟨rfl,a,a8,bz,a0,H⟩;have cR:=aa (aN a8 (aN bz (aN a0 H)));clear a8 bz a0 H;go_wp2
   go_ret
   obtain⟨a8,bz,a0,H⟩:=cR.out;obtain⟨bw,av,G⟩:=cF.out;have d8:=H.size;have B:=cs.out;subst B;have c5:aY cr g db f:=b3.out.kept (H.block g b3.out.lt (fun d=>d.elim ch c6));have cb:ak cr nb (aJ (f % 2==1) (c,strOfNums (aX f l i ks)) fsN):=av.keep H (fun d=>d.elim a5 (fun e=>O e.symm)) (fun p n d=>by
     have j:=av.str p n;rcases d with d | d
     · rw [d,cG.out] at j;simp at j
     · rw [d] at j;exact ct.out.map.ne j rfl)
   refine⟨rfl,ks,a,c,fun R=>F R\/R=a\/R=c,cz.out,c5,⟨⟨z,nb,aK (aK a7),aK (aK a1),a8,a0,cb,L.dec.dec,M.dec.dec,il E,il N,O⟩,fun p n=>?_,fun p n=>?_,il I.out.own,fun R bu=>?_⟩,fun R bu=>?_,?_⟩
   ·rcases cS n with d | d
    ·exact il (bg.out.sD p d)
    ·subst d;exact ir (il rfl)
   ·rcases cS n with d | d
    ·exact il (bg.out.sN p d)
    ·subst d;exact ir (ir rfl)
   ·rcases bu with d | d | d
    ·have:=bl R d;omega
    ·rw [d];exact am (a0.str _ (fe _ _ _))
    ·rw [d];exact am (cb.str _ (fe _ _ _))
   ·rcases bu with d | d | d
    ·exact il d
    ·right;omega
    ·right;omega
   ·refine ((cx.out.then b1.out.keep (fun cp _ d=>il d)).then G (fun cp c8 d=>?_)).then H (fun cp c8 d=>?_)
    ·rcases d with d | d | d
     ·exact ir (d▸I.out.own)
     ·exact ir (d▸N)
     ·omega
    ·rcases d with d | d
     ·exact ir (d▸I.out.own)
     ·exact ir (d▸E)
theorem fH (p:Addr)(w:World) :
  CallsD prog 144 #[.pointer (some p)] .returning w fun e c w'=>e=.returned (.tuple #[])/\c=.returning/\w'=w:=by
 refine callsD_of_wpS func144 rfl fun a d b=>?_
 apply wpS_seq
 apply wpS_region
 simp [wpOpsS,go_sem,recoverD,b,ntmps144,Exit.thenS];refine wpS_cond (t:=false) (by simp [Act.eval,Array.replicate]) ?_
 simp only [Bool.false_eq_true,if_false];refine wpS_of_wp (wp_skip ?_)
 cases a
 simp_all [bodyPostS,results,results144]
theorem kS (f:FuncId)(a:Array Value)(o:∀ j w,Sem.run prog (callFunc f j) w=.ok (.enter f j) w)(w:World)(R:World->Prop)
  (g:Calls prog f a (w.alloc (OD)) fun e w'=>e=.returned .nilIface/\w'.heap[w.heap.size]?=some (OD)/\R w') :
  Calls prog 116 #[.func (.func f) #[] a] w fun e w'=>e=.returned .nilIface/\∃ b,R b/\b.heap[w.heap.size]?=some (OD)/\w'=b.setCell ⟨w.heap.size,0,none⟩ .nilIface:=by
 have s:∀ (d:Fn) (first a:Array Value) (w:World),(Instr.makeFunc d first a).run prog w=.ok (.func d first a) w:=fun _ _ _ _=>rfl;have l:=aa g;clear g;have r:=o a;have q:(#[]:Array Value) ++ a=a:=by simp
 go_enter_defers func116,ntmps116
 go_wp2_with fail
 refine l.out.mono ?_
 rintro e b ⟨rfl,c,i⟩;have n:=ab c;have p:=ag c;have m:=aa i;have k:=aa c;clear i c;go_wp2
 refine leaves_cons (f:=144) (args:=#[pO w.heap.size 0]) (by simp) (by simp [go_sem]) ?_
 refine (fH ⟨w.heap.size,0,none⟩ _).mono ?_
 rintro e t u ⟨rfl,rfl,rfl⟩;simp [Leaves,settle,results,results116,go_sem,n];exact⟨b,m.out,k.out,rfl⟩
def cO (w w':World)(g db:Nat)(k:Bu)(turn f:Int)(c:Es)(fsD fsN:Fs)(F:NP):Prop:=
 ∃ (d:List Ky) (i a:Nat) (e:NP),d.Perm (c.map Prod.fst)/\aY w' g db (au turn)/\bP w' db k (aJ (au turn % 2==1) (i,strOfNums (aX (au turn) f c d)) fsD) (aJ (au turn % 2==1) (a,strOfNums (aX (au turn) f c d)) fsN) e/\(∀ b,e b->F b\/w.heap.size<=b)/\ae (fun a=>a=g\/F a) w w'
theorem cO.from {w V w':World}{g db:Nat}{k:Bu}{turn d:Int}{b:Es}{fsD fsN:Fs}{F:NP}(a:cO V w' g db k turn d b fsD fsN F)(c:ae (fun _=>False) w V):cO w w' g db k turn d b fsD fsN F:=by
 obtain⟨r,f,j,e,l,m,n,o,p⟩:=a;exact⟨r,f,j,e,l,m,n,fun i q=>(o i q).imp id (fun a=>lq c.size a),(c.mono (fun _ a _=>a.elim)).trans p⟩
theorem cO.set {w V w':World}{g db:Nat}{k:Bu}{turn j:Int}{e:Es}{fsD fsN:Fs}{F:NP}(a:cO V w' g db k turn j e fsD fsN F){x:Nat}(A:x<V.heap.size)(s:¬F x)(t:x≠g)(i:ae (fun _=>False) w V)(u:w.heap.size<=x)(y:Nat)(v:Value):cO w (w'.setCell ⟨x,y,none⟩ v) g db k turn j e fsD fsN F:=by
 obtain⟨z,m,n,l,o,p,q,f,r⟩:=a;refine⟨z,m,n,l,o,p.kept (ac (fun c=>t c.symm) _ _),q.kept (by rw [World.size_setCell];exact lz) (fun b d=>ac (fun c=>?_) _ _),fun b d=>(f b d).imp id (fun a=>lq i.size a),((i.mono (fun _ a _=>a.elim)).trans r).set (ir u) _ _⟩
 subst c;rcases f b d with a | a
 ·exact s a
 ·omega
theorem aY.seterr {w:World}{g db:Nat}{turn:Int}(a:aY w g db turn):aY (w.setCell ⟨g,261,none⟩ .nilIface) g db turn:=
 ⟨fun c b=>by rw [World.frozen?_setCell];exact a.fro c b,(World.cell?_setCell_other _ _ _ _ (by simp)).trans a.dsk,a.tab.set (ir (by omega)) _,(World.cell?_setCell_other _ _ _ _ (by simp)).trans a.turn,World.cell?_setCell_same _ _ _ a.err⟩
theorem cO.err {w w':World}{g db:Nat}{k:Bu}{turn d:Int}{b:Es}{fsD fsN:Fs}{F:NP}(a:cO w w' g db k turn d b fsD fsN F)(q:¬F g)(t:g<w.heap.size):cO w (w'.setCell ⟨g,261,none⟩ .nilIface) g db k turn d b fsD fsN F:=by
 obtain⟨s,f,j,e,m,n,o,c,p⟩:=a;refine⟨s,f,j,e,m,n.seterr,o.kept (by rw [World.size_setCell];exact lz) (fun i r=>ac (fun l=>?_) _ _),c,p.set (il (il rfl)) _ _⟩
 subst l;rcases c i r with a | a
 ·exact q a
 ·omega
structure kx (w:World)(g db b:Nat)(k:Bu)(turn time:Int)(es:Es)(fsD fsN:Fs)(F:NP):Prop where
 e:aH w b es
 nd:(es.map Prod.fst).Nodup
 ok:∀ p∈es,p.1.ok
 fit:∀ p∈es,p.2.2.fit
 sz:es.length<=12
 t0:0<=turn
 t1:turn<=18446744073709551615
 m0:0<=time
 m1:time<=18446744073709551615
 s:aY w g db turn
 d:bP w db (k.up 2) fsD fsN F
 gF:¬F g
 bF:¬F b
 bg:b≠g
theorem kx.to {w V:World}{g db b:Nat}{k:Bu}{turn f:Int}{e:Es}{fsD fsN:Fs}{F:NP}(a:kx w g db b k turn f e fsD fsN F)(c:ae (fun _=>False) w V):kx V g db b k turn f e fsD fsN F:=
 ⟨ap.kept a.e (c.block b (ap.lt a.e) (fun a=>a)),a.nd,a.ok,a.fit,a.sz,a.t0,a.t1,a.m0,a.m1,a.s.kept (c.block g a.s.lt (fun a=>a)),a.d.kept c.size (fun d i=>c.block d (a.d.lt d i) (fun a=>a)),a.gF,a.bF,a.bg⟩
theorem sY (f B C g db b:Nat)(k:Bu)(turn c:Int)(d:Es)(fsD fsN:Fs)(F:NP)(w:World)(a:kx w g db b k turn c d fsD fsN F)
  (m:w.heap[f]?=some (oW g)) (n:w.heap[B]?=some (uf c)) (o:w.heap[C]?=some (.cells #[.func (.func 143) #[.map (some b)] #[]] 278)) :
  Calls prog 172 #[pO f 0,.pointer (some ⟨B,0,none⟩),.pointer (some ⟨C,0,none⟩)] w fun e w'=>e=.returned .nilIface/\cO w w' g db k turn c d fsD fsN F:=by
 have j:=aa (lW g db b k d turn c fsD fsN F w a.e a.nd a.ok a.fit a.sz a.t0 a.t1 a.m0 a.m1 a.s a.d a.gF a.bF a.bg);have p:=ab m;have q:=ab n;have r:=ab o;clear a;go_enter func172,ntmps172
 go_wp2_with fail
 refine j.out.mono ?_
 rintro e s ⟨rfl,i⟩;have l:=aa i;clear i;go_wp2
 go_ret
 exact⟨rfl,l.out⟩
theorem vo (a:Array Value)(w:World):Sem.run prog (callFunc 172 a) w=.ok (.enter 172 a) w:=by simp [go_sem]
theorem je9 (i B C g db b:Nat)(k:Bu)(turn c:Int)(d:Es)(fsD fsN:Fs)(F:NP)(w:World)(a:kx w g db b k turn c d fsD fsN F)
  (v:w.heap[i]?=some (oW g)) (x:w.heap[B]?=some (uf c)) (y:w.heap[C]?=some (.cells #[.func (.func 143) #[.map (some b)] #[]] 278)) :
  Calls prog 159 #[pO g 0,.func (.func 172) #[] #[pO i 0,.pointer (some ⟨B,0,none⟩),.pointer (some ⟨C,0,none⟩)]] w fun e w'=>e=.returned .nilIface/\cO w w' g db k turn c d fsD fsN F:=by
 have D:=a.s.lt;have p:ae (fun _=>False) w (w.alloc (OD)):=(ae.refl _ w).alloc _;have o:¬F w.heap.size:=fun z=>by have:=a.d.lt _ z;omega
 have HG:=aa (kS 172 #[pO i 0,.pointer (some ⟨B,0,none⟩),.pointer (some ⟨C,0,none⟩)] vo w (fun n=>cO (w.alloc (OD)) n g db k turn c d fsD fsN F) (by
   refine (sY i B C g db b k turn c d fsD fsN F _ (a.to p) (aB v _) (aB x _) (aB y _)).mono ?_
   rintro e n ⟨rfl,f⟩;refine⟨rfl,?_,f⟩
   obtain⟨_,_,_,_,_,_,_,_,u⟩:=f;exact (u.block w.heap.size (by simp) (fun E=>E.elim (fun e=>by omega) o)).trans (af _ _)))
 have t:=a.s.err;have r:=aa a;clear a;go_enter func159,ntmps159
 go_wp2_with fail
 refine HG.out.mono ?_
 rintro e m ⟨rfl,n,f,A,q⟩;have j:cO w m g db k turn c d fsD fsN F:=by
  rw [q];exact f.set (by simp) o (by omega) p lz _ _
 have H:m.cell? ⟨g,261,none⟩=some .nilIface:=by
  obtain⟨_,_,_,_,_,l,_⟩:=j;exact l.err
 have G:m.frozen? ⟨g,261,none⟩=false:=by
  obtain⟨_,_,_,_,_,l,_⟩:=j;exact l.fro 261 (by omega)
 have s:=aa j;clear j f A q t;go_wp2
 go_ret
 exact⟨rfl,s.out.err r.out.gF D⟩
theorem jdP (g db b:Nat)(k:Bu)(turn d:Int)(f:Es)(fsD fsN:Fs)(F:NP)(w:World)(m:kx w g db b k turn d f fsD fsN F) :
  Calls prog 154 #[pO g 0,.int .u64 d,.func (.func 143) #[.map (some b)] #[]] w fun e w'=>e=.returned .nilIface/\cO w w' g db k turn d f fsD fsN F:=by
 have v:∀ (l:Fn) (first j:Array Value) (w:World),(Instr.makeFunc l first j).run prog w=.ok (.func l first j) w:=fun _ _ _ _=>rfl;obtain⟨a,c⟩:∃ a,a=((w.alloc (oW g)).alloc (uf d)).alloc (.cells #[.func (.func 143) #[.map (some b)] #[]] 278):=⟨_,rfl⟩;have n:a.heap[w.heap.size]?=some (oW g):=c▸aB (aB (af _ _) _) _;have s:a.heap[w.heap.size+1]?=some (uf d):=c▸aB (aC (by simp)) _;have t:a.heap[w.heap.size+2]?=some (.cells #[.func (.func 143) #[.map (some b)] #[]] 278):=c▸aC (by simp);have i:ae (fun _=>False) w a:=c▸(((ae.refl _ w).alloc _).alloc _).alloc _;have p:=aa (je9 w.heap.size (w.heap.size+1) (w.heap.size+2) g db b k turn d f fsD fsN F a (m.to i) n s t);have q:=aa i;have u:=ab n;clear m i;go_enter func154,ntmps154
 go_upto_region 1 with fail
 rw [<-c];clear c;go_wp2_with fail
 refine p.out.mono ?_
 rintro e x ⟨rfl,o⟩;have r:=aa (o.from q.out);clear o;go_wp2
 go_ret
 exact⟨rfl,r.out⟩
structure Ig where
 turn:Int
 time:Int
 es:Es
 ks:List Ky
structure Ig.ok (i:Ig):Prop where
 turn:U7 i.turn
 time:U7 i.time
 len:i.ks.length<=12
 rec_:∀ k∈i.ks,k.ok/\(aL i.es k).ok
def Ig.bytes (i:Ig):List Int:=aX i.turn i.time i.es i.ks
theorem Ig.ok.byt {i:Ig}(a:i.ok):Bytes i.bytes:=by
 have f:∀ b∈i.ks,b.ok/\(aL i.es b).fit:=fun b c=>⟨(a.rec_ b c).1,⟨by rcases (a.rec_ b c).2.kd with a | a <;> omega,(a.rec_ b c).2.x,(a.rec_ b c).2.y,(a.rec_ b c).2.lv,(a.rec_ b c).2.wn⟩⟩
 intro d e;unfold Ig.bytes aX at e;exact (List.mem_append.1 e).elim (iw i.turn i.time i.es i.ks a.len f d) (bX _ d)
theorem Ig.blen (i:Ig):i.bytes.length=25+41 * i.ks.length:=by
 unfold Ig.bytes aX;rw [List.length_append,ew];have:(bI (sumM (fZ i.turn i.time i.es i.ks))).length=8:=rfl;omega
def ky (s:ByteArray):Prop:=∃ (a:Ig) (b:Nat),a.ok/\b<a.bytes.length/\s=strOfNums (a.bytes.take b)
structure gL (blk:Int)(st hd:Qt):Prop where
 ok:hd.ok
 kd:hd.kd=st.kd
 x:hd.x=st.x
 y:hd.y=st.y
 wn:hd.wn=st.wn
 lo:st.lv<=hd.lv
 up:hd.lv<=st.lv+blk
theorem gL.same {blk:Int}{q:Qt}(a:q.ok)(b:0<=blk):gL blk q q:=⟨a,rfl,rfl,rfl,rfl,Int.le_refl _,by omega⟩
structure fE (D time blk:Int)(es:Es)(turn:Int)(fs:Fs):Prop where
 res:∀ p∈es,gL blk p.2.1 p.2.2
 img:((∀ b p,ar b fs=some p->ky p.2)/\es=[]/\D<=0/\turn=0)\/∃ (tm:Int) (ks:List Ky) (a:Nat),ks.Perm (es.map Prod.fst)/\(0<=tm/\D<=tm)/\tm<=time/\ar (turn % 2==1) fs=some (a,strOfNums (aX turn tm es ks))/\∀ p∈es,p.2.2.kd=2->p.2.2.wn<=tm / p.2.2.y
 old:∀ p,ar (!(turn % 2==1)) fs=some p->ky p.2\/∃ i:Ig,i.ok/\i.ks.Nodup/\au i.turn=turn/\p.2=strOfNums i.bytes
theorem fE.less {D e i blk:Int}{f:Es}{turn:Int}{fs:Fs}(a:fE D i blk f turn fs)(n:e<=D):fE e i blk f turn fs:=
 ⟨a.res,a.img.imp (fun ⟨b,c,g,d⟩=>⟨b,c,by omega,d⟩) (fun ⟨m,l,j,b,c,g,d,k⟩=>⟨m,l,j,b,⟨c.1,by omega⟩,g,d,k⟩),a.old⟩
theorem fE.pass {D c d blk:Int}{b:Es}{turn:Int}{fs:Fs}(a:fE D c blk b turn fs)(n:c<=d):fE D d blk b turn fs:=
 ⟨a.res,a.img.imp id (fun ⟨l,k,e,f,g,m,i,j⟩=>⟨l,k,e,f,g,by omega,i,j⟩),a.old⟩
theorem fE.wnd {D d blk:Int}{c:Es}{turn:Int}{fs:Fs}(a:fE D d blk c turn fs):∀ p∈c,p.2.2.kd=2->p.2.2.wn<=d / p.2.2.y:=fun p b i=>by
 rcases a.img with ⟨_,e,_⟩ | ⟨l,k,j,_,_,f,_,g⟩
 ·rw [e] at b;cases b
 ·refine Int.le_trans (g p b i) (Int.ediv_le_ediv ?_ f)
  have:=(a.res p b).ok.kd;rcases this with ⟨a,_⟩ | ⟨_,a⟩ <;> omega
theorem fu (t:Int):(au t % 2==1)=!(t % 2==1):=by
 unfold au;have a:t % 2=0\/t % 2=1:=by omega
 rcases a with a | a
 ·have:(t+1) % 18446744073709551616 % 2=1:=by omega
  rw [this,a];rfl
 ·have:(t+1) % 18446744073709551616 % 2=0:=by omega
  rw [this,a];rfl
theorem bm {a V:Type} [DecidableEq a] (k:a)(v:V)(l:List (a×V)):ar k (aJ k v l)=some v:=by
 unfold aJ;split
 ·exact dc (by assumption)
 ·rename_i b
  rw [dx,if_neg b,if_pos rfl]
theorem be {c V:Type} [DecidableEq c] {k a:c}(v:V)(l:List (c×V))(d:a≠k):ar a (aJ k v l)=ar a l:=by
 unfold aJ;split
 ·exact dz d
 ·rw [dx];by_cases b:(ar a l).isSome=true
  ·rw [if_pos b]
  ·rw [if_neg b,if_neg (fun e=>d e.symm)];cases f:ar a l with
   | none=>rfl
   | some g=>rw [f] at b;exact absurd rfl b
theorem lO (a b:Es):∀ (ks:List Ky),(∀ k∈ks,aL a k=aL b k)->dp a ks=dp b ks
 | [],_=>rfl
 | k :: r,h=>by
  have c:=lO a b r (fun e d=>h e (List.mem_cons_of_mem _ d));unfold dp at c ⊢;rw [List.flatMap_cons,List.flatMap_cons,c,h k (by simp)]
theorem fI (turn c:Int)(a b:Es)(ks:List Ky)(d:∀ k∈ks,aL a k=aL b k):aX turn c a ks=aX turn c b ks:=by
 unfold aX fZ;rw [lO a b ks d]
theorem igOf {j blk:Int}{a:Es}{turn:Int}(q:∀ p∈a,gL blk p.2.1 p.2.2)(n:U7 turn)(s:j<=18446744073709551615)(i:(a.map Prod.fst).Nodup)(o:∀ p∈a,p.1.ok)(t:a.length<=12){e:Int}{ks:List Ky}(f:ks.Perm (a.map Prod.fst))(l:0<=e)(r:e<=j):(⟨turn,e,a,ks⟩:Ig).ok/\ks.Nodup:=by
 have m:∀ d∈ks,∃ b∈a,b.1=d:=fun d g=>by
  have:=(f.mem_iff).1 g;obtain⟨b,c,k⟩:=List.mem_map.1 this;exact⟨b,c,k⟩
 refine⟨⟨n,⟨l,by show e<=18446744073709551615;omega⟩,by have:=f.length_eq;rw [List.length_map] at this;show ks.length<=12;omega,fun d g=>?_⟩,f.nodup_iff.2 i⟩
 obtain⟨b,c,rfl⟩:=m d g;refine⟨o b c,?_⟩
 have:ar b.1 a=some b.2:=aV i c;show (aL a b.1).ok;unfold aL;rw [this];exact (q b c).ok
theorem fE.cur {D f blk:Int}{a:Es}{turn:Int}{fs:Fs}(g:fE D f blk a turn fs)(o:U7 turn)(n:f<=18446744073709551615)(t:(a.map Prod.fst).Nodup)(q:∀ p∈a,p.1.ok)(s:a.length<=12){p:Nat×ByteArray}(e:ar (turn % 2==1) fs=some p):(ky p.2/\a=[]/\turn=0)\/∃ i:Ig,i.ok/\i.ks.Nodup/\i.turn=turn/\i.es=a/\i.ks.Perm (a.map Prod.fst)/\i.time<=f/\p.2=strOfNums i.bytes/\(∀ p∈a,p.2.2.kd=2->p.2.2.wn<=i.time / p.2.2.y)/\D<=i.time:=by
 rcases g.img with ⟨b,c,_,d⟩ | ⟨u,r,v,b,c,j,d,m⟩
 ·exact il ⟨b _ _ e,c,d⟩
 ·right
  rw [d] at e;cases e
  obtain⟨k,l⟩:=igOf g.res o n t q s b c.1 j;exact⟨⟨turn,u,a,r⟩,k,l,rfl,rfl,b,j,rfl,m,c.2⟩
theorem fE.keep {D b blk:Int}{d c:Es}{turn:Int}{fs:Fs}(i:fE D b blk d turn fs)(e:U7 turn)(f:U7 b)(v:(d.map Prod.fst).Nodup)(t:∀ p∈d,p.1.ok)(u:d.length<=12)(l:∀ p∈c,gL blk p.2.1 p.2.2)(m:∀ p∈c,p.2.2.kd=2->p.2.2.wn<=b / p.2.2.y){ks:List Ky}(k:ks.Perm (c.map Prod.fst))(a:Nat):fE b b blk c (au turn) (aJ (au turn % 2==1) (a,strOfNums (aX (au turn) b c ks)) fs):=by
 refine⟨l,ir ⟨b,ks,a,k,⟨f.1,Int.le_refl _⟩,Int.le_refl _,bm _ _ _,m⟩,fun p g=>?_⟩
 have j:(!(au turn % 2==1))≠(au turn % 2==1):=by cases (au turn % 2==1) <;> simp
 rw [be _ _ j,fu,Bool.not_not] at g;rcases i.cur e f.2 v t u g with ⟨e,_⟩ | ⟨n,o,q,r,_,_,_,s,_,_⟩
 ·exact il e
 ·exact ir ⟨n,o,q,by rw [r],s⟩
theorem fE.swept {D k blk:Int}{e:Es}{turn:Int}{fs:Fs}(f:fE D k blk e turn fs)(i:(fs.map Prod.fst).Nodup):fE D k blk e turn (br (!(turn % 2==1)) fs):=by
 have p:(turn % 2==1)≠(!(turn % 2==1)):=by cases (turn % 2==1) <;> simp
 refine⟨f.res,?_,fun j a=>?_⟩
 ·rcases f.img with ⟨b,c⟩ | ⟨r,q,l,b,c,m,n,o⟩
  ·refine il ⟨fun d j a=>?_,c⟩
   by_cases g:d=!(turn % 2==1)
   ·rw [g,ca i] at a;cases a
   ·rw [bt g] at a;exact b d j a
  ·exact ir ⟨r,q,l,b,c,m,by rw [bt p];exact n,o⟩
 ·rw [ca i] at a;cases a
theorem fE.torn {D m blk:Int}{f:Es}{turn:Int}{fs:Fs}(g:fE D m blk f turn fs){b:Bool}(i:b=!(turn % 2==1))(a:Nat){s:ByteArray}(j:ky s):fE D m blk f turn (aJ b (a,s) fs):=by
 have t:(turn % 2==1)≠b:=by rw [i];cases (turn % 2==1) <;> simp
 refine⟨g.res,?_,fun l c=>?_⟩
 ·rcases g.img with ⟨d,e⟩ | ⟨v,u,o,d,e,p,q,r⟩
  ·refine il ⟨fun n l c=>?_,e⟩
   by_cases k:n=b
   ·rw [k,bm] at c;cases c
    exact j
   ·rw [be _ _ k] at c;exact d n l c
  ·exact ir ⟨v,u,o,d,e,p,by rw [be _ _ t];exact q,r⟩
 ·rw [<-i,bm] at c;cases c
  exact il j
structure de where
 time:Int
 adm:Int
 blk:Int
 es:Es
 turn:Int
 fsD:Fs
 fsN:Fs
structure de.ok (c:de):Prop where
 time:U7 c.time
 adm:U7 c.adm
 blk:U7 c.blk
 turn:U7 c.turn
 nd:(c.es.map Prod.fst).Nodup
 key:∀ p∈c.es,p.1.ok
 qt:∀ p∈c.es,p.2.1.ok
 fit:∀ p∈c.es,p.2.2.fit
 len:c.es.length<=12
 dur:fE 0 c.time c.blk c.es c.turn c.fsD
def de.has (c:de)(D:Int):Prop:=fE D c.time c.blk c.es c.turn c.fsD
structure dw (w:World)(st:Int)(sb db:Nat)(k:Bu)(c:de)(F:NP):Prop where
 mem:∃ mp g FD,w.heap[sb]?=some (OW st c.time c.blk mp g c.adm)/\aH w mp c.es/\aY w g db c.turn/\bP w db k c.fsD c.fsN FD/\(∀ b,FD b->F b)/\F mp/\F g/\¬FD g/\¬FD mp/\mp≠g/\¬FD sb/\sb≠g/\sb≠mp
 own:F sb
 lt:∀ b,F b->b<w.heap.size
theorem dw.kept {w w':World}{o:Int}{f db:Nat}{k:Bu}{c:de}{F:NP}(a:dw w o f db k c F)(m:w.heap.size<=w'.heap.size)(d:∀ b,F b->w'.heap[b]?=w.heap[b]?):dw w' o f db k c F:=by
 obtain⟨n,g,p,q,r,s,t,i,j,l,u⟩:=a.mem;exact⟨⟨n,g,p,(d f a.own).trans q,ap.kept r (d n j),s.kept (d g l),t.kept m (fun b e=>d b (i b e)),i,j,l,u⟩,a.own,fun b e=>ll (a.lt b e) m⟩
def OutL (w:World)(e:Int)(d db:Nat)(k:Bu)(c:de)(F:NP)(w':World):Prop:=
 ∃ b,dw w' e d db k c b/\ae F w w'/\∀ a,b a->F a\/w.heap.size<=a
theorem bP.less {w:World}{db:Nat}{k c:Bu}{fsD fsN:Fs}{F:NP}(a:bP w db k fsD fsN F)(b:c.le k):bP w db c fsD fsN F:=by
 obtain⟨n,nb,m,d,e,f,g,i,j,l⟩:=a.mem;exact⟨⟨n,nb,m,d,e,f,g,i.less b.1,j.less b.2,l⟩,a.sD,a.sN,a.own,a.lt⟩
theorem dw.less {w:World}{e:Int}{d db:Nat}{k b:Bu}{c:de}{F:NP}(a:dw w e d db k c F)(o:b.le k):dw w e d db b c F:=by
 obtain⟨p,g,f,i,j,l,m,n⟩:=a.mem;exact⟨⟨p,g,f,i,j,l,m.less o,n⟩,a.own,a.lt⟩
def jeV (c:de)(b:Es)(ks:List Ky)(a d:Nat):de:=⟨c.time,c.adm,c.blk,b,au c.turn,aJ (au c.turn % 2==1) (a,strOfNums (aX (au c.turn) c.time b ks)) c.fsD,aJ (au c.turn % 2==1) (d,strOfNums (aX (au c.turn) c.time b ks)) c.fsN⟩
def Kept (c e:de)(a:Es):Prop:=∃ b d f,b.Perm (a.map Prod.fst)/\e=jeV c a b d f
theorem kJ (a:Array Value)(w:World):Sem.run prog (callFunc 154 a) w=.ok (.enter 154 a) w:=by simp [go_sem]
theorem jdO (U:Int)(g db:Nat)(k:Bu)(f:Nat)(c:de)(F:NP)(l:Es)(A y z:Int)(w:World)(a:dw w U g db (k.up 2) c F)(I:c.ok)(E:aH w f l)(G:¬F f)(bK:(l.map Prod.fst).Nodup)(b0:∀ p∈l,p.1.ok)(bv:∀ p∈l,p.2.2.fit)(b4:l.length<=12) :
  Calls prog 134 #[pO g 2,.map (some f),ot A y z] w fun e w'=>e=.returned (ot A y z)/\∃ ad n,Kept c ad l/\dw w' U g db k ad n/\ae F w w'/\∀ b,n b->F b\/w.heap.size<=b\/b=f:=by
 obtain⟨cr,i,B,N,cy,b8,b9,s,cz,t,a9,cF,cw,a8,T,cx⟩:=a.mem;obtain⟨j,u⟩:∃ j,j=(w.alloc (oI A y z)).alloc (og):=⟨_,rfl⟩;have H:ae (fun _=>False) w j:=u▸((ae.refl _ w).alloc _).alloc _;have b2:j.heap[w.heap.size]?=some (oI A y z):=u▸aB (af _ _) _;have b3:j.heap[w.heap.size+1]?=some (og):=u▸aC (by simp);have R:j.heap[g]?=_:=(H.block g (am N) (fun a=>a)).trans N;have a5:kx w i db f k c.turn c.time l c.fsD c.fsN B:=⟨E,bK,b0,bv,b4,I.turn.1,I.turn.2,I.time.1,I.time.2,b8,b9,a9,fun bw=>G (s _ bw),fun e=>G (e▸t)⟩;have cn:∀ (a0:Fn) (first ao:Array Value) (w:World),(Instr.makeFunc a0 first ao).run prog w=.ok (.func a0 first ao) w:=fun _ _ _ _=>rfl;have K:=a.lt;have bb:=aa (jdP i db f k c.turn c.time l c.fsD c.fsN B j.drew ((a5.to H).to ⟨rfl,rfl,rfl,lz,fun _ _ _=>rfl⟩));have W:=aa a;have X:=aa H;have bj:=ab R;have V:=aa E;have bz:=ap.lt E;clear a5 a H E;go_enter func134,ntmps134
 go_upto_region 1 with fail
 rw [<-u];have bg:=aa u;clear u;go_cut [7] (fun t cb=>∃ (Y:World),Y=cb/\t=.nilIface/\cO j Y i db k c.turn c.time l c.fsD c.fsN B)
 case first=>
  go_region_law (refine aO (by rfl) 154 kJ _ _ (by rfl) #[pO i 0,.int .u64 c.time,.func (.func 143) #[.map (some f)] #[]] (by simp only [List.map_toArray,List.map_cons,List.map_nil];rfl) bb.out ?_;rintro e o ⟨rfl,x⟩;refine⟨_,rfl,?_⟩;have bi:=aa x;clear x)
  all_goals (go_wp2_with fail;go_meet)
  all_goals exact⟨o,rfl,rfl,bi.out.from (w:=j) ⟨rfl,rfl,rfl,lz,fun _ _ _=>rfl⟩⟩
 case rest=>
  obtain⟨o,rfl,rfl,a7,Z,av,n,L,M,D,q,r⟩:=hcut;have cG:j.heap.size=w.heap.size+2:=by rw [bg.out];simp
  have cq:=am N;have J:∀ d,d<j.heap.size->¬(d=i\/B d)->o.heap[d]?=j.heap[d]?:=fun d m bF=>r.block d m bF;have Q:o.heap[g]?=_:=(J g (am R) (fun a=>a.elim T a8)).trans R;have cp:=K i t;have b1:=(J w.heap.size (by omega) (fun a=>a.elim (fun e=>by omega) (fun e=>by have:=K _ (s _ e);omega))).trans b2;have a6:=(J (w.heap.size+1) (by omega) (fun a=>a.elim (fun e=>by omega) (fun e=>by have:=K _ (s _ e);omega))).trans b3;have cc:=ab Q;have ch:=ag Q;have ci:=ab b1;have bk:=ab a6;have ck:=ag a6;have bd:=aa (aN L (aN M (aN D (aN q r))));have cs:¬w.heap.size=g:=by omega
  have ct:¬g=w.heap.size:=by omega
  have cv:¬w.heap.size+1=g:=by omega
  have S:¬g=w.heap.size+1:=by omega
  clear L M D q r bj J;go_wp2
  obtain⟨L,M,D,q,r⟩:=bd.out;have a2:f≠g:=ap.ne V.out N;have a3:f≠i:=fun e=>G (e▸t);have a4:¬B f:=fun e=>G (s _ e);have bo:¬n i:=fun e=>(q i e).elim a9 (fun e=>by omega);have bs:¬n f:=fun e=>(q f e).elim a4 (fun e=>by omega);have a1:¬n g:=fun e=>(q g e).elim a8 (fun e=>by omega);have bu:¬n (w.heap.size+1):=fun e=>(q _ e).elim (fun e=>by have:=K _ (s _ e);omega) (fun e=>by omega);have cR:=r.size;obtain⟨O,C⟩:∃ O,O=(((o.setCell ⟨g,4,none⟩ (.map (some f))).setCell ⟨w.heap.size+1,0,none⟩ (.int .u8 A)).setCell ⟨w.heap.size+1,1,none⟩ (.int .u64 y)).setCell ⟨w.heap.size+1,2,none⟩ (.int .u64 z):=⟨_,rfl⟩;have x:∀ d,d≠g->d≠w.heap.size+1->O.heap[d]?=o.heap[d]?:=fun d bl P=>by rw [C,ac P,ac P,ac P,ac bl]
  have b5:O.heap.size=o.heap.size:=by rw [C];simp
  refine bodyPost_ret (v:=(ot A y z)) (by simp [results,results134,go_sem,bk]) rfl ⟨rfl,?_⟩
  rw [<-C];refine⟨jeV c l a7 Z av,fun d=>d=g\/d=f\/d=i\/n d,⟨a7,Z,av,L,rfl⟩,⟨⟨f,i,n,?_,?_,M.kept (x i (fun e=>T e.symm) (by omega)),D.kept (by omega) (fun d m=>x d (fun e=>a1 (e▸m)) (fun e=>bu (e▸m))),fun d m=>ir (ir (ir m)),ir (il rfl),ir (ir (il rfl)),bo,bs,a3,a1,T,fun e=>a2 e.symm⟩,il rfl,fun d m=>?_⟩,?_,fun d m=>?_⟩
  ·rw [C,ac S,ac S,ac S];show (o.setCell ⟨g,4,none⟩ (.map (some f))).heap[g]?=some (OW U c.time c.blk f i c.adm);simpa using ai Q 4 (.map (some f))
  ·exact ap.kept V.out (((x f a2 (by omega)).trans (r.block f (by omega) (fun a=>a.elim a3 a4))).trans (X.out.block f bz (fun a=>a)))
  ·rw [b5];rcases m with a | a | a | a
   ·rw [a];omega
   ·rw [a];omega
   ·rw [a];omega
   ·exact D.lt d a
  ·have b7:ae F w o:=(X.out.mono (fun _ a _=>a.elim)).then r (fun b6 cl a=>a.elim (fun e=>e▸t) (s b6));rw [C];exact (((b7.set (il W.out.own) _ _).set (ir (by omega)) _ _).set (ir (by omega)) _ _).set (ir (by omega)) _ _
  ·rcases m with a | a | a | a
   ·exact il (a▸W.out.own)
   ·exact ir (ir a)
   ·exact il (a▸t)
   ·rcases q d a with a | a
    ·exact il (s d a)
    ·exact ir (il (by omega))
theorem qL (n:Int)(a:n=0\/n=1\/n=2)(w:World):Calls prog 216 #[.int .u64 n] w fun e w'=>e=.returned (.int .i64 n)/\w'=w:=by
 rcases a with rfl | rfl | rfl
 ·go_enter func216,ntmps216
  go_wp2
  go_ret
  exact⟨by kernel_rfl,rfl⟩
 ·go_enter func216,ntmps216
  go_wp2
  go_ret
  exact⟨by kernel_rfl,rfl⟩
 ·go_enter func216,ntmps216
  go_wp2
  go_ret
  exact⟨by kernel_rfl,rfl⟩
theorem jdY (s:ByteArray)(w:World):Calls prog 278 #[.string s] w fun e w'=>e=.returned (.bool false)/\w'=w:=by
 go_enter func278,ntmps278
 go_wp2
 go_ret
 exact⟨rfl,rfl⟩
theorem td (a b:ByteArray)(w:World):Calls prog 272 #[.string a,.string b] w fun e w'=>e=.returned (.bool (Op.bytesLess a.toList b.toList))/\w'=w:=by
 go_enter func272,ntmps272
 go_wp2_with (go_at_call 278;refine (jdY _ _).mono ?_;rintro e w' ⟨rfl,rfl⟩)
 all_goals go_ret
 all_goals exact⟨rfl,rfl⟩
theorem fT (x:Option Addr)(b c:Nat)(n:Int)(a:n=0\/n=1)(w:World):Calls prog 266 #[.slice x b c,.int .i64 0,.int .i64 n] w fun e w'=>e=.returned (.tuple #[])/\w'=w:=by
 have d:¬(1:Int)<n:=by omega
 clear a;go_enter func266,ntmps266
 go_wp2
 refine wp_loop_rounds 1 ?_
 rw [rounds_succ];go_wp2
 go_end0
 exact⟨rfl,rfl⟩
theorem mB (g c:Nat)(a b:Bool)(w:World)(h:w.cell? ⟨g,0,none⟩=some (.string (ay a)))(i:w.cell? ⟨g,1,none⟩=some (.string (ay b)))(l:w.frozen? ⟨g,0,none⟩=false)(m:w.frozen? ⟨g,1,none⟩=false) :
  Calls prog 266 #[.slice (some ⟨g,0,none⟩) 2 c,.int .i64 0,.int .i64 2] w fun e w'=>e=.returned (.tuple #[])/\((w'.cell? ⟨g,0,none⟩=some (.string (ay a))/\w'.cell? ⟨g,1,none⟩=some (.string (ay b)))\/(w'.cell? ⟨g,0,none⟩=some (.string (ay b))/\w'.cell? ⟨g,1,none⟩=some (.string (ay a))))/\ae (fun x=>x=g) w w':=by
 have d:=aa (td (ay b) (ay a));obtain⟨f,j⟩:∃ f,f=Op.bytesLess (ay b).toList (ay a).toList:=⟨_,rfl⟩;rw [<-j] at d;clear j;generalize ay a=na at *;generalize ay b=nb at *;go_enter func266,ntmps266
 go_wp2
 refine wp_loop_rounds 2 ?_
 rw [rounds_succ];go_wp2
 refine wp_loop_rounds 2 ?_
 rw [rounds_succ];go_upto_region 4 with fail
 cases f
 ·go_quiet ((go_at_call 272;refine Calls.quiet_of_same (d.out _)))
  go_wp2
  rw [rounds_succ];go_wp2
  go_end0
  exact⟨rfl,il ⟨h,i⟩,⟨rfl,rfl,rfl,lz,fun _ _ _=>rfl⟩⟩
 ·go_quiet ((go_at_call 272;refine Calls.quiet_of_same (d.out _)))
  go_wp2
  go_region
  all_goals go_wp2
  all_goals rw [rounds_succ]
  all_goals go_upto_region 4 with fail
  all_goals go_quiet (fail)
  all_goals go_wp2
  all_goals rw [rounds_succ]
  all_goals go_wp2
  all_goals go_end0
  all_goals refine⟨rfl,ir ?_,?_⟩
  all_goals first
   | (refine⟨?_,?_⟩ <;> simp [World.cell?_setCell_same,World.cell?_setCell_other,h,i])
   | (refine⟨rfl,rfl,rfl,by simp,fun o n k=>?_⟩;simp [World.drewN,ac k])
theorem pP (v:Value)(x:Option Addr)(a c:Nat)(m:v=.slice x a c)(l:a<=2)(R:World->Prop)(w:World)(f:Calls prog 266 #[v,.int .i64 0,.int .i64 a] w fun e w'=>e=.returned (.tuple #[])/\R w') :
  Calls prog 260 #[v] w fun e w'=>e=.returned (.tuple #[])/\R w':=by
 subst m;have g:=qL a (by omega);have o:IntKind.u64.wrap (a:Int)=a:=by rw [IntKind.wrap_u64];omega
 have n:(a:Int)<=12:=by omega
 have i:=aa f;have j:=aa g;clear f g l;have k:Hid (∀ h:Int,Calls prog 265 #[.slice x a c,.int .i64 0,.int .i64 a,.int .i64 h] w fun e w'=>e=.returned (.tuple #[])/\R w'):=aa (fun h=>by
   have p:IntKind.i64.wrap ((a:Int) - 0)=a:=by rw [IntKind.wrap_i64];omega
   go_enter func265,ntmps265
   go_wp2
   refine wp_loop_rounds 1 ?_
   rw [rounds_succ];go_wp2_with fail
   refine i.out.mono ?_
   rintro e w' ⟨rfl,b⟩;have d:=aa b;clear b;go_wp2
   exact bodyPost_ret (results_none rfl _ _ _) rfl ⟨rfl,d.out⟩)
 go_enter func260,ntmps260
 go_wp2_with (first | (go_at_call 265;refine (k.out _).mono ?_;rintro e w' ⟨rfl,b⟩;have d:=aa b;clear b) | (go_at_call 216;refine (j.out _).mono ?_;rintro e w' ⟨rfl,rfl⟩) | (go_at_call 264;go_in) | (go_at_call 197;go_in))
 go_end0
 go_wp2
 go_end0
 exact⟨rfl,d.out⟩
def ig (w:World)(v:Value)(bs:List Bool):Prop:=∃ b d,v=.slice b bs.length d/\(bs=[]\/∃ c,b=some ⟨c,0,none⟩/\∀ a,a<bs.length->w.cell? ⟨c,a,none⟩=some (vQ bs[a]!))
def qS (bs:List Bool):List Value:=bs.map vQ
theorem tW (base:Nat)(v:Value)(bs:List Bool)(w:World)(F:bs.length<=2)(f:w.ownsRow base 9 1 v bs.length (qS bs)) :
  Calls prog 260 #[v] w fun e w'=>e=.returned (.tuple #[])/\∃ p,p.Perm bs/\ig w' v p/\ae (fun x=>v.ownBlock=some x) w w':=by
 obtain⟨j,k,m⟩:=aw f;by_cases r:bs.length=0
 ·have B:bs=[]:=List.length_eq_zero_iff.1 r;subst B;refine (pP v j 0 k m (by omega) (fun w'=>w'=w) w (by subst m;exact fT j 0 k 0 (il rfl) w)).mono ?_
  rintro e w' ⟨rfl,rfl⟩;exact⟨rfl,[],List.Perm.refl _,⟨j,k,m,il rfl⟩,ae.refl _ _⟩
 ·obtain⟨a,c,i,b,s,l⟩:∃ a c i,v=.slice (some ⟨a,0,none⟩) bs.length c/\w.heap[a]?=some (.cells i 9 (0,0))/\i.toList.take bs.length=qS bs:=by
   rcases f.2 with ⟨_,f⟩ | ⟨z,u,i,f,_,D,_,_,_,A⟩
   ·omega
   ·exact⟨z,u,i,f,D,by simpa using A⟩
  have g:∀ d,d<bs.length->w.cell? ⟨a,d,none⟩=some (vQ bs[d]!):=fun d h=>by
   rw [ab s d,<-Array.getElem?_toList,<-List.getElem?_take_of_lt h,l];unfold qS;rw [List.getElem?_map,List.getElem!_eq_getElem?_getD,List.getElem?_eq_getElem h];rfl
  match bs,r,F,b,g,l with
  | [x],_,_,b,g,_=>
   refine (pP v (some ⟨a,0,none⟩) 1 c b (by omega) (fun w'=>w'=w) w (by rw [b];exact fT (some ⟨a,0,none⟩) 1 c 1 (ir rfl) w)).mono ?_
   rintro e w' ⟨rfl,rfl⟩;exact⟨rfl,[x],List.Perm.refl _,⟨_,c,b,ir ⟨a,rfl,g⟩⟩,ae.refl _ _⟩
  | [x,y],_,_,b,g,l=>
   have q:=ag s;have e:v.ownBlock=some a:=by rw [b];rfl
   refine (pP v (some ⟨a,0,none⟩) 2 c b (by omega) _ w (by rw [b];exact mB a c x y w (g 0 (by simp)) (g 1 (by simp)) (q 0) (q 1))).mono ?_
   rintro e w' ⟨rfl,C,E⟩;have t:ae (fun x=>v.ownBlock=some x) w w':=E.mono (fun x f _=>by rw [f];assumption);rcases C with ⟨n,o⟩ | ⟨n,o⟩
   ·refine⟨rfl,[x,y],List.Perm.refl _,⟨_,c,b,ir ⟨a,rfl,fun d h=>?_⟩⟩,t⟩
    match d,h with
    | 0,_=>exact n
    | 1,_=>exact o
   ·refine⟨rfl,[y,x],List.Perm.swap _ _ _,⟨_,c,b,ir ⟨a,rfl,fun d h=>?_⟩⟩,t⟩
    match d,h with
    | 0,_=>exact n
    | 1,_=>exact o
theorem rA (a b:Bool):(nkl a).sameKey (nkl b)=(a==b):=by cases a <;> cases b <;> rfl
theorem Tryz.infoStr:(prog.info? 9).map (fun i=>(i.zero,i.size,i.bytes))=some (some (.string ⟨#[]⟩),1,16):=by kernel_rfl
theorem undN:prog.underlying 85=some (.map 9 95):=underlying85
theorem jab:∀ (l:List Bool),l.Nodup->l.length<=2
 | [],_=>by simp
 | [_],_=>by simp
 | [_,_],_=>by simp
 | a :: b :: c :: r,h=>by cases a <;> cases b <;> cases c <;> simp at h
theorem iX (db nb:Nat)(b7 b8 b9 cb:Value)(fs:Fs)(w:World)(cl:w.heap[db]?=some (uC b7 nb b8 b9 cb))(S:ak w nb fs) :
  Calls prog 255 #[pO db 0] w fun e w'=>∃ v bs,e=.returned (.tuple #[v,.nilIface])/\(∀ b,b∈bs↔(ar b fs).isSome=true)/\bs.length<=2/\ig w' v bs/\B7 w w':=by
 obtain⟨bu,a6,bk,bl,bo⟩:=info_parts Tryz.infoStr;obtain⟨a0,G,X,T⟩:=S.map;have bi:Maps.size G<=2:=by rw [T.size];exact S.len
 have cv:=X.lt;have b4:=ab cl;have HD:=aa T;have ct:=aa bi;clear T S bi;go_enter func255,ntmps255
 go_wp2_with (first
   | (at_range;refine wpList_range_own _ rfl _ 85 rfl 9 95 dq.keyed undN _ nb a0 _ rfl X ?_;intro bv bd a5 cn)
   | go_in)
 go_frame
 have a3:B7 w bv:=(Below.refl _ w).grown a5 lz (fun av e=>by cases e);have bg:w.heap.size+1<=bv.heap.size:=by omega
 have bz:=aa a3;have b1:=aa bd;have b2:=aa bg;clear X bd a5 cn a3 bg b4;go_loopw [4] (fun v wr=>∃ (F:Lit->Bool) (L:Nat) (bs:List Bool),wr.ranges prog 9 bM nb w.heap.size a0 G F L/\wr.ownsRow (w.heap.size+1) 9 1 v bs.length (qS bs)/\(∀ b,b∈bs↔(ar b fs).isSome=true/\F (nkl b)=false)/\bs.Nodup/\B7 w wr/\w.heap.size+1<=wr.heap.size)
  (fun _ wr=>wr.rangeLeft nb w.heap.size)
 case atStart=>
  refine⟨_,_,[],b1.out,World.ownsRow_nil _ _ _ _,fun b=>?_,List.nodup_nil,bz.out,b2.out⟩
  rw [HD.out.has b trivial];cases ar b fs <;> simp
 case round=>
  obtain⟨F,L,bs,p,Y,a8,W,a4,bj⟩:=hrel;obtain⟨h,i,ch⟩:=aw Y;subst ch;have bb:=jab bs W;have c:=aa Y;have q:=aa a8;have a1:=aa W;have n:=aa a4;have a2:=aa bj;clear Y a8 W a4 bj;go_wp2_with (first
    | (at_next;refine fh (P:=prog) (kt:=9) _ dq rfl _ rfl nb w.heap.size a0 G fs HD.out F L rfl p ?_ ?_)
    | go_in)
  ·intro ck a7;have bK:=aa a7;clear a7 ck p;have b3:=aa (tW (w.heap.size+1) (.slice h bs.length i) bs wr bb c.out);go_wp2_with (go_at_call 260;refine b3.out.mono ?_;rintro e bw ⟨rfl,b6,f,a9,E⟩;have o:=aa f;have b0:=aa a9;have bF:=aa E;clear f a9 E)
   go_ret2
   refine⟨_,b6,rfl,fun b=>(o.out.mem_iff).trans ((q.out b).trans ⟨fun Q=>Q.1,fun Q=>⟨Q,bK.out _⟩⟩),by rw [o.out.length_eq];exact bb,b0.out,n.out.trans (bF.out.below n.out.size (fun av E=>?_))⟩
   have:=(aj c.out E).1;omega
  ·refine⟨?_,?_⟩
   ·intro cp cq d M f x U A y j ao V;simp only [vQ,evF] at V ⊢;have ad:d.ownsRow (w.heap.size+1) 9 1 (.slice h bs.length i) bs.length (qS bs):=aq c.out (fun O u=>j.block O (aj c.out u).2 (fun e=>by
      have R:=(aj c.out u).1;injection e with e;omega))
    have s:B7 w d:=n.out.grown j n.out.size (fun av e=>by cases e;exact lz);have C:w.heap.size+1<=d.heap.size:=by have:=a2.out;omega
    have J:=aa A;have K:=aa p;have I:=aa y;have H:=aa x;have o:=aa f;have g:=aa s;have r:=aa C;clear A p y x f s C U j ao;go_wp2_with (first
      | (at_builtin;refine wpList_append_own_at (w:=_) rfl _ _ 279 rfl (w.heap.size+1) 9 bu (.string ⟨#[]⟩) 1 16 underlying279 a6 bk bl bo rfl (by decide) (.slice h bs.length i) bs.length _ rfl (ad.alloc _) ⟨d.heap.size,0,none⟩ 1 1 [.string (ay false)] rfl rfl (cell_one_new _ _ _) (by simp [Value.oneCell']) (by unfold maxLen;omega) (by omega) (by have:=r.out;simp;omega) ?_;intro cr bw z k _ ci;obtain⟨b5,cc,N⟩:=aw z;subst N)
      | go_in)
    have Z:=c.out;have l:∀ a,(Value.slice h bs.length i).ownBlock=some a->w.heap.size+1<=a:=fun a m=>(aj Z m).1;have B:=(J.out.alloc (.cells #[.string (ay false)] 9)).kept k (fun e=>by have:=l nb e.symm;omega) (fun e=>by have:=l _ e.symm;omega);go_roundw
    case rel=>
     refine⟨_,M,bs ++ [false],B,?_,fun b=>?_,?_,(g.out.alloc g.out.size _).grown k (by have:=g.out.size;simp;omega) (fun a e=>by have:=l a e;omega),by have:=k.size;have R:=r.out;simp at this;omega⟩
     ·simpa [qS,vQ] using z
     ·rw [rA,List.mem_append,q.out b,List.mem_singleton];by_cases t:b=false
      ·subst t;simp [o.out]
      ·simp [t]
     ·refine List.nodup_append.2 ⟨a1.out,by simp,fun a m cs D=>?_⟩
      rw [List.mem_singleton] at D;subst D;intro e;subst e;have:=((q.out _).1 m).2;rw [H.out] at this;cases this
    case measure=>rw [B.left_eq,K.out.left_eq];exact I.out
   ·intro cp cq d M f x U A y j ao V;simp only [vQ,evF] at V ⊢;have ad:d.ownsRow (w.heap.size+1) 9 1 (.slice h bs.length i) bs.length (qS bs):=aq c.out (fun O u=>j.block O (aj c.out u).2 (fun e=>by
      have R:=(aj c.out u).1;injection e with e;omega))
    have s:B7 w d:=n.out.grown j n.out.size (fun av e=>by cases e;exact lz);have C:w.heap.size+1<=d.heap.size:=by have:=a2.out;omega
    have J:=aa A;have K:=aa p;have I:=aa y;have H:=aa x;have o:=aa f;have g:=aa s;have r:=aa C;clear A p y x f s C U j ao;go_wp2_with (first
      | (at_builtin;refine wpList_append_own_at (w:=_) rfl _ _ 279 rfl (w.heap.size+1) 9 bu (.string ⟨#[]⟩) 1 16 underlying279 a6 bk bl bo rfl (by decide) (.slice h bs.length i) bs.length _ rfl (ad.alloc _) ⟨d.heap.size,0,none⟩ 1 1 [.string (ay true)] rfl rfl (cell_one_new _ _ _) (by simp [Value.oneCell']) (by unfold maxLen;omega) (by omega) (by have:=r.out;simp;omega) ?_;intro cr bw z k _ ci;obtain⟨b5,cc,N⟩:=aw z;subst N)
      | go_in)
    have Z:=c.out;have l:∀ a,(Value.slice h bs.length i).ownBlock=some a->w.heap.size+1<=a:=fun a m=>(aj Z m).1;have B:=(J.out.alloc (.cells #[.string (ay true)] 9)).kept k (fun e=>by have:=l nb e.symm;omega) (fun e=>by have:=l _ e.symm;omega);go_roundw
    case rel=>
     refine⟨_,M,bs ++ [true],B,?_,fun b=>?_,?_,(g.out.alloc g.out.size _).grown k (by have:=g.out.size;simp;omega) (fun a e=>by have:=l a e;omega),by have:=k.size;have R:=r.out;simp at this;omega⟩
     ·simpa [qS,vQ] using z
     ·rw [rA,List.mem_append,q.out b,List.mem_singleton];by_cases t:b=true
      ·subst t;simp [o.out]
      ·simp [t]
     ·refine List.nodup_append.2 ⟨a1.out,by simp,fun a m cs D=>?_⟩
      rw [List.mem_singleton] at D;subst D;intro e;subst e;have:=((q.out _).1 m).2;rw [H.out] at this;cases this
    case measure=>rw [B.left_eq,K.out.left_eq];exact I.out
namespace Con
def ren:Go.Shelf.Ren:=⟨fun a=>if a=29 then 167 else 146,fun a=>if a=0 then 0 else if a=3 then 3 else if a=4 then 4 else if a=22 then 279 else 9,fun a=>a⟩
theorem lays:SlLaysE.n31 prog ren where
 mixed:=by first | exact Tryz.mixed | kernel_rfl | decide
 f29:=⟨Tryz.f167.name,by kernel_rfl,by kernel_rfl⟩
 f31:=⟨Tryz.f146.name,by kernel_rfl,by kernel_rfl⟩
 t0:=by first | exact underlying0 | kernel_rfl
 a0:=by first | exact isAgg0 | (intro a;kernel_rfl)
 z0:=by first | exact sizeOf0 | (intro a;kernel_rfl)
 v0:=by first | exact Tryz.zeroValue0 | (intro a;kernel_rfl)
 t3:=by first | exact underlying3 | kernel_rfl
 a3:=by first | exact isAgg3 | (intro a;kernel_rfl)
 z3:=by first | exact sizeOf3 | (intro a;kernel_rfl)
 v3:=by first | exact Tryz.zeroValue3 | (intro a;kernel_rfl)
 t4:=by first | exact underlying4 | kernel_rfl
 a4:=by first | exact isAgg4 | (intro a;kernel_rfl)
 z4:=by first | exact sizeOf4 | (intro a;kernel_rfl)
 v4:=by first | exact Tryz.zeroValue4 | (intro a;kernel_rfl)
 t22:=by first | exact underlying279 | kernel_rfl
 a22:=by first | exact isAgg279 | (intro a;kernel_rfl)
 z22:=by first | exact sizeOf279 | (intro a;kernel_rfl)
 v22:=by first | exact Tryz.zeroValue279 | (intro a;kernel_rfl)
 a23:=by first | exact isAgg9 | (intro a;kernel_rfl)
 z23:=by first | exact sizeOf9 | (intro a;kernel_rfl)
theorem eql:EqlAt prog 9 vQ (fun x y:Bool=>x==y):=by
 have b:=EqlAt.string prog 9;refine⟨fun x y a=>?_,fun e c d x y a=>b.2 e c d (ay x) (ay y) a⟩
 have:=b.1 (ay x) (ay y) a;refine this.trans ?_
 cases x <;> cases y <;> kernel_rfl
end Con
theorem eO (v:Value)(bs:List Bool)(x:Bool)(w:World)(a:ig w v bs)(i:bs.length<=2) :
  Calls prog 146 #[v,.string (ay x)] w fun e w'=>e=.returned (.bool (bs.any fun y=>x==y))/\w'=w:=by
 obtain⟨c,b,rfl,a⟩:=a;rcases a with rfl | ⟨d,rfl,f⟩
 ·exact AnyE.slices_Contains_empty (P:=prog) (ρ:=Con.ren) Con.lays c b (.string (ay x)) w
 ·have:=AnyE.slices_Contains (P:=prog) (ρ:=Con.ren) Con.lays vQ (fun x y:Bool=>x==y) Con.eql d 0 bs.length b bs x w lz (by omega) (fun h g=>by rw [Nat.zero_add];exact f h g);rw [List.take_length] at this;exact this
theorem eT (a:Value)(w:World):(Go.method 510 78 a "Names").run prog w=.ok (255,a) w:=by kernel_rfl
end Go.Proofs.YtnlgndpcddngoaaGreatDoor
