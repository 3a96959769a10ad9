import Derived.Test.YtlcnkcgmjnfbiaaGreatDoorZ38
set_option linter.all false
set_option maxRecDepth 100000
namespace Go.Proofs.YtlcnkcgmjnfbiaaGreatDoor
open Go.Proofs.Tryz
open Go.ChangeShapes Go.WideShapes Go.ChangeAt Go.RowKit Go.Joins
variable [dK] [iK]
def Wok {H:Type}(t:TypeId)(d:DataW H):Prop:=∀ a,a∈d.weights prog t->a<=reachBytes
theorem wall_mem {H:Type}{P:Program}{e:TypeId}{d:DataW H}:∀ {l:List (DataW H)},d∈l->∀ x,x∈d.weights P e->x∈DataW.weightsAll P e l
 | y :: r,a,x,hx=>by
  simp only [DataW.weightsAll,List.mem_append];rcases List.mem_cons.1 a with rfl | a
  ·exact il hx
  ·exact ir (wall_mem a x hx)
theorem Wok.elem {H:Type}{t e:TypeId}{l i:List (DataW H)}(f:prog.underlying t=some (.slice e))(b:Wok t (.slice l i)){d:DataW H}(c:d∈l):Wok e d:=fun a g=>b a (by
  simp only [DataW.weights,f,List.mem_cons,List.mem_append];exact ir (il (wall_mem c a g)))
theorem Wok.len {H:Type}{t e:TypeId}{l a:List (DataW H)}(c:prog.underlying t=some (.slice e))(b:Wok t (.slice l a)):(l.length+a.length) * prog.bytesOf e<=reachBytes:=b _ (by
  simp [DataW.weights,c])
theorem Tryz.bytesQ:prog.bytesOf 41=48:=by kernel_rfl
theorem Tryz.bytesS:1<=prog.bytesOf 46:=of_decide_eq_true (by kernel_rfl)
theorem reach_val:reachBytes=140737488351232:=by unfold reachBytes;rfl
theorem reqs_ofw {H:Type}{enc:TypeId×Value->H}{i:World}{base C:Nat}{Q:Nat->Bool}{J:Bool}{c:Value}{x:DataW H×List MemPlace}(K:DataW.trod enc prog i base Q J C 22 [c]=some x)(A:Wok 22 x.1) :
  ∃ o:List Rq,gS i c o/\(∀ q∈o,q.ok)/\o.length * 48<=reachBytes:=by
 rcases Deep.open_slice underlying22 K with ⟨j,_⟩ | ⟨g,d,r,P,X,R,S,j,U,M,V,N,O,w⟩
 ·simp at j;subst j;exact⟨[],⟨none,0,rfl,by simp,fun k=>(by simp at k)⟩,fun q l=>(by cases l),by simp⟩
 ·simp at j;subst j;have W:d<=P:=by rw [N];split <;> omega
  rw [Tryz.cells28] at w;have G:d * 48<=reachBytes:=by
   rw [O] at A;have:=A.len underlying22;rw [Tryz.bytesQ] at this;simp at this;omega
  have s:∀ a,a<d->∃ q:Rq,q.ok/\i.cells? base (g.add (a * 13)) 13=some (rqcl q):=by
   intro a b;obtain⟨T,t,E⟩:=w a (by omega);obtain⟨q,F,rfl⟩:=jfE (World.cells?_some t).2.1 E;exact⟨q,F.1,t⟩
  rcases Nat.eq_zero_or_pos d with D | y
  ·subst D;exact⟨[],⟨some g,r,rfl,by simp,fun k=>(by simp at k)⟩,fun q l=>(by cases l),by simp⟩
  ·have I:∃ f:Nat->Rq,∀ a,a<d->(f a).ok/\i.cells? base (g.add (a * 13)) 13=some (rqcl (f a)):=by
    refine⟨fun a=>if k:a<d then (s a k).choose else Rq.zero,fun a b=>?_⟩
    dsimp only;rw [dif_pos b];exact (s a b).choose_spec
   obtain⟨f,m⟩:=I;have u:∀ a,a<d->∀ e,e<13->i.cell? ((g.add (a * 13)).add e)=(rqcl (f a))[e]?:=fun a b e n=>(World.cells?_some (m a b).2).2.2 e n;have z:g.spot=none:=by
    have:=u 0 y 0 (by omega);exact World.cell?_spot (v:=.int .u8 (f 0).op) (by simpa [Addr.add] using this)
   obtain⟨p,B,Y⟩:=g;simp at z;subst z;refine⟨(List.range d).map f,⟨some ⟨p,B,none⟩,r,by simp,by simpa using M,fun _=>⟨p,B,rfl,World.cells?_block (m 0 y).2 (by omega),fun a b e n=>?_⟩⟩,fun q l=>?_,by simpa using G⟩
   ·have L:a<d:=by simpa using b
    have:=u a L e n;rw [Deep.add_add,Addr.add_lit] at this;rw [Nat.add_assoc,this];simp
   ·obtain⟨a,b,rfl⟩:=List.mem_map.1 l;exact (m a (List.mem_range.1 b)).1
theorem step_ofw {H:Type}{enc:TypeId×Value->H}{f:World}{base T:Nat}{bj:Nat->Bool}{U:Bool}{e:List Value}{x:DataW H×List MemPlace}
  (W:e.length=10) (V:DataW.trod enc prog f base bj U T 46 e=some x) (av:Wok 46 x.1):∃ (p:Sp) (v:Value),p.ok/\p.qs.length * 48<=reachBytes/\p.raw.size<=reachBytes/\e=pP p v/\gS f v p.qs:=by
 obtain⟨A,B,C,g,D,E,F,G,I,J,rfl⟩:=jfq W;obtain⟨bk,bl,bo,w,y,bs,bu,bv,bw,bz,bF,a0,_,k,l,m,n,o,q,r,s,t,u⟩:=mF underlying46 V;simp only [Tryz.cells3',Tryz.cells9',Tryz.cells28',Tryz.cells24] at k l m n o q r s t u;obtain⟨a2,rfl,_,_⟩:=iv (c:=A) k;obtain⟨K,rfl,L,M⟩:=iv (c:=B) l;obtain⟨a7,rfl,a8,a9⟩:=pM (c:=C) m;have j:∀ a,a∈DataW.weightsEach prog [3,3,24,22,9,3,3,3,3,3] [bk.1,bl.1,bo.1,w.1,y.1,bs.1,bu.1,bv.1,bw.1,bz.1]->a<=reachBytes:=fun a b=>av a (by rw [a0];simp only [DataW.weights,underlying46];exact b);have ao:Wok 22 w.1:=fun a b=>j a (by simp only [DataW.weightsEach,List.mem_append];exact ir (ir (ir (il b))));have i:Wok 9 y.1:=fun a b=>j a (by simp only [DataW.weightsEach,List.mem_append];exact ir (ir (ir (ir (il b)))));obtain⟨bi,X,Y,Z⟩:=reqs_ofw (c:=g) n ao;obtain⟨d,ad,a1,_⟩:=DataW.trod_string underlying9 o;obtain rfl:D=.string d:=by simpa using ad
 obtain⟨N,rfl,O,P⟩:=iv (c:=E) q;obtain⟨a4,rfl,a5,a6⟩:=iv (c:=F) r;obtain⟨Q,rfl,R,S⟩:=iv (c:=G) s;obtain⟨a3,rfl,_,_⟩:=iv (c:=I) t;obtain⟨bb,rfl,bd,bg⟩:=iv (c:=J) u;have z:d.size<=reachBytes:=by
  rw [a1] at i;have:=i d.data.toList.length (by simp [DataW.weights]);simpa using this
 exact⟨⟨a2,K,a7,bi,d,N,a4,Q,a3,bb⟩,g,⟨⟨L,M⟩,⟨a8,a9⟩,⟨O,P⟩,⟨bd,bg⟩,Y,⟨a5,a6⟩,⟨R,S⟩⟩,Z,z,rfl,X⟩
theorem open_stepsw {H:Type}{enc:TypeId×Value->H}{c:World}{av:Reach}{N base:Nat}{L:Nat->Bool}{G:Bool}{v:Value}{d:DataW H}{K:List MemPlace}
  (ao:Value.okWide prog c av N 58 v) (r:DataW.Trod enc prog c base L G 58 v d K) (y:Wok 58 d):∃ B n m,v=.slice B n m/\n<=m/\n<=reachBytes/\∃ s:List Sp,s.length=n/\(∀ p∈s,p.ok/\p.qs.length * 48<=reachBytes/\p.raw.size<=reachBytes)/\
   (0<n->∃ l o,B=some ⟨l,o,none⟩/\l<c.heap.size/\∀ i (r:i<s.length),∃ v,(∀ x,x<10->c.cell? ⟨l,o+i * 10+x,none⟩=(pP s[i] v)[x]?)/\gS c v s[i].qs):=by
 obtain⟨M,a,m,rfl⟩:=okWide_slice underlying58 ao;obtain⟨O,W⟩:=r;have X:DataW.trod enc prog c base L G O 58 [.slice M a m]=some (d,K):=by simpa [Value.cells] using W
 rcases Deep.open_slice underlying58 X with ⟨q,_⟩ | ⟨j,a6,a1,A,n,w,a0,q,a3,Z,a4,ad,z,F⟩
 ·simp at q;obtain⟨rfl,rfl,rfl⟩:=q;exact⟨none,0,0,rfl,by omega,Nat.zero_le _,[],rfl,fun p k=>(by cases k),fun r=>(by omega)⟩
 ·simp at q;obtain⟨rfl,rfl,rfl⟩:=q;have a5:a<=A:=by rw [ad];split <;> omega
  rw [Tryz.cells62] at F;have V:d=.slice ((List.range a).map w) ((List.range (A - a)).map fun f=>w (a+f)):=congrArg Prod.fst z;rw [V] at y;have T:a<=reachBytes:=by
   have:=y.len underlying58;have t:=Tryz.bytesS;simp at this;have D:a * 1<=(a+(A - a)) * prog.bytesOf 46:=Nat.mul_le_mul (Nat.le_add_right _ _) t;omega
  have C:∀ i,i<a->∃ g:Sp×Value,(g.1.ok/\g.1.qs.length * 48<=reachBytes/\g.1.raw.size<=reachBytes)/\gS c g.2 g.1.qs/\c.cells? base (j.add (i * 10)) 10=some (pP g.1 g.2):=by
   intro i e;obtain⟨a2,t,D⟩:=F i (by omega);obtain⟨p,v,P,Q,R,rfl,S⟩:=step_ofw (World.cells?_some t).2.1 D (y.elem (d:=w i) underlying58 (List.mem_map.2 ⟨i,List.mem_range.2 e,rfl⟩));exact⟨(p,v),⟨P,Q,R⟩,S,t⟩
  refine⟨some j,a,m,rfl,Z,T,?_⟩
  have U:∃ b:Nat->Sp×Value,∀ i,i<a->((b i).1.ok/\(b i).1.qs.length * 48<=reachBytes/\(b i).1.raw.size<=reachBytes)/\gS c (b i).2 (b i).1.qs/\c.cells? base (j.add (i * 10)) 10=some (pP (b i).1 (b i).2):=by
   refine⟨fun i=>if r:i<a then (C i r).choose else (⟨0,0,0,[],ByteArray.empty,0,0,0,0,0⟩,.slice none 0 0),fun i e=>?_⟩
   dsimp only;rw [dif_pos e];exact (C i e).choose_spec
  obtain⟨b,u⟩:=U;refine⟨(List.range a).map (fun i=>(b i).1),by simp,fun p k=>?_,fun k=>?_⟩
  ·obtain⟨i,e,rfl⟩:=List.mem_map.1 k;exact (u i (List.mem_range.1 e)).1
  ·have E:∀ i,i<a->∀ f,f<10->c.cell? ((j.add (i * 10)).add f)=(pP (b i).1 (b i).2)[f]?:=fun i e f Y=>(World.cells?_some (u i e).2.2).2.2 f Y;have J:j.spot=none:=by
    have:=E 0 k 0 (by omega);exact World.cell?_spot (v:=.int .i64 (b 0).1.kind) (by simpa [Addr.add] using this)
   obtain⟨l,o,a7⟩:=j;simp at J;subst J;refine⟨l,o,rfl,World.cells?_block (u 0 k).2.2 (by omega),fun i e=>?_⟩
   have I:i<a:=by simpa using e
   refine⟨(b i).2,fun x z=>?_,?_⟩
   ·have:=E i I x z;rw [Deep.add_add,Addr.add_lit] at this;rw [Nat.add_assoc,this];simp
   ·have:=(u i I).2.1;simpa using this
end Go.Proofs.YtlcnkcgmjnfbiaaGreatDoor
