import Derived.Test.YtlcnkcgmjnfbiaaGreatDoorZ37
import Derived.Deep.RegionHeld3
set_option linter.all false
set_option maxRecDepth 100000
set_option maxHeartbeats 16000000
namespace Go.Proofs.YtlcnkcgmjnfbiaaGreatDoor
open Go.Proofs.Tryz Go.RowKit Go.Maps
variable [dK] [iK]
theorem JX.kept {base:Nat}{blk:Int}{c e:Nat}{w w':World}(n:JX base blk c e w)(d:B7 w w'):JX base blk c e w':=by
 obtain⟨b,nb,z,j,t,kc,x,B,y,u,A,i,g,m,v,l,k,f,o,q,a,r,s⟩:=n;exact⟨b,nb,z,j,t,kc,x,B,y,u,A,i,g,m,v,l,k,f,o,q,a.kept d,r,(d.cell (p:=⟨b,5,none⟩) (a.host.hs.lt b a.host.hd)).trans s⟩
theorem KX.kept {base:Nat}{blk:Int}{e f:Nat}{w w':World}(a:KX base blk e f w)(b:B7 w w'):KX base blk e f w':=by
 obtain⟨x,m,r,kc,v,t,s,u,l,i,k,j,n,g,o,p,d,q⟩:=a;exact⟨x,m,r,kc,v,t,s,u,l,i,k,j,n,g,iO o b,p,d.kept b.size (fun c a=>b.block c (d.low c a).2),q⟩
theorem JX.wb {base:Nat}{blk:Int}{c a:Nat}{w:World}(e:JX base blk c a w):base<=w.heap.size/\a<w.heap.size/\w.cell? ⟨a,0,none⟩=some (.pointer (some ⟨c,0,none⟩)):=by
 obtain⟨n,nb,z,j,s,kc,x,B,y,u,A,i,g,m,v,l,k,f,o,p,b,q,r⟩:=e;obtain⟨t,⟨_,_,_,d,_⟩,_⟩:=b.law.blk;exact⟨b.law.bs,an d,ab d 0⟩
theorem jdO {base:Nat}{blk:Int}{d x:Nat}{n X:World}(a:JX base blk d x n)(D:B7 n X)(F u:Int)(Z:-9223372036854775808<=u)(ad:u<=9223372036854775807) :
  Calls prog 26 #[pO d 0,.int .i64 F,.int .i64 u] X fun e w'=>e=.returned (.tuple #[])/\KX base blk d x w'/\Below base X w'/\(∀ b,n.heap.size<=b->b<X.heap.size->w'.heap[b]?=X.heap[b]?)/\w'.cell? ⟨x,0,none⟩=some (.pointer (some ⟨d,0,none⟩)):=by
 obtain⟨f,nb,bg,H,W,kc,a9,a0,ao,Y,av,w,l,q,t,o,I,G,O,P,m,z,A⟩:=a;have c:=m.kept D;have B:X.cell? ⟨f,5,none⟩=some (.bool false):=(D.cell (p:=⟨f,5,none⟩) (m.host.hs.lt f m.host.hd)).trans A;refine (jdH d blk w base (HG d f l q t o) F u X (c.host.up B) c.law.bs Z ad).mono ?_
 rintro e w' ⟨rfl,j⟩;obtain⟨v,k,i,g,K,L,M,r,N⟩:∃ v k i g,bR v w' d blk k i base g/\base<=v.heap.size/\DnX blk w k i/\ae (HG d f l q t o) X w'/\∀ b,g b->HG d f l q t o b\/X.heap.size<=b:=by
  rcases j with ⟨J,j⟩ | ⟨i,g,j,U,s,T⟩
  ·have s:ae (HG d f l q t o) X w':=by
    obtain⟨a3,a1,C,a7,a2,bb,bd,O,P,z,A,B,a4,a5,Q⟩:=j;exact Q.mono (fun b a _=>a.elim (fun a=>a▸C.1) (fun a=>a▸C.2.1))
   exact⟨X,_,_,_,j,c.law.bs,il ⟨J,rfl,rfl⟩,s,fun b a=>il a⟩
  ·exact⟨w',_,i,g,j,lq c.law.bs s.size,ir ⟨rfl,U⟩,s,T⟩
 have E:=c.law.kept r.size (fun b a=>r.block b (c.law.low b a).2 (c.dis b a));obtain⟨a8,⟨_,_,_,V,_⟩,_⟩:=E.blk;refine⟨rfl,⟨v,H,W,kc,a0,ao,Y,av,w,k,i,g,I,G,K,L,E,M,z.1,fun b a R=>?_⟩,r.below c.law.bs (fun b a=>c.host.lo b a),fun b a6 S=>r.block b S (fun a=>by have:=m.host.lt b a;omega),ab V 0⟩
 rcases N b R with y | y
 ·exact c.dis b a y
 ·have:=(c.law.low b a).2;omega
def rlM (b:List Sp)(i:Nat):Nat:=((b[i]?).map (fun a=>a.qs.length)).getD 0
def rsM (b:List Sp)(i:Nat):Nat:=((b[i]?).map (fun a=>a.raw.size)).getD 0
theorem tB (a:List Sp)(i:Nat)(b:i<a.length):rlM a i=a[i].qs.length:=by unfold rlM;rw [List.getElem?_eq_getElem b];rfl
theorem tF (a:List Sp)(i:Nat)(b:i<a.length):rsM a i=a[i].raw.size:=by unfold rsM;rw [List.getElem?_eq_getElem b];rfl
theorem vO (a rs:Nat->Nat):∀ (n i:Nat),i<n->26 * a i+rs i<=lY a rs n
 | n+1,i,h=>by
  unfold lY;rcases Nat.lt_or_ge i n with b | b
  ·have:=vO a rs n i b;omega
  ·have c:i=n:=by omega
   subst c;omega
structure Sp.ok (p:Sp):Prop where
 conn:-9223372036854775808<=p.conn/\p.conn<=9223372036854775807
 now:U7 p.now
 cut:-9223372036854775808<=p.cut/\p.cut<=9223372036854775807
 part:-9223372036854775808<=p.part/\p.part<=9223372036854775807
 qs:∀ q∈p.qs,q.ok
 left:-9223372036854775808<=p.left/\p.left<=9223372036854775807
 full:-9223372036854775808<=p.full/\p.full<=9223372036854775807
theorem sim0:gT 0 ⟨0,0,[]⟩ ⟨0,[]⟩:=⟨rfl,trivial,⟨by decide,by decide,fun c a=>(by cases a),fun c a=>(by cases a),List.nodup_nil,by decide⟩,⟨by decide,by decide,fun d b=>(by cases b)⟩⟩
theorem jfZ {w f j:World}{i db nb r o g:Nat}{q:Option Nat}{blk:Int}{v:Value}{s:Nat->Nat}{k:NP}(H:cM f i db nb r q blk ⟨0,true⟩ ⟨0,0,[]⟩ k w.heap.size (.slice none 0 0) 0 (fun _=>0) (fun _=>⟨[],false⟩))(O:w.heap.size<=f.heap.size)(l:World)(D:g=f.heap.size)(P:o=f.heap.size+1)(m:l=(f.alloc (uZ)).alloc (Oe i g blk))
  (c:OpI l o (fun v=>#[pO i 0,.pointer (some ⟨g,0,none⟩),v,.int .u64 blk,.bool false,.bool false,.int .u8 0,.int .u8 0,.int .u8 0,.int .u8 0,.int .u8 0,.int .u8 0,.int .u8 0,.int .u8 0,.int .u8 0,.int .u8 0,.int .u64 0,.int .u64 0,.int .u64 0,.int .u64 0,.int .u64 0,.int .u64 0,.int .u64 0]) 3 v s j):∃ n kc,dD j w.heap.size i db nb r o g n kc q blk s (fun _=>.slice none 0 0) (.slice none 0 0) false ⟨⟨0,0,[]⟩,⟨0,true⟩,none,bu 0⟩ k (.slice none 0 0) 0 (fun _=>0) (fun _=>⟨[],false⟩) ⟨⟨0,0,[]⟩,⟨0,true⟩,none,bu 0⟩ ⟨0,[]⟩ (fun _=>⟨[],false⟩):=by
 have K:l.heap.size=f.heap.size+2:=by rw [m];simp
 obtain⟨n,kc,p,L,M⟩:=c.own.form (by decide);have B:∀ b,b<f.heap.size->j.heap[b]?=f.heap[b]?:=fun b C=>(c.keep.block b (by omega) (by omega)).trans (by rw [m];exact (ah _ _ (by rw [World.size_alloc];omega)).trans (ah _ _ C));have E:j.heap[g]?=some (uZ):=(c.keep.block g (by omega) (by omega)).trans (by rw [m,D];exact (ah _ _ (by rw [World.size_alloc];omega)).trans (ag _ _));have N:=c.keep.size;have G:∀ b,HG i db k (.slice none 0 0) 0 (fun _=>0) b->b<f.heap.size:=fun b a=>H.lt b a;refine⟨n,kc,⟨(H.kept (by omega) B).x,⟨⟨0,⟨⟨0,0,0,0,0,0,0,0,0,0,0,0,0⟩,0,0,by have:=c.blk;rw [p] at this;exact this,fun S a=>by cases a⟩,Int.le_refl _⟩,⟨E,World.ownsRow_nil _ _ _ _⟩,sim0,Int.le_refl _,?_,fun e d=>(c.st e d).1,fun e d=>il ⟨rfl,il rfl⟩,c.inj,fun e d a=>absurd rfl a,⟨by omega,by omega,fun e d=>by have:=(c.st e d).2;omega⟩,fun e d=>⟨fun R I=>(by cases I),by simp,fun _=>rfl⟩,by omega⟩,fun b a x=>?_,fun b a Q F=>absurd F (Nat.not_lt_zero _)⟩⟩
 ·have a:=c.own;rw [p] at a;refine⟨a.1,?_⟩
  rcases a.2 with a | ⟨A,t,u,y,J,z⟩
  ·exact il a
  ·exact ir ⟨A,t,u,y,by omega,z⟩
 ·have:=G b x;rcases a with a | a | a | a | ⟨e,d,a⟩ | ⟨e,d,a,_⟩
  ·omega
  ·omega
  ·omega
  ·simp [Value.ownBlock] at a
  ·have:=(c.st e d).2;omega
  ·exact a rfl
structure jeL (base:Nat)(blk:Int)(w:World)(ks:List Int)(J K:Nat->Nat->World->Prop):Prop where
 j0:∀ hb db nb sb wb bb kb kc mb tb F0 w5,dD w5 base hb db nb sb wb bb kb kc mb blk tb (fun _=>.slice none 0 0) (.slice none 0 0) false ⟨⟨0,0,[]⟩,⟨0,true⟩,none,bu 0⟩ F0 (.slice none 0 0) 0 (fun _=>0) (fun _=>⟨[],false⟩) ⟨⟨0,0,[]⟩,⟨0,true⟩,none,bu 0⟩ ⟨0,[]⟩ (fun _=>⟨[],false⟩)->Below base w w5->J hb wb w5
 js:∀ hb wb X X',J hb wb X->Below X.heap.size X X'->J hb wb X'
 jb:∀ hb wb X,J hb wb X->base<=X.heap.size/\wb<X.heap.size/\X.cell? ⟨wb,0,none⟩=some (.pointer (some ⟨hb,0,none⟩))
 ks_:∀ hb wb X X',K hb wb X->Below X.heap.size X X'->K hb wb X'
 one:1∈ks->∀ hb wb X (p:Sp) v,J hb wb X->gS X v p.qs->p.ok->p.qs.length<=1000->p.raw.size<=20000->Calls prog 11 #[pO wb 0,Ox p.kind p.conn p.now v p.raw p.cut p.left p.full p.kept p.part,.bool false] X fun e w'=>e=.returned (.bool true)/\J hb wb w'/\Below base X w'
 two:2∈ks->∀ hb wb X (p:Sp) v,J hb wb X->gS X v p.qs->p.ok->p.qs.length<=1000->p.raw.size<=20000->Calls prog 11 #[pO wb 0,Ox p.kind p.conn p.now v p.raw p.cut p.left p.full p.kept p.part,.bool true] X fun e w'=>e=.returned (.bool true)/\J hb wb w'/\Below base X w'
 lose:3∈ks->∀ hb wb Y X (p:Sp),J hb wb Y->Below Y.heap.size Y X->p.ok->bq p.part 2=0->Calls prog 26 #[pO hb 0,.int .i64 p.kept,.int .i64 p.part] X fun e w'=>e=.returned (.tuple #[])/\K hb wb w'/\Below base X w'/\(∀ b,Y.heap.size<=b->b<X.heap.size->w'.heap[b]?=X.heap[b]?)/\w'.cell? ⟨wb,0,none⟩=some (.pointer (some ⟨hb,0,none⟩))
 agk:3∈ks->∀ hb wb X (p:Sp) v,K hb wb X->p.ok->bq p.part 2=0->Calls prog 33 #[pO wb 0,Ox p.kind p.conn p.now v p.raw p.cut p.left p.full p.kept p.part] X fun e w'=>e=.returned (.bool true)/\J hb wb w'/\Below base X w'
 agj:3∈ks->∀ hb wb X (p:Sp) v,J hb wb X->p.ok->bq p.part 2=1->Calls prog 33 #[pO wb 0,Ox p.kind p.conn p.now v p.raw p.cut p.left p.full p.kept p.part] X fun e w'=>e=.returned (.bool true)/\J hb wb w'/\Below base X w'
end Go.Proofs.YtlcnkcgmjnfbiaaGreatDoor
namespace Go.Proofs.YtlcnkcgmjnfbiaaGreatDoor
open Go.Proofs.Tryz
open Go.ChangeShapes Go.WideShapes Go.ChangeAt Go.RowKit Go.Joins
variable [dK] [iK]
theorem mF {H:Type}{enc:TypeId×Value->H}{P:Program}{w:World}{base:Nat}{c:Nat->Bool}{b:Bool}{t:TypeId}{e f g i j k l m o p:Field}{D:Nat}{a:List Value}{x:DataW H×List MemPlace}(I:P.underlying t=some (.struct #[e,f,g,i,j,k,l,m,o,p]))(E:DataW.trod enc P w base c b D t a=some x) :
  ∃ q r s u v y z A B C n,x.1=.agg [q.1,r.1,s.1,u.1,v.1,y.1,z.1,A.1,B.1,C.1]/\a.length=P.cellsOf t/\
   DataW.trod enc P w base c b n e.type ((a.drop e.offset).take (P.cellsOf e.type))=some q/\DataW.trod enc P w base c b n f.type ((a.drop f.offset).take (P.cellsOf f.type))=some r/\
   DataW.trod enc P w base c b n g.type ((a.drop g.offset).take (P.cellsOf g.type))=some s/\DataW.trod enc P w base c b n i.type ((a.drop i.offset).take (P.cellsOf i.type))=some u/\
   DataW.trod enc P w base c b n j.type ((a.drop j.offset).take (P.cellsOf j.type))=some v/\DataW.trod enc P w base c b n k.type ((a.drop k.offset).take (P.cellsOf k.type))=some y/\
   DataW.trod enc P w base c b n l.type ((a.drop l.offset).take (P.cellsOf l.type))=some z/\DataW.trod enc P w base c b n m.type ((a.drop m.offset).take (P.cellsOf m.type))=some A/\
   DataW.trod enc P w base c b n o.type ((a.drop o.offset).take (P.cellsOf o.type))=some B/\DataW.trod enc P w base c b n p.type ((a.drop p.offset).take (P.cellsOf p.type))=some C:=by
 obtain⟨J,n,_,rfl,F,G,d⟩:=DataW.trod_struct I E;match J,G with
 | [q,r,s,u,v,y,z,A,B,C],_=>exact⟨q,r,s,u,v,y,z,A,B,C,n,by simp,F,by simpa using d 0 e rfl,by simpa using d 1 f rfl,by simpa using d 2 g rfl,by simpa using d 3 i rfl,by simpa using d 4 j rfl,by simpa using d 5 k rfl,by simpa using d 6 l rfl,by simpa using d 7 m rfl,by simpa using d 8 o rfl,by simpa using d 9 p rfl⟩
theorem Tryz.cells62:prog.cellsOf 46=10:=by kernel_rfl
theorem Tryz.cells3':prog.cellsOf 3=1:=by kernel_rfl
theorem Tryz.cells9':prog.cellsOf 9=1:=by kernel_rfl
theorem Tryz.cells28':prog.cellsOf 22=1:=by kernel_rfl
theorem iv {H:Type}{enc:TypeId×Value->H}{d:World}{base n:Nat}{i:Nat->Bool}{g:Bool}{c:Value}{x:DataW H×List MemPlace}(e:DataW.trod enc prog d base i g n 3 [c]=some x):∃ a,c=.int .i64 a/\-9223372036854775808<=a/\a<=9223372036854775807:=by
 obtain⟨a,b,_,j⟩:=DataW.trod_int underlying3 e;have f:=bounds_i64 j;simp at b;exact⟨a,b,f.1,by omega⟩
theorem jfq {l:List Value}(m:l.length=10):∃ a b c d e f g i j k,l=[a,b,c,d,e,f,g,i,j,k]:=by
 match l,m with
 | [a,b,c,d,e,f,g,i,j,k],_=>exact⟨a,b,c,d,e,f,g,i,j,k,rfl⟩
end Go.Proofs.YtlcnkcgmjnfbiaaGreatDoor
namespace Go.Proofs.YtlcnkcgmjnfbiaaGreatDoor
open Go.Proofs.Tryz Go.RowKit Go.Maps
variable [dK] [iK]
abbrev mi (w:World):Prop:=w.cell? ⟨0,0,none⟩=some (.iface 236 (.agg #[.pointer (some ⟨5,93,none⟩)]))
theorem bH {base:Nat}{w w':World}(a:mi w)(b:0<base)(c:Below base w w'):mi w':=(c.cell (p:=⟨0,0,none⟩) b).trans a
def AgC (base:Nat)(blk:Int):Prop:=∀ (d c:Nat) (b:World) (a:Sp) (g:Value),(KX base blk d c b\/JX base blk d c b/\bq a.part 2=1)->mi b->a.ok->Calls prog 33 #[pO c 0,Ox a.kind a.conn a.now g a.raw a.cut a.left a.full a.kept a.part] b fun f e=>f=.returned (.bool true)/\JX base blk d c e/\Below base b e
theorem jf2 (base:Nat)(blk:Int)(w:World)(i:0<base)(J:mi w)(n:AgC base blk):jeL base blk w [1,2,3] (fun c d w=>JX base blk c d w/\mi w) (fun c d w=>KX base blk c d w/\mi w) where
 j0:=fun c z nb C d y B kc K D x L p H=>by
  obtain⟨Y,Z,W,S,I⟩:=aU.dsk (p.host.hs:aU z blk ⟨0,true⟩ (bu 0) L 0 C ⟨0,0,[]⟩ x);exact⟨⟨z,nb,C,y,B,kc,K,D,_,_,false,_,x,_,0,_,_,_,by omega,fun _ _=>rfl,p,⟨⟨p.law.sim.lok,Int.le_refl _⟩,fun a=>absurd rfl a,il rfl⟩,(ab I 5).trans rfl⟩,bH J i H⟩
 js:=fun c d f E a k=>⟨a.1.kept k,bH a.2 (ll i a.1.wb.1) k⟩
 jb:=fun c d f a=>a.1.wb
 ks_:=fun c d f E a k=>by
  refine⟨a.1.kept k,bH a.2 (ll i ?_) k⟩
  obtain⟨av,y,B,kc,D,ad,X,ao,f,N,P,O,R,M,T,U,G,V⟩:=a.1;exact G.bs
 one:=fun _ c d f g l a t b r u=>by
  refine (vj base c d blk g l false f a.1 t r b.qs u b.conn.1 b.conn.2 b.now.1 b.now.2 b.cut.1 b.cut.2 b.left b.full b.part (aa (fun v q k=>n c d v g l (il q) (bH a.2 i k) b))).mono ?_
  rintro m o ⟨rfl,j,e⟩;exact⟨rfl,⟨j,bH a.2 i e⟩,e⟩
 two:=fun _ c d f g l a t b r u=>by
  refine (vj base c d blk g l true f a.1 t r b.qs u b.conn.1 b.conn.2 b.now.1 b.now.2 b.cut.1 b.cut.2 b.left b.full b.part (aa (fun v q k=>n c d v g l (il q) (bH a.2 i k) b))).mono ?_
  rintro m o ⟨rfl,j,e⟩;exact⟨rfl,⟨j,bH a.2 i e⟩,e⟩
 lose:=fun _ c d Q f g a A b s=>by
  refine (jdO a.1 A g.kept g.part b.part.1 b.part.2).mono ?_
  rintro m o ⟨rfl,j,e,F⟩;exact⟨rfl,⟨j,bH (bH a.2 (ll i a.1.wb.1) A) i e⟩,e,F⟩
 agk:=fun _ c d f g l a b s=>by
  refine (n c d f g l (il a.1) a.2 b).mono ?_
  rintro m o ⟨rfl,j,e⟩;exact⟨rfl,⟨j,bH a.2 i e⟩,e⟩
 agj:=fun _ c d f g l a b s=>by
  refine (n c d f g l (ir ⟨a.1,s⟩) a.2 b).mono ?_
  rintro m o ⟨rfl,j,e⟩;exact⟨rfl,⟨j,bH a.2 i e⟩,e⟩
end Go.Proofs.YtlcnkcgmjnfbiaaGreatDoor
