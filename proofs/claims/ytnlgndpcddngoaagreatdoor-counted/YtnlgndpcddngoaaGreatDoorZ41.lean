import Derived.Test.YtnlgndpcddngoaaGreatDoorZ39
import Derived.Test.YtnlgndpcddngoaaGreatDoorZ40
import Derived.Test.YtnlgndpcddngoaaGreatDoorZ43
set_option linter.all false
set_option maxRecDepth 100000
namespace Go.Proofs.YtnlgndpcddngoaaGreatDoor
open Go.Proofs.Tryz Go.RowKit Go.Maps
variable [dK] [iK]
theorem ja0 (j g:Nat)(m n o r s t:Value)(i:Rq)(f k blk T:Int)(l:Ln)(c a b:Int)(d:World)(z:U7 f)(H:d.heap[j]?=some (oT m g n blk o i f k r s))(y:d.heap[g]?=some (ur t T))(q:l.ok)(u:U7 T)(v:U7 a)(w:0<=blk)(x:gY true i f k blk T l a b) :
  Calls prog 62 #[pO j 0,oC l,ot c a b] d fun e w'=>e=.returned (.bool true)/\B7 d w':=by
 rcases q.kd with ⟨p,_⟩ | ⟨p,_⟩
 ·exact ja1 j g m n o r s t i f k blk T l c a b d z H y q u v w x p
 ·by_cases A:l.in_=b
  ·exact ja2 j g m n o r s t i f k blk T l c a b d z H y q u v w x p A
  ·exact ja3 j g m n o r s t i f k blk T l c a b d z H y q u v w x p A
def fO (e:Bool)(d a:Nat)(b c:Value)(g:Rq)(i j:Int)(f:Value)(blk least:Int):Obj:=(Ol d a b blk c e g i j least f)
def RP (d a:Nat)(c:Value)(b:Nat):Prop:=b=d\/b=a\/c.ownBlock=some b
def RQ (g a c f:Nat)(e d:Value)(b:Nat):Prop:=RP g a e b\/b=c\/d.ownBlock=some b\/b=f
def StG (c:Bool)(d:Rq)(e f blk T:Int)(l:Ln)(a b:Int):Prop:=match c with
 | true=>gY true d e f blk T l a b
 | false=>iI blk T l a b
theorem jeC (g:Bool)(j x f:Nat)(o p w k:Value)(m:Rq)(i n blk least T:Int)(l:Ln)(c a b:Int)(d:World)(y:g=true->U7 i)(H:d.heap[j]?=some (fO g x f o p m i n w blk least))(v:d.heap[f]?=some (ur k T))(t:l.ok)(q:U7 T)(r:U7 a)(s:0<=blk)(u:StG g m i n blk T l a b) :
  Calls prog 62 #[pO j 0,oC l,ot c a b] d fun e w'=>e=.returned (.bool true)/\B7 d w':=by
 cases g with
 | false=>exact jcV j f k blk T l c a b d ⟨(ab H 1).trans rfl,(ab H 3).trans rfl,(ab H 5).trans rfl,v⟩ t q r s u
 | true=>exact ja0 j f _ o p _ w k m i n blk T l c a b d (y rfl) H v t q r s u
structure Rcv (hg:Bool)(q0:Rq)(wa wi blk:Int)(L:Ld)(B K:Bk):Prop where
 df:(hg && (q0.op==1))=true->q0.ok/\((aZ q0.key L.ks=none/\K=B)\/((∃ z,aZ q0.key L.ks=some z)/\bB ⟨L.time,B.ls⟩ q0=(⟨L.time,K.ls⟩,⟨1,0,0⟩)/\bB B q0=(K,⟨1,0,0⟩)))
 ne:(hg && (q0.op==1))=false->K=B
 po:∀ l∈K.ls,match aZ l.k L.ks with
  | some z=>StG hg q0 wa wi blk L.time l (aG z L.time).lv (aG z L.time).wn
  | none=>hg=true/\q0.op=4/\q0.key=l.k/\q0.ok
 no:∀ k,du k K.ls=none->aZ k L.ks=none
 nd:(K.ls.map Ln.k).Nodup
 ko:∀ l∈K.ls,l.k.ok
 ok:K.ok
 wa:hg=true->U7 wa
theorem jbi {B:Bk}{q:Rq}{a:Nat}(c:q.op=4)(b:du q.key B.ls=some a):bB B q=(⟨B.time,B.ls.eraseIdx a⟩,⟨1,0,0⟩):=by
 unfold bB;rw [if_neg (by omega),if_neg (by omega),if_neg (by omega),b];dsimp only;rw [if_neg (by omega),if_pos c]
theorem pK {T:Int}(g:U7 T){ks:List (Ky×Qt)}(i:∀ p∈ks,p.2.ok){d:List Ln}(j:∀ l∈d,l.ok):∀ l∈bZ T ks d,l.ok:=fun l e=>by
 obtain⟨c,f,a⟩:=List.mem_filterMap.1 e;cases b:aZ c.k ks with
 | none=>rw [b] at a;cases a
 | some k=>
  rw [b] at a;injection a with a;rw [<-a];rw [fS] at b;exact jfv g (i _ (aR b)) (j c f)
theorem jel {T:Int}(d:U7 T){ks:List (Ky×Qt)}(e:∀ p∈ks,p.2.ok){c:List Ln}(b:∀ l∈c,l.ok)(i:Nat):∀ l∈dU T ks c i,l.ok:=fun l a=>by
 rcases List.mem_append.1 a with a | a
 ·exact pK d e (fun l a=>b l (List.mem_of_mem_take a)) l a
 ·exact b l (List.mem_of_mem_drop a)
structure Rv (w wr:World)(wb hb bb base cb kb rb:Nat)(l0 lv lk:Value)(o:Obj)(blk:Int)(D:Dx)(L:Ld)(B K:Bk)(Bh:Nat)(G0 G:NP):Prop where
 nv:Nv w wr hb blk D L Bh G0 (RP wb bb l0) G (RQ wb bb cb rb lv lk)
 bk:an wr bb base lv B
 ks:an wr cb kb lk K
 wo:wr.heap[wb]?=some o
 ro:∃ x y z,wr.heap[rb]?=some (oI x y z)
 nw:(w.heap.size<=cb/\w.heap.size<=rb/\wb<w.heap.size/\bb<w.heap.size/\wb≠bb)/\∀ b,lk.ownBlock=some b->w.heap.size<=b
 nl:∀ b,lv.ownBlock=some b->l0.ownBlock=some b\/w.heap.size<=b
 df:∀ b,lv.ownBlock=some b->lk.ownBlock=some b->False
 nb:∀ b,lv.ownBlock=some b->b≠wb
theorem Rv.kept {w X:World}{c l d base f t e:Nat}{q i g:Value}{o:Obj}{blk:Int}{D:Dx}{L:Ld}{B s:Bk}{j:Nat}{k G:NP}(a:Rv w X c l d base f t e q i g o blk D L B s j k G){X':World}{r:NP}(n:Nv w X' l blk D L j k (RP c d q) r (RQ c d f e i g))(u:∀ b,RQ c d f e i g b->X'.heap[b]?=X.heap[b]?):Rv w X' c l d base f t e q i g o blk D L B s j k r:=by
 obtain⟨x,y,z,v⟩:=a.ro;exact⟨n,a.bk.kept (fun p m=>u p (il (ir m))),a.ks.kept (fun p m=>u p (ir (m.elim il (fun a=>ir (il a))))),(u c (il (il rfl))).trans a.wo,⟨x,y,z,(u e (ir (ir (ir rfl)))).trans v⟩,a.nw,a.nl,a.df,a.nb⟩
theorem Rv.below {w X:World}{q i f base g k p:Nat}{l n m:Value}{o:Obj}{blk:Int}{D:Dx}{L:Ld}{B d:Bk}{b:Nat}{c G:NP}(a:Rv w X q i f base g k p l n m o blk D L B d b c G){X':World}(j:B7 X X'):Rv w X' q i f base g k p l n m o blk D L B d b c G:=
 a.kept (a.nv.below j) (fun e r=>j.block e (a.nv.q e r).1)
theorem Rv.asked {w X:World}{q d g base i k p:Nat}{l n m:Value}{o:Obj}{blk:Int}{D:Dx}{L:Ld}{B f:Bk}{a:Nat}{e G:NP}(j:Rv w X q d g base i k p l n m o blk D L B f a e G){X':World}{c:NP}(r:bx X' d blk D L a c)(s:ae G X X')(t:∀ b,c b->G b\/X.heap.size<=b):Rv w X' q d g base i k p l n m o blk D L B f a e c:=by
 obtain⟨u,v⟩:=j.nv.asked r s t;exact j.kept u v
theorem Rv.re {w X:World}{n y p base j z d:Nat}{A m l:Value}{o:Obj}{blk:Int}{D:Dx}{L:Ld}{B x:Bk}{u:Nat}{v G:NP}(e:Rv w X n y p base j z d A m l o blk D L B x u v G)(c a b:Int):∃ Z,Z=((X.setCell ⟨d,0,none⟩ (.int .u8 c)).setCell ⟨d,1,none⟩ (.int .u64 a)).setCell ⟨d,2,none⟩ (.int .u64 b)/\Rv w Z n y p base j z d A m l o blk D L B x u v G/\Z.heap[d]?=some (oI c a b)/\ae (fun c=>c=d) X Z:=by
 obtain⟨O,P,Q,k⟩:=e.ro;obtain⟨Z,q⟩:∃ Z,Z=((X.setCell ⟨d,0,none⟩ (.int .u8 c)).setCell ⟨d,1,none⟩ (.int .u64 a)).setCell ⟨d,2,none⟩ (.int .u64 b):=⟨_,rfl⟩;have s:ae (fun c=>c=d) X Z:=q▸ae.set (S:=fun c=>c=d) (b:=d) (ae.set (S:=fun c=>c=d) (b:=d) (ae.set (S:=fun c=>c=d) (b:=d) (ae.refl _ X) (il rfl) _ _) (il rfl) _ _) (il rfl) _ _;have C:Z.heap[d]?=some (oI c a b):=by rw [q];simpa using ai (ai (ai k 0 (.int .u8 c)) 1 (.int .u64 a)) 2 (.int .u64 b)
 have t:∀ b,RQ n p j d m l b->b≠d->Z.heap[b]?=X.heap[b]?:=fun b J I=>s.block b (e.nv.q b J).1 I;have K:∀ b,m.ownBlock=some b->b≠d:=fun b r=>ax e.bk.ho r k (by decide);have M:∀ b,l.ownBlock=some b->b≠d:=fun b r=>ax e.ks.ho r k (by decide);have N:j≠d:=fun E=>by
  have:=e.ks.hb;rw [E,k] at this;simp at this
 have F:=e.nw.1;refine⟨Z,q,⟨e.nv.wrote s (fun c H=>by rw [H];exact⟨ir (ir (ir rfl)),ir F.2.1⟩),e.bk.kept (fun i g=>t i (il (ir g)) ?_),e.ks.kept (fun i g=>t i (ir (g.elim il (fun e=>ir (il e)))) ?_),(t n (il (il rfl)) (by omega)).trans e.wo,⟨_,_,_,C⟩,e.nw,e.nl,e.df,e.nb⟩,C,s⟩
 ·rcases g with f | f
  ·omega
  ·exact K i f
 ·rcases g with f | f
  ·rw [f];exact N
  ·exact M i f
theorem Rv.bk' {w X:World}{l z f base m C r:Nat}{E p F:Value}{o:Obj}{blk:Int}{D:Dx}{L:Ld}{B v:Bk}{t:Nat}{u G:NP}(c:Rv w X l z f base m C r E p F o blk D L B v t u G){X':World}{q:Value}{s:Bk}(k:ae (fun b=>b=f\/p.ownBlock=some b) X X')(x:an X' f base q s)(j:∀ g,q.ownBlock=some g->p.ownBlock=some g\/X.heap.size<=g):Rv w X' l z f base m C r E q F o blk D L s v t u G:=by
 obtain⟨M,N,O,n⟩:=c.ro;have P:=c.nv.kp.size;have I:=c.nw.1;have e:=c.nv.wrote k (fun b i=>by
   rcases i with a | a
   · exact⟨il (ir (il a)),il (ir (il a))⟩
   · exact⟨il (ir (ir a)),(c.nl b a).imp (fun c=>ir (ir c)) id⟩)
 have Q:m≠f:=by omega
 refine⟨⟨e.hst,e.kp,e.gg,e.bs,fun b K=>?_⟩,x,c.ks.kept (fun g A=>k.block g ?_ ?_),(k.block l (am c.wo) (fun a=>a.elim I.2.2.2.2 (fun a=>c.nb l a rfl))).trans c.wo,⟨M,N,O,(k.block r (am n) (fun a=>a.elim (fun a=>by omega) (fun a=>ax c.bk.ho a n (by decide) rfl))).trans n⟩,c.nw,fun b i=>?_,fun b H y=>?_,fun b i=>?_⟩
 ·rcases K with (a | a | a) | a
  ·exact e.q b (il (il a))
  ·exact e.q b (il (ir (il a)))
  ·rcases j b a with d | d
   ·exact e.q b (il (ir (ir d)))
   ·exact⟨(aj x.ho a).2,fun J=>by have:=c.nv.hst.lt b J;omega⟩
  ·exact e.q b (ir a)
 ·rcases A with a | a
  ·rw [a];exact am c.ks.hb
  ·exact (aj c.ks.ho a).2
 ·intro a;rcases A with d | d
  ·rcases a with a | a
   ·omega
   ·exact ax c.bk.ho a (d▸c.ks.hb) (by decide) rfl
  ·rcases a with a | a
   ·have:=c.nw.2 g d;omega
   ·exact c.df g a d
 ·rcases j b i with d | d
  ·exact c.nl b d
  ·exact ir (by omega)
 ·rcases j b H with d | d
  ·exact c.df b d y
  ·have:=(aj c.ks.ho y).2;omega
 ·rcases j b i with d | d
  ·exact c.nb b d
  ·have:=am c.wo;omega
theorem Rv.ks' {w X:World}{l z x base f p j:Nat}{C E q:Value}{o:Obj}{blk:Int}{D:Dx}{L:Ld}{B F:Bk}{s:Nat}{t G:NP}(c:Rv w X l z x base f p j C E q o blk D L B F s t G){X':World}{r:Value}{u:Bk}(k:ae (fun b=>b=f\/q.ownBlock=some b) X X')(v:an X' f p r u)(n:∀ g,r.ownBlock=some g->q.ownBlock=some g\/X.heap.size<=g):Rv w X' l z x base f p j C E r o blk D L B u s t G:=by
 obtain⟨O,P,Q,i⟩:=c.ro;have R:=c.nv.kp.size;have J:=c.nw.1;have e:=c.nv.wrote k (fun b m=>by
   rcases m with a | a
   · exact⟨ir (il a),ir (by omega)⟩
   · exact⟨ir (ir (il a)),ir (c.nw.2 b a)⟩)
 have N:j≠f:=fun H=>by
  have:=c.ks.hb;rw [<-H,i] at this;simp at this
 refine⟨⟨e.hst,e.kp,e.gg,e.bs,fun b M=>?_⟩,c.bk.kept (fun g A=>k.block g ?_ ?_),v,(k.block l (am c.wo) (fun a=>a.elim (fun a=>by omega) (fun a=>by have:=c.nw.2 l a;omega))).trans c.wo,⟨O,P,Q,(k.block j (am i) (fun a=>a.elim N (fun a=>ax c.ks.ho a i (by decide) rfl))).trans i⟩,⟨J,fun b m=>?_⟩,c.nl,fun b y I=>?_,c.nb⟩
 ·rcases M with a | a | a | a
  ·exact e.q b (il a)
  ·exact e.q b (ir (il a))
  ·rcases n b a with d | d
   ·exact e.q b (ir (ir (il d)))
   ·exact⟨(aj v.ho a).2,fun K=>by have:=c.nv.hst.lt b K;omega⟩
  ·exact e.q b (ir (ir (ir a)))
 ·rcases A with a | a
  ·rw [a];exact am c.bk.hb
  ·exact (aj c.bk.ho a).2
 ·intro a;rcases A with d | d
  ·rcases a with a | a
   ·omega
   ·have:=c.nw.2 g a;omega
  ·rcases a with a | a
   ·exact ax c.bk.ho d (a▸c.ks.hb) (by decide) rfl
   ·exact c.df g d a
 ·rcases n b m with d | d
  ·exact c.nw.2 b d
  ·omega
 ·rcases n b I with d | d
  ·exact c.df b y d
  ·have:=(aj c.bk.ho y).2;omega
theorem iI.g {blk T:Int}{l:Ln}{a b:Int}(c:iI blk T l a b)(d:Bool)(e:Rq)(f g:Int):StG d e f g blk T l a b:=by
 cases d
 ·exact c
 ·exact c.h e f g
theorem mN.mem {blk T:Int}{ks:List (Ky×Qt)}{e:List Ln}(a:mN blk T ks e)(g:(ks.map Prod.fst).Nodup){l:Ln}(f:l∈e):∃ z,aZ l.k ks=some z/\iI blk T l (aG z T).lv (aG z T).wn:=by
 obtain⟨c,b,rfl⟩:=List.mem_iff_getElem.1 f;have d:c<ks.length:=by rw [a.len];exact b
 exact⟨_,a.some_ g c d b,(a.at c d b).2⟩
theorem vH {k:Ky}:∀ {c:List Ln},du k c=none->∀ l∈c,l.k≠k
 | [],_,l,h=>by cases h
 | a :: r,h,l,hl=>by
  unfold du at h;by_cases b:a.k=k
  ·rw [if_pos b] at h;cases h
  ·rw [if_neg b] at h;rcases List.mem_cons.1 hl with rfl | d
   ·exact b
   ·exact vH (by simpa using h) l d
theorem pz {k:Ky}:∀ {ks:List (Ky×Qt)},(∀ p∈ks,p.1≠k)->aZ k ks=none
 | [],_=>rfl
 | (k',z) :: r,h=>by
  unfold aZ;rw [if_neg (h (k',z) (by simp))];exact pz (fun p a=>h p (List.mem_cons_of_mem _ a))
theorem Pw.keys {blk T:Int}{b:Bool}:∀ {ks a:List (Ky×Qt)},Pw blk b T ks a->a.map Prod.fst=ks.map Prod.fst
 | [],[],_=>rfl
 | (k,z) :: r,(k',z') :: r',h=>by simp only [List.map_cons];rw [h.1,Pw.keys h.2.2.2.2]
 | [],_ :: _,h=>h.elim
 | _ :: _,[],h=>h.elim
theorem Pw.fnd_ {blk T:Int}{d:Bool}{k:Ky}{z:Qt}:∀ {ks c:List (Ky×Qt)},Pw blk d T ks c->aZ k ks=some z->∃ z',aZ k c=some z'/\gL blk z z'/\(z'.kd=2->z'.wn<=T / z'.y)
 | [],[],_,h=>by simp [aZ] at h
 | (k1,z1) :: r,(k2,z2) :: r',h,hf=>by
  have b:=h.1;unfold aZ at hf ⊢;by_cases a:k1=k
  ·rw [if_pos a] at hf;cases hf
   rw [if_pos (by rw [b];exact a)];exact⟨z2,rfl,h.2.1,h.2.2.1⟩
  ·rw [if_neg a] at hf;rw [if_neg (by rw [b];exact a)];exact Pw.fnd_ h.2.2.2.2 hf
 | [],_ :: _,h,_=>h.elim
 | _ :: _,[],h,_=>h.elim
theorem iB {blk d j a:Int}{q:Bool}{ks b:List (Ky×Qt)}{c:List Ln}(f:bq j d ks c)(g:∀ p∈ks,p.2.ok)(m:d<=a)(i:Pw blk q a ks b)(o:(b.map Prod.fst).Nodup):mN blk a b c/\bq a a b (bZ a b c):=by
 have e:=tt m f g i;refine⟨e,?_⟩
 rw [rn a b b c e.len (fun n k l=>e.some_ o n k l)];exact qN f g i
theorem jd (T:Int)(ks:List (Ky×Qt))(a b:List Ln):bZ T ks (a ++ b)=bZ T ks a ++ bZ T ks b:=by
 unfold bZ;rw [List.filterMap_append]
theorem tH {T:Int}{ks:List (Ky×Qt)}{a:List Ln}{i:Nat}{l:Ln}(c:a[i]?=some l)(d:aZ l.k ks=none):bZ T ks (a.eraseIdx i)=bZ T ks a:=by
 obtain⟨e,rfl⟩:=List.getElem?_eq_some_iff.1 c;have b:a=a.take i ++ a[i] :: a.drop (i+1):=by rw [<-List.drop_eq_getElem_cons e,List.take_append_drop]
 rw [List.eraseIdx_eq_take_drop_succ];conv=>rhs;rw [b]
 rw [jd,jd];congr 1
 unfold bZ;rw [List.filterMap_cons,d];rfl
theorem jcH {T:Int}{ks:List (Ky×Qt)}{a:List Ln}{i:Nat}{l l':Ln}(j:a[i]?=some l)(b:l'.k=l.k)(e:l'.kd=l.kd)(f:l'.x=l.x)(g:l'.y=l.y):bZ T ks (a.set i l')=bZ T ks a:=by
 obtain⟨c,rfl⟩:=List.getElem?_eq_some_iff.1 j;have d:a=a.take i ++ a[i] :: a.drop (i+1):=by rw [<-List.drop_eq_getElem_cons c,List.take_append_drop]
 rw [List.set_eq_take_append_cons_drop,if_pos c];conv=>rhs;rw [d]
 rw [jd,jd];congr 1
 unfold bZ;rw [List.filterMap_cons,List.filterMap_cons,b];cases aZ a[i].k ks with
 | none=>rfl
 | some k=>
  simp only [Option.map_some,lnR];rw [b,e,f,g]
theorem eJ.st {a:Es}(b:eJ a):((stands a).map Prod.fst).Nodup/\(∀ p∈stands a,p.1.ok)/\(∀ p∈stands a,p.2.ok)/\(stands a).length<=12:=by
 refine⟨by rw [lU];exact b.nd,fun p c=>?_,fun p c=>?_,by rw [dF];exact b.len⟩
 ·obtain⟨e,d,rfl⟩:=List.mem_map.1 c;exact b.key e d
 ·obtain⟨e,d,rfl⟩:=List.mem_map.1 c;exact b.qt e d
theorem kn {f:Bool}{c:Rq}{m q blk d s:Int}{E:Bool}{ks:List (Ky×Qt)}{B b:Bk}{a:Ld}(x:bq s d ks b.ls)(A:∀ p∈ks,p.2.ok)(F:∀ p∈ks,p.1.ok)(v:d<=a.time)(C:Pw blk E a.time ks a.ks)(e:a.ok)(k:b.ok)
  (w:(f && (c.op==1))=true->c.ok/\((aZ c.key a.ks=none/\b=B)\/((∃ z,aZ c.key a.ks=some z)/\bB ⟨a.time,B.ls⟩ c=(⟨a.time,b.ls⟩,⟨1,0,0⟩)/\bB B c=(b,⟨1,0,0⟩)))) (y:(f && (c.op==1))=false->b=B) (D:f=true->U7 m) :
  Rcv f c m q blk a B b/\gT a.time a ⟨a.time,bZ a.time a.ks b.ls⟩:=by
 obtain⟨g,r⟩:=iB x A v C e.nd;have n:a.ks.map Prod.fst=b.ls.map Ln.k:=g.keys;refine⟨⟨w,y,fun o l=>?_,fun G t=>g.none_ t,n▸e.nd,fun o l=>?_,k,D⟩,rfl,r,e,e.time,lq (lN _ _ _) k.len,pK e.time e.qt k.ln⟩
 ·obtain⟨z,i,j⟩:=g.mem e.nd l;rw [i];exact j.g f c m q
 ·have i:o.k∈a.ks.map Prod.fst:=by rw [n];exact List.mem_map_of_mem l
  obtain⟨p,j,u⟩:=List.mem_map.1 i;rw [<-u];exact e.key p j
theorem jfD {blk:Int}{X:Xs}{D:Dx}{ad c:Ld}{B:Bk}{bj:Rq}{H L:Int}(d:gT X.D.t X.L B)(bd:(X.ill=none/\D=X.D/\ad=X.L)\/(D=⟨X.D.t,false⟩/\Vir blk X ad))(R:Rc blk D ad c)(r:c.ok)(b9:HgOk X.ill bj H L)(b5:0<=blk):∃ M,Rcv X.ill.isSome bj H L blk c B M/\gT c.time c ⟨c.time,bZ c.time c.ks M.ls⟩:=by
 have F:X.D.t<=c.time:=by
  have:=R.dt;rcases bd with ⟨_,rfl,_⟩ | ⟨rfl,_⟩
  ·exact this
  ·exact this
 rcases bd with ⟨j,_,rfl⟩ | ⟨_,a,cw,y,cy,cU,a8,z,m,b3⟩
 ·rw [j];exact⟨B,kn d.lines d.lok.qt d.lok.key F R.pw r d.bok (fun b=>by cases b) (fun _=>rfl) (fun b=>by cases b)⟩
 obtain⟨rfl,a1,cn⟩:=b9 a a8;have Y:U7 H:=by
  by_cases v:a.q.op=2
  ·obtain⟨p,bo,_,I,_⟩:=m.v.a v;rw [(a1 v).1];exact I.lv
  ·rw [cn v];simp
 rw [a8];rcases b3 with rfl | rfl
 ·refine⟨B,kn d.lines d.lok.qt d.lok.key F R.pw r d.bok (fun b=>?_) (fun _=>rfl) (fun _=>Y)⟩
  have u:a.q.op=1:=by simpa using b
  refine⟨m.v.q,il ⟨?_,rfl⟩⟩
  have f:aZ a.q.key X.L.ks=none:=by rw [<-z,bD,(m.v.d u).2.1];rfl
  have A:=tt F d.lines d.lok.qt R.pw;cases n:du a.q.key B.ls with
  | none=>exact A.none_ n
  | some o=>
   obtain⟨p,e,g⟩:=dM _ d.lines n;rw [g.f] at f;cases f
 have b8:=m.eo.vir (blk:=blk) m.v;obtain⟨bk,ct,T,cV⟩:=b8.st;have t:Pw blk D.z c.time (stands (fk a blk y)) c.ks:=R.pw;by_cases u:a.q.op=1
 ·obtain⟨bz,bF,bK⟩:=m.v.d u;have x:stands (fk a blk y)=X.L.ks ++ [(a.q.key,⟨a.q.kd,a.q.x,a.q.y,0,0⟩)]:=by
   unfold fk;rw [if_pos u,kC,z]
  have f:aZ a.q.key X.L.ks=none:=by rw [<-z,bD,bF];rfl
  have cb:du a.q.key B.ls=none:=by
   cases n:du a.q.key B.ls with
   | none=>rfl
   | some o=>
    obtain⟨p,e,g⟩:=dM _ d.lines n;rw [g.f] at f;cases f
  have cz:B.ls.length<12:=by rw [<-d.lines.len,<-z,dF];exact bK
  have a6:∀ Z,bB ⟨Z,B.ls⟩ a.q=(⟨Z,B.ls ++ [⟨a.q.key,a.q.kd,a.q.x,a.q.y,0,0⟩]⟩,⟨1,0,0⟩):=fun Z=>by
   unfold bB;rw [if_pos u,if_neg (fun b=>b bz)];dsimp only;rw [cb,if_neg (by simp),if_neg (by omega)]
  have cp:=d.bok.time;have b6:0<=B.time / a.q.y:=by
   have:=m.v.q.y.1;exact Int.ediv_nonneg cp.1 this
  have ch:bq B.time X.D.t (stands (fk a blk y)) (B.ls ++ [⟨a.q.key,a.q.kd,a.q.x,a.q.y,0,0⟩]):=by
   rw [x];exact bq.app (l:=⟨a.q.key,a.q.kd,a.q.x,a.q.y,0,0⟩) ⟨rfl,rfl,rfl,fun _=>⟨rfl,rfl⟩,fun _=>⟨il ⟨rfl,rfl⟩,b6⟩⟩ d.lines
  have bb:=vj B a.q d.bok m.v.q;have a4:bB B a.q=(⟨B.time,B.ls ++ [⟨a.q.key,a.q.kd,a.q.x,a.q.y,0,0⟩]⟩,⟨1,0,0⟩):=a6 B.time;rw [a4] at bb;refine⟨⟨B.time,B.ls ++ [⟨a.q.key,a.q.kd,a.q.x,a.q.y,0,0⟩]⟩,kn ch T ct F t r bb (fun _=>⟨m.v.q,ir ⟨?_,a6 _,a4⟩⟩) (fun b=>?_) (fun _=>Y)⟩
  ·have V:aZ a.q.key (stands (fk a blk y))=some ⟨a.q.kd,a.q.x,a.q.y,0,0⟩:=by
    rw [fS];refine aV bk ?_
    rw [x];simp
   obtain⟨bl,E,_⟩:=t.fnd_ V;exact⟨bl,E⟩
  ·rw [u] at b;cases b
 have bi:(true && (a.q.op==1))=false:=by simpa using u
 have a5:∀ (G:List Ln),mN blk c.time c.ks G->bq c.time c.time c.ks (bZ c.time c.ks G)->bZ c.time c.ks B.ls=bZ c.time c.ks G->(∀ e∈G,∃ s∈B.ls,s.k=e.k)->(∀ e∈B.ls,e∈G\/(match aZ e.k c.ks with | some p=>StG true a.q H L blk c.time e (aG p c.time).lv (aG p c.time).wn | none=>true=true/\a.q.op=4/\a.q.key=e.k/\a.q.ok))->∃ M,Rcv true a.q H L blk c B M/\gT c.time c ⟨c.time,bZ c.time c.ks M.ls⟩:=fun G A N b0 b1 b2=>by
  refine⟨B,⟨(fun b=>by rw [bi] at b;cases b),fun _=>rfl,fun e ck=>?_,fun cG b=>?_,d.nd,d.kok,d.bok,fun _=>Y⟩,rfl,by rw [b0];exact N,r,r.time,lq (lN _ _ _) d.bok.len,pK r.time r.qt d.bok.ln⟩
  ·rcases b2 e ck with b | b
   ·obtain⟨p,j,f⟩:=A.mem r.nd b;rw [j];exact f.g true a.q H L
   ·exact b
  ·refine pz (fun a2 a0 w=>?_)
   have j:a2.1∈G.map Ln.k:=by rw [<-A.keys];exact List.mem_map_of_mem a0
   obtain⟨e,f,E⟩:=List.mem_map.1 j;obtain⟨s,O,J⟩:=b1 e f;exact vH b s O (J.trans (E.trans w))
 by_cases S:a.q.op=4
 ·have x:stands (fk a blk y)=del a.q.key X.L.ks:=by
   unfold fk;rw [if_neg u,if_pos S,iq,z]
  obtain⟨o,n⟩:∃ o,du a.q.key B.ls=some o:=by
   cases n:du a.q.key B.ls with
   | some o=>exact⟨o,rfl⟩
   | none=>
    have j:=gx _ d.lines n;rw [<-z,bD] at j;have f:=m.v.r S;cases V:ar a.q.key y with
    | none=>rw [V] at f;cases f
    | some cX=>rw [V] at j;cases j
  obtain⟨p,e,g⟩:=dM _ d.lines n;rw [x] at t T;obtain⟨A,N⟩:=iB g.del T F t r.nd;have a9:aZ a.q.key c.ks=none:=pz (fun a2 a0 w=>by
    have j:a2.1∈(del a.q.key X.L.ks).map Prod.fst:=by rw [<-t.keys];exact List.mem_map_of_mem a0
    obtain⟨cR,f,E⟩:=List.mem_map.1 j;have O:=iP (k:=a.q.key) d.lok.nd;have J:=aV (x▸bk) f;rw [<-fS,E,w,O] at J;cases J)
  obtain⟨a7,Q⟩:=List.getElem?_eq_some_iff.1 g.g;refine a5 _ A N (tH g.g (by rw [g.hk];exact a9)).symm (fun s b=>⟨s,List.mem_of_mem_eraseIdx b,rfl⟩) (fun s b=>?_)
  by_cases i:s.k=a.q.key
  ·right
   rw [i,a9];exact⟨rfl,S,rfl,m.v.q⟩
  ·left
   obtain⟨K,P,rfl⟩:=List.mem_iff_getElem.1 b;exact List.mem_eraseIdx_iff_getElem.2 ⟨K,P,fun w=>i (by subst w;rw [Q];exact g.hk),rfl⟩
 by_cases v:a.q.op=2
 ·obtain⟨p,bo,U,I,ao,bs,a3,bu,bv,cx,bw⟩:=m.v.a v;have cs:(ar a.q.key y).isSome=true:=by rw [U];rfl
  have x:stands (fk a blk y)=jH a.q.key a.zq X.L.ks:=by
   unfold fk;rw [if_neg u,if_neg S,if_pos v,bf cs,eH,z]
  have av:aZ a.q.key X.L.ks=some p:=by rw [<-z,bD,U];rfl
  obtain⟨o,n⟩:∃ o,du a.q.key B.ls=some o:=by
   cases n:du a.q.key B.ls with
   | some o=>exact⟨o,rfl⟩
   | none=>
    have j:=gx _ d.lines n;rw [av] at j;cases j
  have b4:B.time<=B.time+a.zq.wn * a.zq.y:=by
   have:=Int.mul_nonneg I.wn.1 I.y.1;omega
  obtain⟨cv,cr,C⟩:=dM _ d.lines n;obtain⟨c0,e,g⟩:=dM _ (bq.mono b4 d.lok.qt d.lines) n;obtain rfl:e=cr:=by have:=g.g;rw [C.g] at this;exact (Option.some.inj this).symm
  obtain rfl:p=cv:=by have:=C.f;rw [av] at this;exact Option.some.inj this
  have cq:p.ok:=m.eo.qt _ (aR U);obtain⟨Z,_,b7⟩:=m.a;have W:gL blk p bo:=b7.res _ (aR U);have bg:a.zq.kd=1->a.zq.wn=0:=fun i=>by
   rw [bw i,W.wn];exact (C.rel.s (ao▸i)).2
  have ci:cd (B.time+a.zq.wn * a.zq.y) X.D.t a.zq ⟨e.k,e.kd,e.x,e.y,a.zq.lv,a.zq.wn⟩:=by
   refine⟨ao.trans C.rel.kd,bs.trans C.rel.x,a3.trans C.rel.y,fun i=>⟨rfl,bg i⟩,fun i=>⟨il ⟨rfl,rfl⟩,?_⟩⟩
   have cF:1<=a.zq.y:=by rcases I.kd with b | b;exact absurd b.1 i;exact b.2
   rw [Int.add_mul_ediv_right _ _ (by omega)];have:=Int.ediv_nonneg d.bok.time.1 (show 0<=a.zq.y by omega);omega
  rw [x] at t T;obtain⟨A,N⟩:=iB (g.set a.zq ⟨e.k,e.kd,e.x,e.y,a.zq.lv,a.zq.wn⟩ ci g.hk) T F t r.nd;obtain⟨a7,Q⟩:=List.getElem?_eq_some_iff.1 g.g;refine a5 _ A N (jcH (l':=⟨e.k,e.kd,e.x,e.y,a.zq.lv,a.zq.wn⟩) g.g rfl rfl rfl rfl).symm (fun s b=>?_) (fun s b=>?_)
  ·rcases List.mem_or_eq_of_mem_set b with b | rfl
   ·exact⟨s,b,rfl⟩
   ·exact⟨e,Q▸List.getElem_mem a7,rfl⟩
  ·by_cases i:s.k=a.q.key
   ·right
    obtain⟨K,P,rfl⟩:=List.mem_iff_getElem.1 b;have cc:K=o:=Decidable.byContradiction fun cl=>by
     have f:=jbY B.ls d.nd K P;rw [i,n] at f;exact cl (Option.some.inj f).symm
    subst cc;rw [Q] at i ⊢;obtain⟨bl,E,O,J⟩:=t.fnd_ (iS (k:=a.q.key) (q:=a.zq) (by rw [av];rfl));rw [i,E];show gY true a.q H L blk c.time e _ _;rw [(a1 v).1,(a1 v).2];exact jfS C.rel cq ao a3 (by rw [<-W.wn];exact bu) (fun w=>by have:=bv (by rw [W.wn];exact w);have:=W.lo;omega) I.lv.1 O b5 J bg v i.symm
   ·left
    obtain⟨K,P,rfl⟩:=List.mem_iff_getElem.1 b;refine List.mem_iff_getElem.2 ⟨K,by simpa using P,?_⟩
    rw [List.getElem_set_ne (fun w=>i (by subst w;rw [Q];exact g.hk))]
 ·have x:stands (fk a blk y)=X.L.ks:=by
   unfold fk;rw [if_neg u,if_neg S,if_neg v,z]
  rw [x] at t;exact⟨B,kn d.lines d.lok.qt d.lok.key F t r d.bok (fun b=>Bool.noConfusion (bi.symm.trans b)) (fun _=>rfl) (fun _=>Y)⟩
end Go.Proofs.YtnlgndpcddngoaaGreatDoor
