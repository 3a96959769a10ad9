import Derived.Test.YtlcnkcgmjnfbiaaGreatDoorZ09
import Derived.Maps.AppendAt
import Derived.Deep.RegionLaw
import Derived.Lib.AppendStr
import Derived.Test.YtlcnkcgmjnfbiaaGreatDoorZ24
import Derived.BigQuiet
import Derived.Test.YtlcnkcgmjnfbiaaGreatDoorZ21
import Derived.Test.YtlcnkcgmjnfbiaaGreatDoorZ22
import Derived.Deep.AppendLies
import Derived.Lib.SmallJoins
import Derived.Deep.Slices
set_option linter.all false
set_option maxRecDepth 100000
set_option maxHeartbeats 8000000
namespace Go.Proofs.YtlcnkcgmjnfbiaaGreatDoor
open Go.Proofs.Tryz Go.RowKit Go.Maps
variable [dK] [iK]
theorem lx (c:List Ln):∀ u∈bX c,u.oneCell'=true:=fun u b=>by
 obtain⟨d,_,a⟩:=List.mem_flatMap.1 b;simp only [jj,List.mem_cons,List.not_mem_nil,or_false] at a;rcases a with rfl | rfl | rfl | rfl | rfl | rfl | rfl | rfl | rfl | rfl | rfl | rfl | rfl <;> rfl
theorem lu:∀ (a:List Ln) (i:Nat),bX (a.eraseIdx i)=(bX a).take (i * 13) ++ (bX a).drop ((i+1) * 13)
 | [],i=>by simp [bX]
 | l :: r,0=>by
  have b:(jj l).length=13:=rfl;simp only [List.eraseIdx_cons_zero,Nat.zero_mul,List.take_zero,List.nil_append,Nat.zero_add,Nat.one_mul];unfold bX;rw [List.flatMap_cons,List.drop_append_of_le_length (by omega),List.drop_of_length_le (by omega),List.nil_append]
 | l :: r,i+1=>by
  have b:(jj l).length=13:=rfl;have c:=lu r i;simp only [List.eraseIdx_cons_succ];unfold bX at c ⊢;rw [List.flatMap_cons,List.flatMap_cons,c,List.take_append,List.drop_append,b];rw [show List.take ((i+1) * 13) (jj l)=jj l from List.take_of_length_le (by omega),show List.drop ((i+1+1) * 13) (jj l)=[] from List.drop_of_length_le (by omega),List.nil_append,List.append_assoc];congr 3
  ·omega
  ·omega
theorem iY {w:World}{b c e d:Nat}{v:Value}{n:Nat}{f:List Value}(k:w.ownsRow b e d v n f)(m:c<=b):w.ownsRow c e d v n f:=by
 obtain⟨l,a⟩:=k;refine⟨l,?_⟩
 rcases a with a | ⟨j,g,i,p,o,q⟩
 ·exact il a
 ·exact ir ⟨j,g,i,p,lq m o,q⟩
theorem u9 {w a c:World}{d base i:Nat}{p e:Value}{B:Bk}{R t:Nat}{o:Obj}(q:ap a d base p B)(j:∀ k,k<a.heap.size->c.heap[k]?=a.heap[k]?)(D:a.heap.size<=c.heap.size)(m:c.os=a.os/\c.tape=a.tape/\c.output=a.output)
  (n:c.ownsRow a.heap.size 106 13 e t ((bX B.ls).take (i * 13) ++ (bX B.ls).drop ((i+1) * 13))) (A:t=(B.ls.eraseIdx i).length) (x:base<=a.heap.size) (f:B7 w a) (r:a.heap[R]?=some o) (v:R≠d) :
  ap (c.setCell ⟨d,0,none⟩ e) d base e ⟨B.time,B.ls.eraseIdx i⟩/\(c.setCell ⟨d,0,none⟩ e).heap[R]?=some o/\ae (fun b=>b=d\/p.ownBlock=some b) w (c.setCell ⟨d,0,none⟩ e)/\(∀ g,e.ownBlock=some g->p.ownBlock=some g\/w.heap.size<=g):=by
 have s:=(j d (an q.hb)).trans q.hb;have C:=f.size;refine⟨⟨by simpa using ai s 0 e,?_⟩,?_,⟨m.1.trans f.os,m.2.1.trans f.tape,m.2.2.trans f.output,by rw [World.size_setCell];omega,fun k y z=>?_⟩,fun g l=>ir (lq C (aj n l).1)⟩
 ·rw [lu,<-A];exact ar (iY n x) (fun g l=>ac (ax n l s (by decide)) _ _)
 ·rw [ac v];exact (j R (an r)).trans r
 ·rw [ac (fun u=>z (il u))];exact (j k (by omega)).trans (f.block k y)
theorem jdi (a base:Nat)(c:Value)(B:Bk)(q:Rq)(w:World)(d:ap w a base c B)(k:B.ok)(a9:q.ok)(F:q.op=2)(i:Nat)(p:dw q.key B.ls=some i) :
  Calls prog 13 #[pO a 0,rqv q] w (aR a base c B q w):=by
 obtain⟨f,l⟩:∃ f,f=(w.alloc (oh q)).alloc (og):=⟨_,rfl⟩;have T:f.heap[w.heap.size]?=some (oh q):=l▸aC (ag _ _) _;have U:f.heap[w.heap.size+1]?=some (og):=l▸aD (by simp);have C:B7 w f:=l▸(ba w).alloc (by simp) _;have A:=d.below C lz;have bK:=an d.hb;have Q:∀ j,c.ownBlock=some j->j<w.heap.size:=fun j o=>(aj d.ho o).2;have e:=dY a base c B q.key f A k.len;have a7:=k.len;have a5:=k.time;obtain⟨b,r⟩:∃ b,B.ls[i]?=some b:=⟨_,List.getElem?_eq_getElem (ju p)⟩;have P:B.ls.getD i ⟨q.key,0,0,0,0,0⟩=b:=by simp [List.getD,r]
 have O:bC B q=bW B i b q.n:=by unfold bC;rw [if_neg (by omega),if_neg (by omega),if_neg (by omega),p];dsimp only;rw [if_neg (by omega),if_neg (by omega),P]
 have R:ew q.key B.ls=(i:Int):=by unfold ew;rw [p]
 rw [R] at e;have b0:(0:Int)<=(i:Int):=by omega
 have b1:¬(i:Int)<0:=by omega
 have S:=k.ln b (List.mem_of_getElem? r);have ad:=aa O;have a0:=aa r;have a1:=aa S;have bb:=a9.n;clear O p R P r S;have V:=aa e;have Y:=aa A;have L:=aa T;have M:=aa U;have J:=aa C;have K:=aa Q;have bv:=aa k;have bw:=aa d;clear e A T U C Q k d;have a2:=aa F;clear F;go_enter func13,ntmps13
 go_wp2_with fail
 have e:=V.out;rw [l] at e;refine e.mono ?_
 rw [<-l];rintro m bi ⟨rfl,n⟩;have y:=Y.out.below n lz;have G:=(n.block _ (an L.out)).trans L.out;have s:=(n.block _ (an M.out)).trans M.out;have bk:=ab G;have bl:=ab s;have bo:=af s;have bs:=ab y.hb;have W:=aa y;have N:=aa s;have bz:=aa G;have Z:=aa (J.out.trans (n.mono J.out.size));have a6:a≠w.heap.size+1:=by omega
 have bF:w.heap.size+1≠a:=by omega
 clear e l y G s n;have F:=a2.out;go_wp2_with fail
 refine (jdb a base c B i b q.n _ W.out a0.out a7 a1.out bb a5 (aa (fun a c a3 b bd w u g x a4 m=>jaV a c a3 b bd w u g x a4 m))).mono ?_
 rintro m bj ⟨rfl,z,D⟩;obtain⟨I,⟨x,u,g⟩,E⟩:∃ I bg,bW B i b q.n=(I,bg):=⟨_,_,rfl⟩;rw [E] at z ⊢;have t:=ad.out;rw [E] at t;have ao:=aa t;have a8:w.heap.size+1<bi.heap.size:=an N.out;have H:=(D.block _ a8 (fun m=>by have:=K.out _ m;omega)).trans N.out;have bu:=ab H;have b2:=af H;have X:=aa z;have av:Hid (ae (fun g=>g=a\/c.ownBlock=some g) w bj):=aa ((ae.of_below Z.out).then D (fun i _ d=>ir d));clear bk bl bo bs t E H z D;go_wp2_with fail
 exact bodyPost_ret (v:=(ot x u g)) (by simp [results,results13,go_sem,bu]) rfl (aR.mk' X.out ao.out (Nat.le_succ _) a6 (fun j o=>by have:=K.out j o;omega) av.out (fun j o=>il o))
theorem jdk (n base:Nat)(av:Value)(B:Bk)(q:Rq)(w:World)(t:ap w n base av B)(T:B.ok)(di:q.ok)(G:q.op=4)(i:Nat)(o:dw q.key B.ls=some i) :
  Calls prog 13 #[pO n 0,rqv q] w (aR n base av B q w):=by
 obtain⟨M,O⟩:∃ M,M=(w.alloc (oh q)).alloc (og):=⟨_,rfl⟩;have cl:M.heap[w.heap.size]?=some (oh q):=O▸aC (ag _ _) _;have cn:M.heap[w.heap.size+1]?=some (og):=O▸aD (by simp);have a6:B7 w M:=O▸(ba w).alloc (by simp) _;have a5:=t.below a6 lz;have dl:=an t.hb;have cb:∀ f,av.ownBlock=some f->f<w.heap.size:=fun f cV=>(aj t.ho cV).2;have z:=dY n base av B q.key M a5 T.len;have dv:=T.len;have dk:=T.time;have c2:=ju o;have b4:bC B q=(⟨B.time,B.ls.eraseIdx i⟩,⟨1,0,0⟩):=by unfold bC;rw [if_neg (by omega),if_neg (by omega),if_neg (by omega),o];dsimp only;rw [if_neg (by omega),if_pos G]
 have cc:ew q.key B.ls=(i:Int):=by unfold ew;rw [o]
 rw [cc] at z;have ds:(0:Int)<=(i:Int):=by omega
 have dt:¬(i:Int)<0:=by omega
 obtain⟨f,y,P,b9,dn⟩:=t.ho.form (by omega);obtain⟨g,a8⟩:∃ g,g=B.ls.length:=⟨_,rfl⟩;rw [<-a8] at P;subst P;have ci:i<g:=by omega
 have dN:g<=12:=by omega
 have d0:(i:Int)<(g:Int):=by omega
 have dR:g<=y:=by
  rcases t.ho.2 with ⟨a4,_⟩ | ⟨cR,cw,cx,P,_,_,c3,_⟩
  ·simp at a4
  ·injection P with _ _ cy;omega
 have cU:y<=maxLen:=by
  rcases t.ho.2 with ⟨a4,_⟩ | ⟨cR,cw,cx,P,_,_,c3,cU,_⟩
  ·simp at a4
  ·injection P with _ _ cy;omega
 have bv:=aa b4;have K:=aa a8;clear b4 o cc c2 a8;have cq:=aa z;have cs:=aa a5;have b2:=aa cl;have b3:=aa cn;have bu:=aa a6;have db:=aa cb;have c9:=aa T;have dd:=aa t;clear z a5 cl cn a6 cb T t;have ct:=aa G;clear G;go_enter func13,ntmps13
 go_wp2_with fail
 have z:=cq.out;rw [O] at z;refine z.mono ?_
 rw [<-O];rintro N d ⟨rfl,U⟩;have u:=cs.out.below U lz;have bd:=(U.block _ (an b2.out)).trans b2.out;have X:=(U.block _ (an b3.out)).trans b3.out;have d1:=ab bd;have d2:=ab X;have d3:=af X;have cp:=ab u.hb;have l:=aa u;have L:=aa X;have df:=aa bd;have bs:=aa (bu.out.trans (U.mono bu.out.size));have b5:n≠w.heap.size+1:=by omega
 have b6:w.heap.size+1≠n:=by omega
 clear z O u bd X U;have G:=ct.out;obtain⟨ao,o,Y,Z,ad⟩:=info_parts Tryz.info139;have u:=l.out;have bg:∀ c,c<g * 13->d.cell? ⟨f,c,none⟩=(bX B.ls)[c]?:=fun c p=>by
  have G:=u.ho;rw [<-K.out] at G;exact G.cellAt c p
 have a7:(bX B.ls).length=g * 13:=by rw [qF,<-K.out]
 have b0:Hid (∀ c e,((bX B.ls).take (i * 13))[c]?=some e->d.cell? ((⟨f,0,none⟩:Addr).add c)=some e):=aa (fun c e p=>by
   have ch:c<i * 13:=by
     have:=(List.getElem?_eq_some_iff.1 p).1;rw [List.length_take] at this;omega
   rw [Addr.add_lit,Nat.zero_add,bg c (by omega),<-p,List.getElem?_take,if_pos ch])
 have bK:Hid (((bX B.ls).take (i * 13)).length=i * 13):=aa (by rw [List.length_take,a7];omega);have bz:Hid (∀ e∈(bX B.ls).take (i * 13),e.oneCell'=true):=aa (fun e V=>lx B.ls e (List.mem_of_mem_take V));have Q:Hid (∀ a,a=n\/(Value.slice (some ⟨f,0,none⟩) g y).ownBlock=some a->a<d.heap.size):=aa (fun a b=>by
   rcases b with rfl | b
   · exact an u.hb
   · exact (aj u.ho b).2)
 have cv:=aa bg;have bw:=aa a7;clear u bg a7;have bF:Hid (∀ e∈(bX B.ls).drop ((i+1) * 13),e.oneCell'=true):=aa (fun e V=>lx B.ls e (List.mem_of_mem_drop V));have a1:Hid (((bX B.ls).drop ((i+1) * 13)).length=(g - (i+1)) * 13):=aa (by rw [List.length_drop,bw.out];omega);have b1:Hid (∀ x:World,(∀ a,a<d.heap.size->x.heap[a]?=d.heap[a]?)->∀ c e,((bX B.ls).drop ((i+1) * 13))[c]?=some e->x.cell? ((⟨f,(i+1) * 13,none⟩:Addr).add c)=some e):=aa (fun x b c e p=>by
   have ch:c<(g - (i+1)) * 13:=by
     have:=(List.getElem?_eq_some_iff.1 p).1;rw [a1.out] at this;exact this
   have cX:(i+1) * 13+c<g * 13:=by omega
   rw [Addr.add_lit,World.cell?_of_block (w:=d) (b f (Q.out f (ir rfl))),cv.out _ cX,<-p,List.getElem?_drop])
 by_cases b7:y=i+1
 ·have ck:g=i+1:=by omega
  have b8:(bX B.ls).drop ((i+1) * 13)=[]:=List.drop_of_length_le (by rw [bw.out,ck];exact lz);have HD:=aa b8;subst b7;subst ck;clear b8 bF a1 b1;go_wp2_with (first | (at_builtin;refine wpList_append_own_at _ rfl _ _ 32 rfl d.heap.size 106 ao ZL 13 48 underlying32 o Y Z ad rfl (by decide) (.slice none 0 0) 0 [] rfl (World.ownsRow_nil _ _ _ _) ⟨f,0,none⟩ i (i+1) ((bX B.ls).take (i * 13)) rfl bK.out b0.out bz.out (by unfold maxLen;omega) (by omega) lz ?_;intro c4 x s D a9 c0;rw [Nat.zero_add,List.nil_append] at s;have F:∀ a,a<d.heap.size->x.heap[a]?=d.heap[a]?:=fun a b=>D.block a b (by simp [Value.ownBlock]);have A:=l.out.kept (fun a b=>F a (Q.out a b));have bk:=ab A.hb;have S:=aa s;have W:=aa F;have cr:=aa A;have j:=aa D;obtain⟨bl,bo,J⟩:=az s;subst J;clear s D a9 F A cp) | (at_builtin;refine wpList_append_own_at _ rfl _ _ 32 rfl d.heap.size 106 ao ZL 13 48 underlying32 o Y Z ad rfl (by decide) (.slice bl i bo) i ((bX B.ls).take (i * 13)) rfl S.out ⟨f,0,none⟩ 0 0 [] rfl rfl (fun c e p=>absurd p (by simp)) (fun e V=>absurd V (by simp)) (by unfold maxLen;omega) (by omega) j.out.size ?_;intro c5 bj H E bb c1;obtain⟨c6,c7,J⟩:=az H;subst J;have r:∀ a,a<d.heap.size->bj.heap[a]?=d.heap[a]?:=fun a b=>(E.block a (ll b j.out.size) (fun N=>absurd (aj S.out N.symm).1 (Nat.not_le.2 b))).trans (W.out a b);have C:=(r n (an l.out.hb)).trans l.out.hb;have cz:=ab C;have cF:=af C;have I:=(r _ (an L.out)).trans L.out;have a3:=ab I;have cG:=af I;have a0:=aa r;have a2:=aa H;have m:=aa E;clear r H E bb C I bk))
  have k:=u9 (w:=w) (i:=i) (R:=w.heap.size+1) l.out a0.out (lq j.out.size m.out.size) ⟨m.out.os.trans j.out.os,m.out.tape.trans j.out.tape,m.out.output.trans j.out.output⟩ (by rw [HD.out];exact a2.out) (by rw [List.length_eraseIdx_of_lt (by rw [<-K.out];exact ci),<-K.out];omega) (lq b9 (Nat.le_of_lt (Q.out f (ir rfl)))) bs.out L.out b6;exact bodyPost_ret (v:=oS) (by simp [results,results13,go_sem,a3]) rfl (aR.mk' k.1 bv.out (Nat.le_succ _) b5 (fun c8 bi=>ax k.1.ho bi k.2.1 (by decide)) k.2.2.1 k.2.2.2)
 ·have dm:¬i+1=y:=fun N=>b7 N.symm;go_wp2_with (first | (at_builtin;refine wpList_append_own_at _ rfl _ _ 32 rfl d.heap.size 106 ao ZL 13 48 underlying32 o Y Z ad rfl (by decide) (.slice none 0 0) 0 [] rfl (World.ownsRow_nil _ _ _ _) ⟨f,0,none⟩ i y ((bX B.ls).take (i * 13)) rfl bK.out b0.out bz.out (by unfold maxLen;omega) (by omega) lz ?_;intro c4 x s D a9 c0;rw [Nat.zero_add,List.nil_append] at s;have F:∀ a,a<d.heap.size->x.heap[a]?=d.heap[a]?:=fun a b=>D.block a b (by simp [Value.ownBlock]);have A:=l.out.kept (fun a b=>F a (Q.out a b));have bk:=ab A.hb;have S:=aa s;have W:=aa F;have cr:=aa A;have j:=aa D;obtain⟨bl,bo,J⟩:=az s;subst J;clear s D a9 F A cp) | (at_builtin;refine wpList_append_own_at _ rfl _ _ 32 rfl d.heap.size 106 ao ZL 13 48 underlying32 o Y Z ad rfl (by decide) (.slice bl i bo) i ((bX B.ls).take (i * 13)) rfl S.out ⟨f,(i+1) * 13,none⟩ (g - (i+1)) (y - (i+1)) ((bX B.ls).drop ((i+1) * 13)) rfl a1.out (b1.out x W.out) bF.out (by unfold maxLen;omega) (by omega) j.out.size ?_;intro c5 bj H E bb c1;obtain⟨c6,c7,J⟩:=az H;subst J;have r:∀ a,a<d.heap.size->bj.heap[a]?=d.heap[a]?:=fun a b=>(E.block a (ll b j.out.size) (fun N=>absurd (aj S.out N.symm).1 (Nat.not_le.2 b))).trans (W.out a b);have C:=(r n (an l.out.hb)).trans l.out.hb;have cz:=ab C;have cF:=af C;have I:=(r _ (an L.out)).trans L.out;have a3:=ab I;have cG:=af I;have a0:=aa r;have a2:=aa H;have m:=aa E;clear r H E bb C I bk))
  have k:=u9 (w:=w) (i:=i) (R:=w.heap.size+1) l.out a0.out (lq j.out.size m.out.size) ⟨m.out.os.trans j.out.os,m.out.tape.trans j.out.tape,m.out.output.trans j.out.output⟩ a2.out (by rw [List.length_eraseIdx_of_lt (by rw [<-K.out];exact ci),<-K.out];omega) (lq b9 (Nat.le_of_lt (Q.out f (ir rfl)))) bs.out L.out b6;exact bodyPost_ret (v:=oS) (by simp [results,results13,go_sem,a3]) rfl (aR.mk' k.1 bv.out (Nat.le_succ _) b5 (fun c8 bi=>ax k.1.ho bi k.2.1 (by decide)) k.2.2.1 k.2.2.2)
def rqM:Nat->List Int->List Rq×List Int×Int
 | 0,bs=>([],bs,aG bs)
 | n+1,bs=>if aG bs=0 then (rdQ bs :: (rqM n (bs.drop (dU bs).toNat)).1,(rqM n (bs.drop (dU bs).toNat)).2) else ([],bs,aG bs)
theorem jcL:∀ (n:Nat) (bs:List Int),bs.length<=n->rqM n bs=rqM bs.length bs:=by
 intro n;induction n using Nat.strongRecOn with
 | ind n b=>
  intro bs g;cases n with
  | zero=>rw [show bs.length=0 by omega]
  | succ n=>
   cases e:bs.length with
   | zero=>
    have d:bs=[]:=List.length_eq_zero_iff.1 e;subst d;simp [rqM,aG]
   | succ c=>
    unfold rqM;by_cases a:aG bs=0
    ·rw [if_pos a,if_pos a];obtain⟨i,j,_,_⟩:=dH bs a;have f:(bs.drop (dU bs).toNat).length<=c:=by rw [List.length_drop];omega
     rw [b n (by omega) _ (by omega),b c (by omega) _ f]
    ·rw [if_neg a,if_neg a]
def dE (bs:List Int):List Rq×List Int×Int:=rqM bs.length bs
theorem cB (bs:List Int)(a:aG bs≠0):dE bs=([],bs,aG bs):=by
 unfold dE;cases b:bs.length with
 | zero=>rfl
 | succ c=>unfold rqM;rw [if_neg a]
theorem dW (bs:List Int)(a:aG bs=0):dE bs=(rdQ bs :: (dE (bs.drop (dU bs).toNat)).1,(dE (bs.drop (dU bs).toNat)).2):=by
 obtain⟨f,g,_,_⟩:=dH bs a;have c:dE bs=rqM bs.length bs:=rfl;rw [c];cases e:bs.length with
 | zero=>omega
 | succ b=>
  have d:(bs.drop (dU bs).toNat).length<=b:=by rw [List.length_drop];omega
  conv=>lhs;unfold rqM
  rw [if_pos a,jcL b _ d];rfl
def doL:Ld->List Rq->Ld×List Rp
 | L,[]=>(L,[])
 | L,q :: t=>((doL (aT L q).1 t).1,(aT L q).2 :: (doL (aT L q).1 t).2)
theorem jcT:∀ (n:Nat) (bs:List Int) (L:Ld),bs.length<=n->fy L bs=((doL L (dE bs).1).1,(doL L (dE bs).1).2,(dE bs).2):=by
 intro n;induction n with
 | zero=>
  intro bs L c;have b:bs=[]:=List.length_eq_zero_iff.1 (by omega);subst b;rw [jA L [] (by simp [aG]),cB [] (by simp [aG])];rfl
 | succ n d=>
  intro bs L c;by_cases a:aG bs=0
  ·obtain⟨e,f,_,_⟩:=dH bs a;rw [nH L bs a,dW bs a,d _ _ (by rw [List.length_drop];omega)];rfl
  ·rw [jA L bs a,cB bs a];rfl
abbrev rqw (q:Rq):List Value:=[.int .u8 q.op,.int .u8 q.k0,.int .u8 q.k1,.int .u8 q.k2,.int .u8 q.k3,.int .u8 q.k4,.int .u8 q.k5,.int .u8 q.k6,.int .u8 q.k7,.int .u8 q.kd,.int .u64 q.x,.int .u64 q.y,.int .u64 q.n]
def jW (l:List Rq):List Value:=l.flatMap rqw
theorem jaI (l:List Rq)(q:Rq):jW (l ++ [q])=jW l ++ rqw q:=by simp [jW]
theorem jeF (s:ByteArray):Go.Lib.strCells s=(aE s).map (Value.int .u8):=by
 simp [Go.Lib.strCells,aE]
abbrev ZR:Value:=oz
theorem Tryz.info58:(prog.info? 41).map (fun i=>(i.zero,i.size,i.bytes))=some (some ZR,13,48):=by kernel_rfl
structure SfI (w wl:World)(tb:Nat)(bs0 bs:List Int)(qs:List Rq)(v6 v7 rv:Value)(wr:World):Prop where
 run:dE bs0=(qs ++ (dE bs).1,(dE bs).2)
 sl:Sl wr v6 bs
 le:2 * qs.length+bs.length<=bs0.length
 by_:Bytes bs
 own:wr.ownsRow wl.heap.size 41 13 v7 qs.length (jW qs)
 F:∀ g o n c,v6=.slice (some ⟨g,o,none⟩) n c->w.heap.size<=g/\g<wl.heap.size
 st:wr.heap[tb]?=some (Ur rv)
 keep:ae (fun _=>False) wl wr
theorem jez (r:Nat)(P:Value)(rest:List Int)(s:ByteArray)(w:World)(M:w.heap[r]?=some (Ur P))(ch:Sl w P rest)(b1:Bytes rest)(b6:rest.length+s.size<=100000)
  (k:List Int) (b0:k=rest ++ aE s) (l:List Rq) (b5:l=(dE k).1) (I:Bool) (A:I=decide ((dE k).2.2=2)) (ao:List Int) (b7:ao=if (dE k).2.2=2 then [] else (dE k).2.1) :
  Calls prog 52 #[pO r 0,.string s] w fun e w'=>∃ cq bj,e=.returned (.tuple #[cq,.bool I])/\w'.ownsRow w.heap.size 41 13 cq l.length (jW l)/\ae (fun b=>b=r) w w'/\
   w'.heap[r]?=some (uV bj I)/\Sl w' bj ao/\(∀ g o n c,bj=.slice (some ⟨g,o,none⟩) n c->w.heap.size<=g):=by
 have T:=aa b5;have R:=aa A;have U:=aa b7;clear b5 A b7;obtain⟨d1,c6,dN,dR,d0⟩:=info_parts Tryz.info5;obtain⟨d2,b3,dn,ds,dt⟩:=info_parts Tryz.info58;have cV:=ab M;have cX:=af M;have d3:=an M;have bs:=aa ch;have S:=aa b0;have bl:=aa M;have F:=aa b6;clear ch b0 M b6;go_enter func52,ntmps52
 go_wp2_with (first
   | (at_builtin;refine cI rfl _ _ rfl w.heap.size (.slice none 0 0) 0 [] rfl (World.ownsRow_nil _ _ _ _) P rest rfl bs.out.src (by have:=F.out;omega) lz ?_;intro ct d7 cb x b8)
   | (at_builtin;refine Go.Lib.wpList_append_own_string (w:=d7) rfl _ _ 48 9 rfl w.heap.size 5 d1 underlying48 underlying9 c6 dN dR d0 ct (0+rest.length) _ rfl cb s rfl (by unfold maxLen;have:=F.out;omega) (by have:=F.out;omega) x.size ?_;intro cv E a7 B _))
 obtain⟨y,dm⟩:∃ y,y=E:=⟨_,rfl⟩;have eo:=x.size;have eq:=B.size;have b9:∀ a,a<w.heap.size->ct.ownBlock≠some a:=fun a j e=>by
  rcases b8 with i | i
  ·rw [i] at e;simp [Value.ownBlock] at e
  ·rw [i] at e;injection e with e;omega
 have Y:∀ a,a<w.heap.size->E.heap[a]?=w.heap[a]?:=fun a j=>(B.block a (by omega) (fun e=>b9 a j e.symm)).trans (x.block a j (by simp [Value.ownBlock]));have bz:ae (fun b=>b=r) w E:=⟨B.os.trans x.os,B.tape.trans x.tape,B.output.trans x.output,by omega,fun a j _=>Y a j⟩;have c3:E.heap[r]?=some (Ur P):=(Y r d3).trans bl.out;have di:Sl E cv k:=by
  refine Sl.of_own (n:=0+rest.length+s.size) (base:=w.heap.size) ?_
  rw [S.out,List.map_append,<-jeF s];exact a7
 have bw:∀ g o n c,cv=.slice (some ⟨g,o,none⟩) n c->w.heap.size<=g/\g<E.heap.size:=fun g o n c i=>by
  have:=a7.lt g (by rw [i];rfl);omega
 have c4:Bytes k:=by rw [S.out];exact b1.app (fL s)
 have ej:k.length<=100000:=by rw [S.out,List.length_append,bO];exact F.out
 subst dm;have cz:=aa bz;have cy:=aa bw;have d9:=aa Y;clear cb x b8 a7 B b9 Y bz bw cV cX bs bl S F b1;go_loopw [6,7] (fun bk d6 wr=>∃ d q,SfI w y r k d q bk d6 P wr) (fun bk _ _=>fA bk)
 case atStart=>exact⟨k,[],⟨by simp,di,by simp,c4,World.ownsRow_nil _ _ _ _,cy.out,c3,ae.refl _ _⟩⟩
 case round=>
  obtain⟨d,q,H⟩:=hrel;have c8:=H.le;have bd:=H.st;have cn:=an bd;obtain⟨bu,V,c1⟩:=H.sl.shape;subst c1;have f:=aa H;clear H;go_wp2_with fail
  refine (jfB _ d wr f.out.sl (by omega) (fun m=>f.out.by_.getD m) _ rfl _ _ rfl rfl).mono ?_
  rintro e Q ⟨rfl,W⟩;have ad:=(W.block r cn).trans bd;have ef:=fun o m=>cf ad o m;have eg:=fun o m=>jF ad o m;have ei:=f.out.keep.size;have er:=W.size;have a1:=aa W;clear bd W;have b4:ae (fun b=>b=r) w Q:=(cz.out.trans (f.out.keep.mono (fun _ i _=>i.elim))).trans (ae.of_below a1.out);have cl:w.heap.size<=y.heap.size:=by omega
  have bF:∀ a o,a<wr.heap.size->(Q.alloc o).heap[a]?=wr.heap[a]?:=fun a o j=>(ah Q o (by omega)).trans (a1.out.block a j);have G:=aa bF;have bo:=aa b4;clear b4 bF;rcases gD d with i | i | i
  ·obtain⟨d4,cr,cs,d5⟩:=dH d i;obtain⟨g,o,c,bg,a4,N,X,a9⟩:∃ g o c,Value.slice bu d.length V=.slice (some ⟨g,o,none⟩) d.length c/\d.length<=c/\g<wr.heap.size/\(∀ m,m<d.length->wr.cell? ⟨g,o+m,none⟩=some (.int .u8 (d.getD m 0)))/\0<d.length:=by
    rcases f.out.sl with ⟨dd,_⟩ | ⟨a9,g,o,c,bg,a4,N,X⟩
    ·rw [dd] at i;simp [aG] at i
    ·exact⟨g,o,c,bg,a4,N,X,a9⟩
   injection bg with dk _ dl;subst dk dl;obtain⟨D,bb⟩:∃ D,D=rdQ d:=⟨_,rfl⟩;obtain⟨p,a5⟩:∃ p,p=(dU d).toNat:=⟨_,rfl⟩;obtain⟨n,Z⟩:∃ n,n=d.length:=⟨_,rfl⟩;rw [i,cs];rw [<-a5] at d4 cr d5 ⊢;rw [<-Z] at cr a4 a9 ⊢;rw [<-bb];have bv:=f.out.F g o n V (by rw [Z]);have cG:Hid (∀ bi cp,((Q.alloc bi).alloc cp).ownsRow y.heap.size 41 13 u7 q.length (jW q)):=aa (fun bi cp=>ar f.out.own (fun a j=>by
     have:=aj f.out.own j;exact (ah _ _ (by simp;omega)).trans (G.out a bi (by omega))))
   have el:(p:Int)<=(n:Int):=by omega
   have ek:(0:Int)<=(p:Int):=by omega
   have cF:=aa a5;have a2:=aa Z;have cU:=aa bb;have cx:=aa i;have cw:=aa X;have em:q.length<=100000:=by omega
   have en:2 * q.length+n<=k.length:=by omega
   clear a5 Z bb i cs X c8;go_wp2_with (at_builtin;refine wpList_append_own_at _ rfl _ _ 22 rfl y.heap.size 41 d2 ZR 13 48 underlying22 b3 dn ds dt rfl (by decide) u7 q.length (jW q) rfl (cG.out _ _) ⟨Q.heap.size+1,0,none⟩ 1 1 (rqw D) rfl rfl (fun m ev c7=>by rw [Addr.add_lit,Nat.zero_add,<-c7];exact (ab (aD (by simp)) m).trans (by simp)) (by simp [Value.oneCell']) (by unfold maxLen;omega) (by omega) (by simp;omega) ?_;intro ey d8 a8 b2 df c9;obtain⟨ez,eA,dv⟩:=az a8;subst dv;have cR:=aa a8;have z:=aa b2;clear a8 b2 df c9)
   have a6:∀ a,a<y.heap.size->u7.ownBlock≠some a:=fun a j e=>by have:=aj f.out.own e;omega
   have C:=((f.out.keep.trans (ae.of_below a1.out)).alloc (.cells (rqc D) 41)).alloc (.cells (rqc D) 41);have bK:∀ a,a<wr.heap.size->u7.ownBlock≠some a->d8.heap[a]?=wr.heap[a]?:=fun a j db=>(z.out.block a (by simp;omega) (fun e=>db e.symm)).trans ((ah _ _ (by simp;omega)).trans (G.out a _ j));have ck:=z.out.size;have A:(d.drop p).length=n - p:=by rw [List.length_drop,<-a2.out]
   refine⟨⟨d.drop p,q ++ [D],⟨?_,?_,?_,f.out.by_.drop p,?_,?_,?_,?_⟩⟩,?_⟩
   ·have ci:=dW d cx.out;rw [<-cU.out,<-cF.out] at ci;rw [f.out.run,ci,List.append_assoc];rfl
   ·by_cases cc:n - p=0
    ·left
     refine⟨List.length_eq_zero_iff.1 (A.trans cc),ir ?_⟩
     rw [cc];split
     ·exact⟨_,_,_,rfl⟩
     ·exact⟨_,_,_,rfl⟩
    ·right
     rw [if_neg (by omega),A];refine⟨by omega,g,o+p,V - p,rfl,by omega,by simp at ck;omega,fun m b3=>?_⟩
     rw [World.cell?_of_block (w:=wr) (bK g N (a6 g bv.2)),Nat.add_assoc,cw.out (p+m) (by rw [<-a2.out];omega)];simp [List.getD,List.getElem?_drop]
   ·rw [List.length_append,A,List.length_singleton];omega
   ·rw [jaI,List.length_append,List.length_singleton];exact cR.out
   ·intro c0 et es eb u;have c5:c0=g:=by
     split at u <;> (injection u with L _ _;injection L with L;injection L with L _;exact L.symm)
    rw [c5];exact bv
   ·exact (bK r cn (a6 r (by omega))).trans f.out.st
   ·exact⟨z.out.os.trans C.os,z.out.tape.trans C.tape,z.out.output.trans C.output,lq C.size ck,fun a j c2=>(z.out.block a (ll j C.size) (fun e=>a6 a j e.symm)).trans (C.block a j c2)⟩
   ·show n - p<d.length;rw [<-a2.out];omega
  ·have t:dE k=(q,d,1):=by
    have O:=f.out.run;rw [cB d (by omega),i] at O;simpa using O
   have K:l=q:=T.out.trans (by rw [t]);have a3:I=false:=R.out.trans (by rw [t];rfl);have J:ao=d:=U.out.trans (by rw [t];rfl);subst a3;have a0:=aa K;have av:=aa J;clear t K J T R U;rw [i];go_wp2_with fail
   refine bodyPost_ret (v:=.tuple #[u7,.bool false]) (by simp [results,results52,go_sem]) rfl ?_
   rw [a0.out,av.out];refine⟨u7,.slice bu d.length V,rfl,?_,(bo.out.alloc _).set (il rfl) _ _,by simpa using ai (aC ad _) 0 _,?_,fun g o n c u=>(f.out.F g o n c u).1⟩
   ·refine iY (ar f.out.own (fun a j=>?_)) cl
    have:=aj f.out.own j;exact (ac (by omega) _ _).trans (G.out a _ (by omega))
   ·refine f.out.sl.kept (by simp;omega) (fun g o n c u N=>?_)
    have:=f.out.F g o n c u;exact (ac (by omega) _ _).trans (G.out g _ N)
  ·have t:dE k=(q,d,2):=by
    have O:=f.out.run;rw [cB d (by omega),i] at O;simpa using O
   have K:l=q:=T.out.trans (by rw [t]);have a3:I=true:=R.out.trans (by rw [t];rfl);have J:ao=[]:=U.out.trans (by rw [t];rfl);subst a3;have a0:=aa K;have av:=aa J;clear t K J T R U;rw [i];go_wp2_with fail
   refine bodyPost_ret (v:=.tuple #[u7,.bool true]) (by simp [results,results52,go_sem]) rfl ?_
   rw [a0.out,av.out];refine⟨u7,.slice none 0 0,rfl,?_,((bo.out.alloc _).set (il rfl) _ _).set (il rfl) _ _,by simpa using ai (ai (aC ad _) 1 _) 0 _,il ⟨rfl,il rfl⟩,fun g o n c u=>by simp at u⟩
   ·refine iY (ar f.out.own (fun a j=>?_)) cl
    have:=aj f.out.own j;exact (ac (by omega) _ _).trans ((ac (by omega) _ _).trans (G.out a _ (by omega)))
theorem rj (a:Nat)(c:Value)(s:ByteArray)(w:World)(b:w.heap[a]?=some (.cells #[c,.bool true] 99)) :
  Calls prog 52 #[pO a 0,.string s] w fun e w'=>e=.returned (.tuple #[.slice none 0 0,.bool false])/\w'=w:=by
 have d:=ab b;go_enter func52,ntmps52
 go_wp2_with fail
 exact bodyPost_ret (v:=.tuple #[.slice none 0 0,.bool false]) (by simp [results,results52,go_sem]) rfl ⟨rfl,rfl⟩
theorem pW (b base:Nat)(c:Value)(B:Bk)(q:Rq)(w:World)(d:ap w b base c B)(e:B.ok)(g:q.ok)(a:q.op∈[1,2,3,4,5,6])(l:base<=w.heap.size) :
  Calls prog 13 #[pO b 0,rqv q] w (aR b base c B q w):=by
 simp only [List.mem_cons,List.not_mem_nil,or_false] at a;rcases a with a | a | a | a | a | a
 ·by_cases j:cN q.kd q.x q.y
  ·cases f:dw q.key B.ls with
   | none=>
    by_cases k:B.ls.length=12
    ·exact rN b base c B q w d e g a j f k
    ·exact wj b base c B q w d e g a j f k l
   | some i=>exact nZ b base c B q w d e g a j i f
  ·exact wh b base c B q w d e g a j
 ·cases f:dw q.key B.ls with
  | none=>exact kD b base c B q w d e g (il a) f
  | some i=>exact jdi b base c B q w d e g a i f
 ·cases f:dw q.key B.ls with
  | none=>exact kD b base c B q w d e g (ir (il a)) f
  | some i=>exact jdj b base c B q w d e g a i f
 ·cases f:dw q.key B.ls with
  | none=>exact kD b base c B q w d e g (ir (ir a)) f
  | some i=>exact jdk b base c B q w d e g a i f
 ·exact jdl b base c B q w d e g a
 ·exact jdm b base c B q w d e g a
theorem vX (B:Bk)(i:Nat)(l:Ln)(n:Int)(b:B.ok)(a:l.ok)(o:U7 n):(bW B i l n).1.ok:=by
 have g:=b.time;have q:=a.x;have r:=a.y;have k:=a.at_;unfold bW;split
 ·rename_i e
  dsimp only;split
  ·refine⟨g,by rw [List.length_set];exact b.len,fun s m=>?_⟩
   rcases List.mem_or_eq_of_mem_set m with d | rfl
   ·exact b.ln s d
   ·have p:0<=dP B.time l/\dP B.time l<=18446744073709551615:=by
     unfold dP;split
     ·omega
     ·rename_i c
      have:=a.yp c;have f:0<=B.time / l.y:=Int.ediv_nonneg (by omega) (by omega);have t:B.time / l.y<=B.time:=Int.ediv_le_self _ (by omega);omega
    have j:U7 (co B.time l n).1:=by
     unfold co at e ⊢;split
     ·rename_i c
      rw [if_pos c] at e;have v:1<=l.x:=by rcases a.kd with d | d <;> omega
      have w:0<=n * l.x:=Int.mul_nonneg o.1 (by omega);unfold cO;generalize hS:(if l.at_<B.time then B.time else l.at_)=S;have u:0<=S:=by rw [<-hS];split <;> omega
      split
      ·exact k
      ·split
       ·exact⟨Int.le_refl _,(by decide:(0:Int)<=18446744073709551615)⟩
       ·rename_i f
        split
        ·dsimp only;omega
        ·exact⟨Int.le_refl _,(by decide:(0:Int)<=18446744073709551615)⟩
     ·rename_i c
      unfold cY;have x:0<=(aQ B.time l).1:=by
       unfold aQ;rw [if_neg c];split <;> dsimp only <;> omega
      split
      ·dsimp only;omega
      ·split <;> exact⟨Int.le_refl _,(by decide:(0:Int)<=18446744073709551615)⟩
    exact⟨a.kd,q,r,j,p⟩
  ·exact b
 ·exact b
theorem tS (B:Bk)(q:Rq)(a:B.ok)(d:q.ok):(bC B q).1.ok:=by
 unfold bC;split
 ·split
  ·exact a
  ·rename_i k
   split
   ·exact a
   ·split
    ·exact a
    ·rename_i l
     refine⟨a.time,?_,fun f c=>?_⟩
     ·have:=a.len;show (B.ls ++ [_]).length<=12;rw [List.length_append,List.length_singleton];omega
     ·rcases List.mem_append.1 c with b | b
      ·exact a.ln f b
      ·simp at b;subst b;exact⟨Decidable.not_not.1 k,d.x,d.y,by simp,by simp⟩
 ·split
  ·exact a
  ·split
   ·exact a
   ·cases j:dw q.key B.ls with
    | none=>exact a
    | some e=>
     dsimp only;split
     ·exact a
     ·split
      ·refine⟨a.time,?_,fun f c=>a.ln f (List.mem_of_mem_eraseIdx c)⟩
       exact lq (List.length_eraseIdx_le _ _) a.len
      ·have g:=ju j;have i:B.ls.getD e ⟨q.key,0,0,0,0,0⟩=B.ls[e]:=by simp [List.getD,List.getElem?_eq_getElem g]
       rw [i];exact vX B e _ q.n a (a.ln _ (List.getElem_mem g)) d.n
end Go.Proofs.YtlcnkcgmjnfbiaaGreatDoor
namespace Go.Proofs.YtlcnkcgmjnfbiaaGreatDoor
open Go.Proofs.Tryz
variable [dK] [iK]
theorem jfA (bs:List Int)(a:aG bs=0):(rdQ bs).op∈[1,2,3,4,5,6]:=by
 have d:bs.getD 1 0=1\/bs.getD 1 0=2\/bs.getD 1 0=3\/bs.getD 1 0=4\/bs.getD 1 0=5\/bs.getD 1 0=6:=by
  match bs,a with
  | [],a=>simp [aG] at a
  | [b0],a=>
   simp only [aG] at a;split at a <;> omega
  | b0 :: b1 :: t,a=>
   simp only [aG] at a;split at a
   ·omega
   ·rename_i e
    split at a
    ·rename_i c
     show b1=1\/b1=2\/b1=3\/b1=4\/b1=5\/b1=6;unfold aO at c;split at c
     ·omega
     ·split at c
      ·omega
      ·split at c
       ·omega
       ·split at c
        ·omega
        ·omega
    ·omega
 simp only [List.mem_cons,List.not_mem_nil,or_false];rcases d with b | b | b | b | b | b
 ·rw [jcA bs a b];simp
 ·rw [jcB bs a b];simp
 ·rw [lJ bs a (il b)];simp only [];omega
 ·rw [lJ bs a (ir b)];simp only [];omega
 ·rw [lL bs a (il b)];simp only [];omega
 ·rw [lL bs a (ir b)];simp only [];omega
theorem jcJ:∀ (n:Nat) (bs:List Int),bs.length<=n->Bytes bs->∀ q∈(dE bs).1,q.ok/\q.op∈[1,2,3,4,5,6]:=by
 intro n;induction n with
 | zero=>
  intro bs e _;have d:bs=[]:=List.length_eq_zero_iff.1 (by omega);subst d;rw [cB [] (by simp [aG])];simp
 | succ n f=>
  intro bs e c;by_cases a:aG bs=0
  ·obtain⟨g,i,_,_⟩:=dH bs a;rw [dW bs a];intro q b;rcases List.mem_cons.1 b with rfl | b
   ·exact⟨jcC bs c,jfA bs a⟩
   ·exact f _ (by rw [List.length_drop];omega) (c.drop _) q b
  ·rw [cB bs a];simp
theorem mM (z:Qt)(T n:Int):(eO z T n).2.c=2\/(eO z T n).2.c=3:=by
 show (aJ z T n).2.c=2\/(aJ z T n).2.c=3;unfold aJ mm nT;repeat' split
 all_goals simp
theorem jbA (L:Ld)(q:Rq):(aT L q).2.c≠7:=by
 unfold aT;by_cases a:q.op=2
 ·rw [if_neg (by omega),if_pos a];cases aZ q.key L.ks with
  | none=>simp
  | some b=>
   have:=mM b L.time q.n;simp only [];omega
 ·rw [if_neg a];repeat' split
  all_goals simp
theorem jdy (L:Ld)(q:Rq):(aT L q).1.adm=if (aT L q).2.c=2 then (L.adm+q.n) % 18446744073709551616 else L.adm:=by
 unfold aT;repeat' split
 all_goals first
  | rfl
  | simp_all
structure gT (d:Int)(L:Ld)(B:Bk):Prop where
 time:L.time=B.time
 lines:br B.time d L.ks B.ls
 lok:L.ok
 bok:B.ok
theorem gT.step {d:Int}{L:Ld}{B:Bk}(a:gT d L B)(q:Rq)(b:q.ok)(g:q.op∈[1,2,3,4,5,6]):(aT L q).2=(bC B q).2/\gT d (aT L q).1 (bC B q).1:=by
 obtain⟨e,c,f⟩:=jdn d L B q a.lok b a.time a.lines g;have i:(aT L q).1.time=L.time:=by
  unfold aT;repeat' split
  all_goals rfl
 refine⟨e,?_,?_,(pe L q a.lok b).1,tS B q a.bok b⟩
 ·rw [i,a.time,c]
 ·rw [c];exact f
theorem gT.pass {d:Int}{L:Ld}{B:Bk}(b:gT d L B)(a:Int)(f:0<=a)(g:a<=18446744073709551615):gT d (aW L a) (fW B a):=by
 have c:=nx L a b.lok f g;have e:(aW L a).time=(fW B a).time:=by unfold aW fW;rw [b.time]
 refine⟨e,?_,c,?_⟩
 ·refine br.mono (T:=B.time) ?_ b.lok.qt b.lines
  unfold fW;simp only [];split <;> omega
 ·refine⟨?_,b.bok.len,b.bok.ln⟩
  rw [<-e];exact c.time
theorem gT.raise {d b:Int}{L:Ld}{B:Bk}(a:gT d L B)(c:d<=b):gT b L B:=⟨a.time,a.lines.raise c a.lok.qt,a.lok,a.bok⟩
theorem jbO (L:Ld)(c:Cn)(a:Int)(bs:List Int)(d:c.bad=false) :
  gn L c a bs=if (dE (c.waits ++ bs)).2.2=2 then ((doL (aW L a) (dE (c.waits ++ bs)).1).1,⟨[],true⟩,(doL (aW L a) (dE (c.waits ++ bs)).1).2 ++ [⟨6,0,0⟩])
   else ((doL (aW L a) (dE (c.waits ++ bs)).1).1,⟨(dE (c.waits ++ bs)).2.1,false⟩,(doL (aW L a) (dE (c.waits ++ bs)).1).2):=by
 have b:=jcT _ (c.waits ++ bs) (aW L a) lz;unfold fy at b;unfold gn;rw [if_neg (by simp [d]),b]
theorem jag (L:Ld)(c:Cn)(a:Int)(bs:List Int)(b:c.bad=true):gn L c a bs=(aW L a,c,[]):=by
 unfold gn;rw [if_pos b]
end Go.Proofs.YtlcnkcgmjnfbiaaGreatDoor
namespace Go.Proofs.YtlcnkcgmjnfbiaaGreatDoor
open Go.Proofs.Tryz Go.RowKit Go.Maps
variable [dK] [iK]
theorem pA (c n:Int)(w:World)(f:0<n)(g:n<=1000000000)(b:-9223372036854775808<=c)(d:c<=9223372036854775807) :
  Calls prog 31 #[.int .i64 c,.int .i64 n] w fun e w'=>e=.returned (.int .i64 (bq c n))/\w'=w:=by
 have i:¬n=0:=by omega
 by_cases a:c<0
 ·have e:bq c n=-((c+1).tmod n):=by unfold bq;rw [if_pos a,<-Int.neg_tmod,Int.tmod_eq_emod_of_nonneg (by omega)]
  have j:IntKind.i64.wrap (c+1)=c+1:=by rw [IntKind.wrap_i64];omega
  have k:IntKind.i64.wrap (-(c+1))=-(c+1):=by rw [IntKind.wrap_i64];omega
  rw [e];clear e;go_enter func31,ntmps31
  go_wp2
  go_ret
  exact⟨rfl,rfl⟩
 ·have e:bq c n=c % n:=by unfold bq;rw [if_neg a]
  rw [e];clear e;go_enter func31,ntmps31
  go_wp2
  go_ret
  exact⟨rfl,rfl⟩
theorem qY (q:Rq)(b:q.ok)(w:World) :
  Calls prog 12 #[oj q] w
   fun e w'=>∃ a c,e=.returned (.slice a q.enc.length c)/\w'.ownsRow w.heap.size 5 1 (.slice a q.enc.length c) q.enc.length (q.enc.map (Value.int .u8))/\B7 w w':=by
 refine (tz q.op q.k0 q.k1 q.k2 q.k3 q.k4 q.k5 q.k6 q.k7 q.kd q.x q.y q.n w b.x.1 b.x.2 b.y.1 b.y.2 b.n.1 b.n.2).mono ?_
 rintro e w' ⟨g,rfl,d,f⟩;obtain⟨a,c,rfl⟩:=nu d;exact⟨a,c,rfl,d,f⟩
theorem ja5 (z:Option Addr)(n A:Nat)(a:List Rq)(t:ByteArray)(w:World)(F:a.length=n)(bw:n<=A)(bv:n<=1000)(bz:t.size<=20000)(G:∀ q∈a,q.ok)
  (C:0<n->∃ d o,z=some ⟨d,o,none⟩/\d<w.heap.size/\∀ i (bl:i<a.length) c,c<13->w.cell? ⟨d,o+i * 13+c,none⟩=(#[.int .u8 a[i].op,.int .u8 a[i].k0,.int .u8 a[i].k1,.int .u8 a[i].k2,.int .u8 a[i].k3,.int .u8 a[i].k4,.int .u8 a[i].k5,.int .u8 a[i].k6,.int .u8 a[i].k7,.int .u8 a[i].kd,.int .u64 a[i].x,.int .u64 a[i].y,.int .u64 a[i].n]:Array Value)[c]?) :
  Calls prog 15 #[.slice z n A,.string t] w fun e w'=>e=.returned (.string (strOfNums (bZ a) ++ t))/\B7 w w':=by
 have M:=aa C;have x:=aa F;have O:=aa G;clear C F G;go_enter func15,ntmps15
 go_wp2
 go_loopw [5,6] (fun bk u wr=>∃ i:Nat,i<=n/\u=.int .i64 i/\wr.ownsRow w.heap.size 5 1 bk (bZ (a.take i)).length ((bZ (a.take i)).map (Value.int .u8))/\B7 w wr) (fun _ u _=>n - (intOf u).toNat)
 case atStart=>exact⟨0,by omega,rfl,World.ownsRow_nil _ _ _ _,Below.refl _ _⟩
 case round=>
  obtain⟨i,bs,rfl,H,k⟩:=hrel;have E:(bZ (a.take i)).length<=27000:=by have:=gM (a.take i);rw [List.length_take] at this;omega
  have j:=aa H;have a2:=k.size;clear H;by_cases ao:i<n
  ·have s:i<a.length:=by rw [x.out];exact ao
   obtain⟨d,o,rfl,V,D⟩:=M.out (by omega);obtain⟨q,l⟩:∃ q,q=a[i]:=⟨_,rfl⟩;have a0:q.ok:=l▸O.out _ (List.getElem_mem s);have b:∀ c,c<13->wr.cell? ⟨d,o+i * 13+c,none⟩=(#[.int .u8 q.op,.int .u8 q.k0,.int .u8 q.k1,.int .u8 q.k2,.int .u8 q.k3,.int .u8 q.k4,.int .u8 q.k5,.int .u8 q.k6,.int .u8 q.k7,.int .u8 q.kd,.int .u64 q.x,.int .u64 q.y,.int .u64 q.n]:Array Value)[c]?:=fun c Z=>by
    rw [k.cell (p:=⟨d,o+i * 13+c,none⟩) V,l];exact D i s c Z
   have K:=b 0 (by omega);have a3:=b 1 (by omega);have a7:=b 2 (by omega);have a8:=b 3 (by omega);have a9:=b 4 (by omega);have bb:=b 5 (by omega);have bd:=b 6 (by omega);have bg:=b 7 (by omega);have bi:=b 8 (by omega);have bj:=b 9 (by omega);have a4:=b 10 (by omega);have a5:=b 11 (by omega);have a6:=b 12 (by omega);rw [Nat.add_zero] at K;have P:=aa l;have bo:=vi q;clear b D l;go_wp2_with fail
   refine (qY q a0 _).mono ?_
   rintro e L ⟨R,S,rfl,I,r⟩;have N:=aa I;have y:Hid (L.ownsRow w.heap.size 5 1 u5 (bZ (a.take i)).length ((bZ (a.take i)).map (Value.int .u8))):=aa (dT j.out (fun U Y=>r.block U (aj j.out Y).2));have bF:=r.size;have B:B7 w L:=k.trans (r.mono a2);have f:=aa B;clear K a3 a7 a8 a9 bb bd bg bi bj a4 a5 a6 I B;go_wp2_with (at_builtin;refine cI rfl _ _ rfl w.heap.size u5 _ (bZ (a.take i)) rfl y.out (.slice R q.enc.length S) q.enc rfl (Sl.of_own N.out).src (by omega) (by omega) ?_;intro b0 b1 av g bu)
   go_roundw
   case rel=>
    have a1:a.take (i+1)=a.take i ++ [a[i]]:=by rw [List.take_add_one,List.getElem?_eq_getElem s];rfl
    have X:bZ (a.take (i+1))=bZ (a.take i) ++ q.enc:=by rw [a1,<-P.out];unfold bZ;rw [List.flatMap_append];simp only [List.flatMap_cons,List.flatMap_nil,List.append_nil]
    refine⟨i+1,by omega,by go_num,?_,?_⟩
    ·rw [X,List.length_append];exact av
    ·exact⟨g.os.trans f.out.os,g.tape.trans f.out.tape,g.output.trans f.out.output,lq f.out.size g.size,fun J ad=>(g.block J (by omega) (fun e=>by have:=aj y.out e.symm;omega)).trans (f.out.block J ad)⟩
   case measure=>simp [intOf];omega
  ·obtain rfl:i=n:=by omega
   have T:a.take i=a:=List.take_of_length_le (by rw [x.out];exact lz);rw [T] at j E;have W:=gj j.out rfl;obtain⟨v,m⟩:∃ v,v=strOfNums (bZ a):=⟨_,rfl⟩;have bK:v.size<=27000:=by rw [m,strOfNums_size];exact E
   rw [<-m] at W;have Q:=aa m;clear m;go_wp2
   go_ret
   refine⟨?_,k⟩
   rw [Q.out];rfl
theorem jbT (d base:Nat)(o:Value)(B:Bk)(k:Ky)(w:World)(l:ap w d base o B)(r:B.ls.length<=12) :
  Calls prog 123 #[pO d 0,om k] w fun e w'=>e=.returned (.bool (dw k B.ls).isSome)/\B7 w w':=by
 obtain⟨a,g⟩:∃ a,a=w.alloc (ol k):=⟨_,rfl⟩;have f:B7 w a:=g▸ba w;have p:=aa (dY d base o B k a (l.below f lz) r);have i:=aa f;clear l f;go_enter func123,ntmps123
 go_wp2_with fail
 rw [<-g];clear g;refine p.out.mono ?_
 rintro e t ⟨rfl,m⟩;have j:=aa (i.out.trans (m.mono i.out.size));clear m;unfold ew;cases b:dw k B.ls with
 | none=>
  have c:=aa b;clear b;dsimp only;go_wp2_with fail
  go_ret
  exact⟨by rw [c.out];rfl,j.out⟩
 | some n=>
  have q:(0:Int)<=(n:Int):=by omega
  have s:¬(n:Int)<0:=by omega
  have c:=aa b;clear b;dsimp only;go_wp2_with fail
  go_ret
  exact⟨by rw [c.out];simp [q],j.out⟩
def putM (B:Bk)(i:Nat)(l:Ln)(a b:Int):Bk:=⟨B.time,B.ls.set i ⟨l.k,l.kd,l.x,l.y,a,b⟩⟩
theorem jcr (f base:Nat)(m:Value)(B:Bk)(k:Ky)(i:Nat)(l:Ln)(a b:Int)(w:World)(y:ap w f base m B)(H:B.ls.length<=12)(A:dw k B.ls=some i)(u:B.ls[i]?=some l) :
  Calls prog 85 #[pO f 0,om k,.int .u64 a,.int .u64 b] w fun e w'=>e=.returned (.tuple #[])/\ap w' f base m (putM B i l a b)/\ae (fun b=>m.ownBlock=some b) w w':=by
 obtain⟨j,s⟩:∃ j,j=w.alloc (ol k):=⟨_,rfl⟩;have r:B7 w j:=s▸ba w;have q:=y.below r lz;have o:=aa (dY f base m B k j q H);have v:=aa q;have n:=aa r;have z:ew k B.ls=(i:Int):=by unfold ew;rw [A]
 rw [z] at o;have x:=aa u;obtain⟨M,_⟩:=List.getElem?_eq_some_iff.1 u;have N:(i:Int)<(B.ls.length:Int):=by omega
 have L:(B.ls.length:Int)<=12:=by omega
 have K:(0:Int)<=(i:Int):=by omega
 clear y r q z A u;go_enter func85,ntmps85
 go_wp2_with fail
 rw [<-s];clear s;refine o.out.mono ?_
 rintro e C ⟨rfl,t⟩;have d:=v.out.below t lz;obtain⟨c,F,rfl,_,J,p,_⟩:=d.open x.out;have O:=ab d.hb 0;have P:=p.c11;have Q:=p.c12;have R:C.frozen? ⟨c,i * 13+11,none⟩=false:=d.ho.frozenAt _;have T:C.frozen? ⟨c,i * 13+12,none⟩=false:=d.ho.frozenAt _;have G:c≠f:=ax d.ho (g:=c) rfl d.hb (by decide);have I:f≠c:=fun e=>G e.symm;have D:=aa d;have E:=aa (n.out.trans (t.mono n.out.size));clear t d p o v n;go_wp2_with fail
 go_end0
 refine⟨rfl,?_,?_⟩
 ·exact D.out.store x.out a b
 ·exact ((ae.of_below (S:=fun b=>(Value.slice (some ⟨c,0,none⟩) B.ls.length F).ownBlock=some b) E.out).set (b:=c) (il rfl) _ _).set (b:=c) (il rfl) _ _
theorem jB {d:Array Oper}{o:Oper}{a:Act}{w:World}{b:Act->World->Prop}{i:Exit->Act->World->Prop}{g:Prop}(k:o.guard=none)(s x:Operand)(t e:TypeId)(c:TypeInfo)(size:Nat)
  (u:prog.underlying t=some (.slice e)) (l:prog.info? e=some c)
  (m:o.op=.call { callee:=.builtin .append,args:=#[s,x],argTypes:=#[t,t] }) (base:Nat) (v:Value) (n:Nat) (f:List Value) (r:a.eval s=v) (p:w.ownsRow base e size v n f) (z:a.eval x=.slice none 0 0) (j:b (a.put o.dst v) w) :
  if Region.wanted o (yielded d a.tmps)=true then Oper.wp prog o a w b i else g:=by
 have y:Region.wanted o (yielded d a.tmps)=true:=by simp [Region.wanted,k]
 rw [if_pos y];have q:=run_append_owned_none (P:=prog) (w:=w) base t o.type e c size u l v n f p;unfold Oper.wp execOp;simp only [m,resolve,invoke,builtin,Sem.run_bind,Sem.run_pure,Result.andThen_ok,List.map_toArray,List.map_cons,List.map_nil,r,z,q];exact j
theorem sX {w:World}{base size n:Nat}{e:TypeId}{v:Value}{i:List Value}(b:w.ownsRow base e size v n i):(v=.slice none 0 0/\n=0)\/∃ g a,v=.slice (some ⟨g,0,none⟩) n a:=by
 rcases b.2 with ⟨c,d⟩ | ⟨g,a,j,f,_⟩
 ·exact il ⟨c,d⟩
 ·exact ir ⟨g,a,f⟩
def ja7 (w:World)(B:Bk)(e:Ending)(w':World):Prop:=∃ a b,e=.returned (.pointer (some ⟨a,0,none⟩))/\ap w' a w.heap.size b B/\w.heap.size<=a/\B7 w w'
theorem qi {w w4:World}{B:Bk}{v:Value}(b:w4.ownsRow w.heap.size 106 13 v B.ls.length (bX B.ls))(a:B7 w w4):ap (w4.alloc (ur v B.time)) w4.heap.size w.heap.size v B/\w.heap.size<=w4.heap.size/\B7 w (w4.alloc (ur v B.time)):=
 ⟨⟨ag _ _,ar b (fun _ c=>ah _ _ (aj b c).2)⟩,a.size,a.alloc a.size _⟩
theorem jp (p base:Nat)(b:Value)(B:Bk)(w:World)(l:ap w p base b B)(V:B.ls.length<=12) :
  Calls prog 56 #[pO p 0] w fun e w'=>ja7 w B e w':=by
 obtain⟨E,A,N,O,P⟩:=info_parts Tryz.info139;have o:=ab l.hb;have J:=an l.hb;have n:=aa l;clear l;go_enter func56,ntmps56
 go_wp2_with fail
 rcases sX n.out.ho with ⟨rfl,y⟩ | ⟨x,I,rfl⟩
 ·have F:Hid (B.ls=[]):=aa (List.length_eq_zero_iff.1 y);clear y;go_cut [2] (fun s k=>∃ a b,s=.pointer (some ⟨a,0,none⟩)/\ap k a w.heap.size b B/\w.heap.size<=a/\B7 w k)
  case first=>
   go_region_law (refine jB (by rfl) _ _ 32 106 E 13 underlying32 A (by rfl) w.heap.size (.slice none 0 0) 0 [] (by rfl) (World.ownsRow_nil _ _ _ _) (by rfl) ?_)
   all_goals (go_wp2_with fail;go_meet)
   all_goals (
     have q:=qi (w:=w) (w4:=w.drew) (B:=B) (v:=.slice none 0 0) (by rw [F.out];exact World.ownsRow_nil _ _ _ _) (Below.refl _ w).drew;exact⟨_,_,rfl,q⟩)
  case rest=>
   obtain⟨a,b,rfl,f⟩:=hcut;have m:=aa f;clear f o;go_wp2_with fail
   go_ret
   exact⟨a,b,rfl,m.out⟩
 ·obtain⟨c,g⟩:∃ c,c=B.ls.length:=⟨_,rfl⟩;rw [<-g] at o;have u:=aa g;have X:c<=12:=by omega
  have t:Hid ((bX B.ls).length=c * 13):=aa (by rw [qF,g]);have H:Hid (∀ i j,(bX B.ls)[i]?=some j->w.drew.cell? ((⟨x,0,none⟩:Addr).add i)=some j):=aa (fun i j C=>by
    have K:i<c * 13:=by
      have:=(List.getElem?_eq_some_iff.1 C).1;rw [t.out] at this;exact this
    have D:=n.out.ho;rw [<-g] at D;rw [Addr.add_lit,Nat.zero_add,<-C];exact D.cellAt i K)
  have G:Hid (∀ j∈bX B.ls,j.oneCell'=true):=aa (lx B.ls);clear g;go_cut [2] (fun s k=>∃ a b,s=.pointer (some ⟨a,0,none⟩)/\ap k a w.heap.size b B/\w.heap.size<=a/\B7 w k)
  case first=>
   go_region_law (refine bh (by rfl) _ _ 32 106 E ZL 13 48 underlying32 A N O P (by rfl) (by decide) (by rfl) w.heap.size (.slice none 0 0) 0 [] (by rfl) (World.ownsRow_nil _ _ _ _) ⟨x,0,none⟩ c I (bX B.ls) (by rfl) t.out H.out G.out (by omega) (by omega) lz ?_;intro Y R r d W;rw [Nat.zero_add,List.nil_append] at r;obtain⟨S,T,M⟩:=az r;subst M;have z:=(d.block p J (by simp [Value.ownBlock])).trans n.out.hb;rw [<-u.out] at z;have U:=ab z)
   all_goals (go_wp2_with fail;go_meet)
   all_goals (
     have q:=qi (w:=w) (w4:=R) (B:=B) (v:=.slice S c T) (by rw [<-u.out];exact r) ⟨d.os,d.tape,d.output,d.size,fun Q L=>d.block Q L (by simp [Value.ownBlock])⟩;exact⟨_,_,rfl,q⟩)
  case rest=>
   obtain⟨a,b,rfl,f⟩:=hcut;have m:=aa f;clear f o;go_wp2_with fail
   go_ret
   exact⟨a,b,rfl,m.out⟩
theorem sC (a db nb d:Nat)(O C:Value)(blk l f:Int)(w:World)(a0:U7 blk)(o:w.heap[a]?=some (Oq db O C blk))(j:w.heap[db]?=some (ox d nb l f))(p:w.heap[d]?=some (.map #[] 0))(q:w.heap[nb]?=some (.map #[] 0))(a6:d≠nb) :
  Calls prog 8 #[pO a 0,.int .i64 (-1),.int .i64 (-1),.int .i64 0,.int .i64 0] w fun e w'=>∃ g F,e=.returned (.int .i64 0)/\w.heap.size<=g/\w'.heap[a]?=some (oO db g blk)/\aU db blk ⟨0,true⟩ (bu 0) w' 0 g ⟨0,0,[]⟩ F/\(∀ b,F b->b=db\/b=d\/b=nb\/w.heap.size<=b)/\¬F a/\ae (fun b=>b=a\/b=db) w w':=by
 have bv:=an o;have bs:=an j;have r:a≠db:=by
  intro e;subst e;rw [o] at j;simp at j
 have L:nb≠db:=by
  intro e;subst e;rw [j] at q;simp at q
 have K:d≠db:=by
  intro e;subst e;rw [j] at p;simp at p
 have a5:d≠a:=by
  intro e;subst e;rw [o] at p;simp at p
 have bb:nb≠a:=by
  intro e;subst e;rw [o] at q;simp at q
 obtain⟨i,n⟩:∃ i,i=((w.setCell ⟨db,3,none⟩ (.int .i64 (-1))).setCell ⟨db,4,none⟩ (.int .i64 (-1))).drew:=⟨_,rfl⟩;have x:i.heap[a]?=some (Oq db O C blk):=by rw [n,aF,ac r,ac r];exact o
 have z:i.heap[db]?=some (oB d nb):=by rw [n,aF];simpa using ai (ai j 3 (.int .i64 (-1))) 4 (.int .i64 (-1))
 have a4:i.heap[d]?=some (.map #[] 0):=by rw [n,aF,ac K,ac K];exact p
 have a8:i.heap[nb]?=some (.map #[] 0):=by rw [n,aF,ac L,ac L];exact q
 have E:ae (fun b=>b=a\/b=db) w i:=n▸(ae.set (S:=fun b=>b=a\/b=db) (b:=db) (ae.set (S:=fun b=>b=a\/b=db) (b:=db) (ae.refl _ w) (il (ir rfl)) _ _) (il (ir rfl)) _ _).drew;have P:=ab o 0;have Q:=ab j;have R:=af j;have bi:¬a=db:=r;have N:¬db=a:=fun e=>r e.symm;go_enter func8,ntmps8
 go_upto_region 1 with fail
 go_cut [] (fun bk=>bk=i)
 case first=>
  go_region_held3 (fun w'=>w'.cell? ⟨a,0,none⟩=some (.pointer (some ⟨db,0,none⟩))) (go_keep) (fail)
  all_goals (go_wp2_with fail;go_meet)
  all_goals exact n.symm
 case rest=>
  subst hcut;clear n P Q R;have a2:=(aF _ db).trans z;have a3:=(aF _ d).trans a4;have a7:=(aF _ nb).trans a8;have T:=ab x 0;have U:=ab x 3;go_upto_region 2 with fail
  go_region_held3 (fun w'=>w'.cell? ⟨a,0,none⟩=some (.pointer (some ⟨db,0,none⟩))/\w'.cell? ⟨a,3,none⟩=some (.int .u64 blk)) (first | go_keep | (exact⟨ab v 0,ab v 3⟩))
   (first | (go_at_call 28;refine (jch db d nb blk _ a0 a2 (al.empty a3) (al.empty a7) a6).mono ?_;rintro e bw ⟨g,F,rfl,bd,ao,Z,t⟩;have v:=(t.block a (an x)).trans x))
  have bl:=t.size;have M:=E.size;have I:=(t.block db (an z)).trans z;go_wp2_with fail
  refine (jh _).mono ?_
  rintro e bj ⟨rfl,u⟩;have A:=(u.block a (an v)).trans v;have a1:=(u.block db (an I)).trans I;have av:=ao.below u lz;have V:=ab A;have W:=af A;clear T U;go_wp2_with fail
  obtain⟨k,m⟩:∃ k,k=(bj.setCell ⟨a,1,none⟩ (.pointer (some ⟨g,0,none⟩))).setCell ⟨a,2,none⟩ (.slice none 0 0):=⟨_,rfl⟩;rw [<-m];have B:k.heap[a]?=some (oO db g blk):=by rw [m];simpa using ai (ai A 1 (.pointer (some ⟨g,0,none⟩))) 2 (.slice none 0 0)
  have J:k.heap[db]?=some (oB d nb):=by rw [m,ac N,ac N];exact a1
  have D:∀ b,F b->b=db\/b=d\/b=nb\/w.heap.size<=b:=fun b c=>(Z b c).imp id (fun c=>c.imp id (fun c=>c.imp id (fun c=>lq M c)));have y:∀ b,F b->b≠a:=fun b c e=>by
   rcases D b c with c | c | c | c
   ·exact bi (e.symm.trans c)
   ·exact a5 (c.symm.trans e)
   ·exact bb (c.symm.trans e)
   ·omega
  have G:aU db blk ⟨0,true⟩ (bu 4000000) k 0 g ⟨0,0,[]⟩ F:=av.kept (by rw [m];simp) (fun b H=>by rw [m,ac (y b H),ac (y b H)]);have ad:ae (fun b=>b=a\/b=db) w k:=by
   have bg:=(E.drew.trans (ae.of_below t)).trans (ae.of_below u);rw [m];exact ae.set (S:=fun b=>b=a\/b=db) (b:=a) (ae.set (S:=fun b=>b=a\/b=db) (b:=a) bg (il (il rfl)) _ _) (il (il rfl)) _ _
  clear m V W;refine (gL a db (some d) (some nb) _ _ _ _ (-1) (-1) 0 0 k B J).mono ?_
  rintro e bz ⟨rfl,X,s⟩;go_wp2
  go_ret
  refine⟨g,F,rfl,lq M bd,(s.block a (an B) r).trans B,(G.refill J X s.size (fun b Y a9=>s.block b (G.lt b Y) a9)).less ⟨by decide,by decide⟩,D,fun c=>y a c rfl,ad.then s (fun bo _ c=>ir c)⟩
def HG (e db:Nat)(F:NP)(d:Value)(f:Nat)(c:Nat->Nat)(b:Nat):Prop:=b=e\/b=db\/F b\/d.ownBlock=some b\/∃ a,a<f/\b=c a
structure cM (w:World)(hb db _nb sb:Nat)(_mb:Option Nat)(blk:Int)(D:Dx)(L:Ld)(F:NP)(B:Nat)(cv:Value)(m:Nat)(cb:Nat->Nat)(c:Nat->Cn):Prop where
 hh:w.heap[hb]?=some (OE db sb cv blk)
 hd:F db
 hs:aU db blk D (bu 0) w 0 sb L F
 hc:∀ i,i<m->jl w sb (cb i) (c i) F
 hi:∀ i j,i<m->j<m->cb i=cb j->i=j
 ho:w.ownsRow B 113 1 cv m (ge cb m)
 hF:∀ g,(g=hb\/False\/cv.ownBlock=some g)->¬F g
 lo:∀ b,HG hb db F cv m cb b->B<=b
 fr:∀ i,m<=i->c i=⟨[],false⟩
theorem Tryz.info76:(prog.info? 113).map (fun i=>(i.zero,i.size,i.bytes))=some (some (.pointer none),1,8):=by kernel_rfl
theorem sj (a:Nat)(w:World):Calls prog 42 #[.pointer (some ⟨a,0,none⟩)] w fun e w'=>e=.returned (.pointer (some ⟨w.heap.size,0,none⟩))/\w'.heap[w.heap.size]?=some (OT a)/\w'.heap.size=w.heap.size+1/\B7 w w':=by
 refine (jaa a w).mono ?_
 rintro e w' ⟨rfl,rfl⟩;exact⟨rfl,ag _ _,by simp,ba w⟩
theorem pK {d:Array Oper}{o:Oper}{a:Act}{w:World}{c:Act->World->Prop}{f:Exit->Act->World->Prop}{e:Prop}(l:o.guard=none)(x:Operand)
  (m:o.op=.call { callee:=.value (.func 42),args:=#[x],argTypes:=#[85] }) (b:Nat) (q:a.eval x=.pointer (some ⟨b,0,none⟩))
  (k:∀ w',w'.heap[w.heap.size]?=some (OT b)->w'.heap.size=w.heap.size+1->B7 w w'->c (a.put o.dst (.pointer (some ⟨w.heap.size,0,none⟩))) w') :
  if Region.wanted o (yielded d a.tmps)=true then Oper.wp prog o a w c f else e:=by
 have p:Region.wanted o (yielded d a.tmps)=true:=by simp [Region.wanted,l]
 rw [if_pos p];have n:(execOp a.eval o).run prog w=.ok (.enter 42 #[.pointer (some ⟨b,0,none⟩)]) w:=by
  simp [execOp,m,resolve,invoke,go_sem];rw [<-q];cases x <;> simp [Act.eval]
 unfold Oper.wp;rw [n,Oper.upon_enter];refine (sj b w).mono ?_
 rintro r w' ⟨rfl,g,i,j⟩;exact k w' g i j
theorem cM.kept {w w':World}{j db nb t:Nat}{s:Option Nat}{blk:Int}{D:Dx}{L:Ld}{F:NP}{B:Nat}{p:Value}{r:Nat}{o:Nat->Nat}{c:Nat->Cn}(H:cM w j db nb t s blk D L F B p r o c)(m:w.heap.size<=w'.heap.size)(b:∀ k,k<w.heap.size->w'.heap[k]?=w.heap[k]?):cM w' j db nb t s blk D L F B p r o c:=by
 refine⟨(b j (an H.hh)).trans H.hh,H.hd,H.hs.kept m (fun n y=>b n (H.hs.lt n y)),fun A z=>?_,H.hi,ar H.ho (fun a l=>b a (aj H.ho l).2),H.hF,H.lo,H.fr⟩
 obtain⟨⟨u,q,v,g⟩,x⟩:=H.hc A z;exact⟨⟨u,(b _ (an q)).trans q,v.kept m (fun a f e d _ l=>b a l),fun a f e d i=>⟨(g a f e d i).1,(g a f e d i).2.1,ll (g a f e d i).2.2 m⟩⟩,x⟩
theorem cM.quiet {w w':World}{d db nb t:Nat}{s:Option Nat}{blk:Int}{D:Dx}{L:Ld}{F:NP}{B:Nat}{g:Value}{n:Nat}{f:Nat->Nat}{c:Nat->Cn}(H:cM w d db nb t s blk D L F B g n f c)(C:∀ i,(c i).waits=[])(r:w.heap.size<=w'.heap.size)(e:∀ k,HG d db F g n f k->w'.heap[k]?=w.heap[k]?):cM w' d db nb t s blk D L F B g n f c:=by
 refine⟨(e d (il rfl)).trans H.hh,H.hd,H.hs.kept r (fun u z=>e u (ir (ir (il z)))),fun i q=>?_,H.hi,ar H.ho (fun b A=>e b (ir (ir (ir (il A))))),H.hF,H.lo,H.fr⟩
 obtain⟨⟨v,x,a,l⟩,y⟩:=H.hc i q;refine⟨⟨v,(e _ (ir (ir (ir (ir ⟨i,q,rfl⟩))))).trans x,?_,fun b p o j m=>⟨(l b p o j m).1,(l b p o j m).2.1,ll (l b p o j m).2.2 r⟩⟩,y⟩
 rw [C i] at a ⊢;rcases a with a | ⟨a,_⟩
 ·exact il a
 ·simp at a
theorem cM.lt {w:World}{f db nb l:Nat}{k:Option Nat}{blk:Int}{D:Dx}{L:Ld}{F:NP}{B:Nat}{e:Value}{g:Nat}{d:Nat->Nat}{c:Nat->Cn}(H:cM w f db nb l k blk D L F B e g d c)(b:Nat)(a:HG f db F e g d b):b<w.heap.size:=by
 rcases a with rfl | rfl | a | a | ⟨j,i,rfl⟩
 ·exact an H.hh
 ·exact H.hs.lt _ H.hd
 ·exact H.hs.lt b a
 ·exact (aj H.ho a).2
 ·exact an (H.hc j i).mem.choose_spec.1
def bE (w:World)(f e:Nat)(d:Nat->Nat)(c:Nat->Cn)(g:Nat):Prop:=∀ a,a<e->(c a).waits≠[]->∀ b,w.heap[d a]?=some (uU f b (.bool (c a).bad))->b.ownBlock≠some g
theorem nJ {w w':World}{v:Value}{bs:List Int}(a:jI w v bs)(e:w.heap.size<=w'.heap.size)(c:bs≠[]->∀ g o n d,v=.slice (some ⟨g,o,none⟩) n d->g<w.heap.size->w'.heap[g]?=w.heap[g]?):jI w' v bs:=by
 rcases a with a | a
 ·exact il a
 ·exact jI.kept (ir a) e (c (fun b=>by have:=a.1;rw [b] at this;simp at this))
theorem jd6 (k:Int)(i:Nat)(w:World)(b:-9223372036854775808<=k)(c:k<=9223372036854775807)(a:bq k 3=(i:Int)) :
  Calls prog 43 #[.int .i64 k,.int .i64 3] w fun e w'=>e=.returned (.int .i64 i)/\w'=w:=by
 rw [<-a];exact jy k 3 w (by omega) (by omega) b c
theorem jl.waits_lt {w:World}{e d:Nat}{c:Cn}{F:NP}(n:jl w e d c F){b:Value}(o:w.heap[d]?=some (uI e b c.bad)){g:Nat}(a:b.ownBlock=some g):g<w.heap.size:=by
 obtain⟨i,k,l,m⟩:=n.mem;have j:i=b:=by
  have:=k.symm.trans o;simpa using this
 subst j;rcases l with ⟨_,rfl | ⟨q,r,f,rfl⟩⟩ | ⟨_,q,r,f,rfl,p,_⟩
 ·simp [Value.ownBlock] at a
 ·simp [Value.ownBlock] at a;subst a;exact (m _ _ _ _ rfl).2.2
 ·simp [Value.ownBlock] at a;subst a;exact p
theorem jbo (a:Array Value)(w:World):Sem.run prog (callFunc 44 a) w=.ok (.enter 44 a) w:=by simp [go_sem]
theorem jbq (a:Array Value)(w:World):Sem.run prog (callFunc 43 a) w=.ok (.enter 43 a) w:=by simp [go_sem]
theorem bE.kept {w w':World}{f d:Nat}{b:Nat->Nat}{c:Nat->Cn}{g:Nat}(j:bE w f d b c g)(l:∀ a,a<d->w'.heap[b a]?=w.heap[b a]?):bE w' f d b c g:=
 fun a e m i k=>j a e m i ((l a e).symm.trans k)
theorem Tryz.info92:(prog.info? 97).map (fun i=>(i.zero,i.size,i.bytes))=some (some (.pointer none),1,8):=by kernel_rfl
theorem jay (b:Nat->Nat)(i x:Nat):ge (fun a=>if a=i then x else b a) (i+1)=ge b i ++ [.pointer (some ⟨x,0,none⟩)]:=by
 unfold ge;rw [List.range_succ,List.map_append];congr 1
 ·apply List.map_congr_left
  intro a c;have:=List.mem_range.1 c;show Value.pointer (some ⟨if a=i then x else b a,0,none⟩)=_;rw [if_neg (by omega)]
 ·simp
structure OpI (w:World)(wb:Nat)(C:Value->Array Value)(i:Nat)(v:Value)(tb:Nat->Nat)(wr:World):Prop where
 blk:wr.heap[wb]?=some (.cells (C v) 43)
 own:wr.ownsRow w.heap.size 97 1 v i (ge tb i)
 st:∀ j,j<i->wr.heap[tb j]?=some (uH)/\w.heap.size<=tb j
 inj:∀ j k,j<i->k<i->tb j=tb k->j=k
 keep:ae (fun b=>b=wb) w wr
theorem sQ (f:Nat)(t u bg x V y z A E F G H I J K L B C D T U least ad:Value)(w:World)(r:w.heap[f]?=some (.cells #[t,u,bg,x,V,y,z,A,E,F,G,H,I,J,K,L,B,C,D,T,U,least,ad] 43)) :
  Calls prog 10 #[pO f 0] w fun e w'=>e=.returned (.tuple #[])/\∃ v k,OpI w f (fun v=>#[t,u,v,x,.bool false,y,z,A,E,F,G,H,I,J,K,L,B,C,D,T,U,least,.int .u64 0]) 3 v k w':=by
 obtain⟨b4,q,b0,b1,b2⟩:=info_parts Tryz.info92;have bb:=ab r;have bd:=af r;have cr:=an r;have a9:=aa r;clear r;go_enter func10,ntmps10
 go_wp2_with fail
 go_loopw [2] (fun av wr=>∃ a:Nat,∃ v k,a<=3/\av=.int .i64 a/\OpI w f (fun v=>#[t,u,v,x,V,y,z,A,E,F,G,H,I,J,K,L,B,C,D,T,U,least,ad]) a v k wr) (fun av _=>3 - (intOf av).toNat)
 case atStart=>
  refine⟨0,.slice none 0 0,fun _=>0,by omega,rfl,⟨by simpa using ai a9.out 2 _,World.ownsRow_nil _ _ _ _,fun c q=>by omega,fun c Q q=>by omega,ae.set (S:=fun j=>j=f) (b:=f) (ae.refl _ w) (il rfl) _ _⟩⟩
 case round=>
  obtain⟨a,v,k,cl,rfl,p⟩:=hrel;obtain⟨m,n,rfl⟩:=az p.own;have O:wr.heap[f]?=some (.cells #[t,u,.slice m a n,x,V,y,z,A,E,F,G,H,I,J,K,L,B,C,D,T,U,least,ad] 43):=p.blk;have b8:=ab O;have b9:=af O;have bs:=p.keep.size;have d:=aa p;have s:=aa O;clear p bb bd O;by_cases cq:a<3
  ·have cn:(a:Int)<3:=by omega
   have cb:=fun ao c=>cf s.out ao c;have cc:=fun ao R c=>cf (aC s.out ao) R c;have a8:Hid (∀ a6 R,((wr.alloc a6).alloc R).ownsRow w.heap.size 97 1 (.slice m a n) a (ge k a)):=aa (fun a6 R=>ar d.out.own (fun g i=>by
     have:=aj d.out.own i;exact (ah _ _ (by simp;omega)).trans (ah _ _ (by omega))))
   have bz:(Value.slice m a n).ownBlock≠some f:=fun e=>by have:=aj d.out.own e;omega
   go_wp2_with (at_builtin;refine wpList_append_own_at _ rfl _ _ 35 rfl w.heap.size 97 b4 (.pointer none) 1 8 underlying35 q b0 b1 b2 rfl (by decide) (.slice m a n) a (ge k a) rfl (a8.out _ _) ⟨wr.heap.size+1,0,none⟩ 1 1 [.pointer (some ⟨wr.heap.size,0,none⟩)] rfl rfl (fun c cs bl=>by rw [Addr.add_lit,Nat.zero_add,<-bl];exact (ab (aD (by simp)) c).trans (by simp)) (by simp [Value.oneCell']) (by unfold maxLen;omega) (by omega) (by simp;omega) ?_;intro ct a1 Z Y bw a5;obtain⟨b5,b6,b3⟩:=az Z;subst b3;have N:=(Y.block f (by simp;omega) (fun e=>bz e.symm)).trans (aC (aC s.out _) _);have ch:=ab N;have ci:=af N;have a2:=aa Z;have l:=aa Y;have a7:=aa N;have b7:=aa a5;clear Z Y bw a5 N)
   go_roundw
   case rel=>
    have a4:=l.out.size;have ck:wr.heap.size+2<=a1.heap.size:=by simp at a4;omega
    have bu:∀ g,g<w.heap.size->(Value.slice m a n).ownBlock≠some g:=fun g i e=>by have:=aj d.out.own e;omega
    have o:=((d.out.keep).alloc (uH)).alloc (.cells #[.pointer (some ⟨wr.heap.size,0,none⟩)] 97);have bo:ae (fun j=>j=f) w a1:=⟨l.out.os.trans o.os,l.out.tape.trans o.tape,l.out.output.trans o.output,lq o.size a4,fun g i bj=>(l.out.block g (ll i o.size) (fun e=>bu g i e.symm)).trans (o.block g i bj)⟩;have bF:∀ g a3 a0,wr.heap[g]?=some (.cells a3 a0)->a0≠97->(Value.slice m a n).ownBlock≠some g:=fun g a3 a0 i bK e=>ax d.out.own e i bK rfl;have bv:a1.heap[wr.heap.size]?=some (uH):=(l.out.block wr.heap.size (by simp;omega) (fun e=>by have:=aj d.out.own e.symm;omega)).trans (aC (ag _ _) _);refine⟨a+1,.slice b5 (a+1) b6,fun c=>if c=a then wr.heap.size else k c,by omega,by go_num,⟨by simpa using ai a7.out 2 _,?_,?_,?_,ae.set (S:=fun j=>j=f) (b:=f) bo (il rfl) _ _⟩⟩
    ·rw [jay];refine ar a2.out (fun g i=>?_)
     have:=aj a2.out i;exact ac (by omega) _ _
    ·intro c bk;by_cases e:c=a
     ·rw [if_pos e];exact⟨(ac (by omega) _ _).trans bv,bs⟩
     ·rw [if_neg e];have M:=d.out.st c (by omega);have bi:=an M.1;exact⟨(ac (by omega) _ _).trans ((l.out.block (k c) (by simp;omega) (fun e=>bF _ _ _ M.1 (by decide) e.symm)).trans ((ah _ _ (by simp;omega)).trans ((ah _ _ bi).trans M.1))),M.2⟩
    ·intro c Q bk cp P;by_cases W:c=a <;> by_cases X:Q=a
     ·omega
     ·rw [if_pos W,if_neg X] at P;have:=an (d.out.st Q (by omega)).1;omega
     ·rw [if_neg W,if_pos X] at P;have:=an (d.out.st c (by omega)).1;omega
     ·rw [if_neg W,if_neg X] at P;exact d.out.inj c Q (by omega) (by omega) P
   case measure=>simp [intOf];omega
  ·obtain rfl:a=3:=by omega
   go_wp2_with fail
   go_end0
   refine⟨rfl,.slice m 3 n,k,⟨by simpa using ai (ai s.out 4 _) 22 _,?_,?_,d.out.inj,ae.set (S:=fun j=>j=f) (b:=f) (ae.set (S:=fun j=>j=f) (b:=f) d.out.keep (il rfl) _ _) (il rfl) _ _⟩⟩
   ·refine ar d.out.own (fun g i=>?_)
    have:=aj d.out.own i;exact (ac (by omega) _ _).trans (ac (by omega) _ _)
   ·intro c q;have:=d.out.st c q;exact⟨(ac (by omega) _ _).trans ((ac (by omega) _ _).trans this.1),this.2⟩
structure Sp where
 kind:Int
 conn:Int
 now:Int
 qs:List Rq
 raw:ByteArray
 cut:Int
 left:Int
 full:Int
 kept:Int
 part:Int
abbrev pP (p:Sp)(v:Value):List Value:=[.int .i64 p.kind,.int .i64 p.conn,.int .u64 p.now,v,.string p.raw,.int .i64 p.cut,.int .i64 p.left,.int .i64 p.full,.int .i64 p.kept,.int .i64 p.part]
def rr:List Sp->List Value->List Value
 | p :: ps,v :: vs=>pP p v ++ rr ps vs
 | _,_=>[]
theorem ja2:∀ (ps:List Sp) (c:List Value) (p:Sp) (v:Value),ps.length=c.length->rr (ps ++ [p]) (c ++ [v])=rr ps c ++ pP p v
 | [],[],_,_,_=>rfl
 | a :: ps,b :: c,p,v,h=>by
  show pP a b ++ rr (ps ++ [p]) (c ++ [v])=pP a b ++ rr ps c ++ pP p v;rw [ja2 ps c p v (by simpa using h),List.append_assoc]
 | [],_ :: _,_,_,h=>by simp at h
 | _ :: _,[],_,_,h=>by simp at h
theorem jcY (x:Nat)(e:x<10):∀ (ps:List Sp) (a:List Value) (i:Nat) (c:i<ps.length) (d:i<a.length),(rr ps a)[i * 10+x]?=(pP ps[i] a[i])[x]?
 | p :: ps,v :: a,0,_,_=>by
  show (pP p v ++ rr ps a)[0 * 10+x]?=_;rw [Nat.zero_mul,Nat.zero_add,List.getElem?_append_left (by simpa using e)];rfl
 | p :: ps,v :: a,i+1,c,d=>by
  have b:(pP p v).length=10:=rfl;show (pP p v ++ rr ps a)[(i+1) * 10+x]?=_;rw [List.getElem?_append_right (by rw [b];omega),b,show (i+1) * 10+x - 10=i * 10+x by omega,jcY x e ps a i (by simpa using c) (by simpa using d)];rfl
def fq (b:List Rq):List Rq:=b.filter (fun a=>decide (a.op≠5))
theorem jgp (a:List Rq)(k:Nat)(d:k<a.length):fq (a.take (k+1))=if a[k].op=5 then fq (a.take k) else fq (a.take k) ++ [a[k]]:=by
 have c:a.take (k+1)=a.take k ++ [a[k]]:=by rw [List.take_add_one,List.getElem?_eq_getElem d];rfl
 unfold fq;rw [c,List.filter_append];by_cases b:a[k].op=5
 ·simp [b]
 ·simp [b]
theorem jgq (a:List Rq):(fq a).length<=a.length:=List.length_filter_le _ _
def gS (w:World)(v:Value)(a:List Rq):Prop:=∃ e f,v=.slice e a.length f/\a.length<=f/\(0<a.length->∃ b g,e=some ⟨b,g,none⟩/\b<w.heap.size/\∀ c (i:c<a.length) d,d<13->w.cell? ⟨b,g+c * 13+d,none⟩=(rqw a[c])[d]?)
theorem jco {w:World}{base e j:Nat}{v:Value}{n:Nat}{k:List Value}(d:w.ownsRow base e j v n k){g:Nat}(a:v.ownBlock=some g):∃ c b,w.heap[g]?=some (.cells c e b):=by
 rcases d.2 with ⟨rfl,rfl⟩ | ⟨o,l,m,i,_,f,_⟩
 ·simp [Value.ownBlock] at a
 ·rw [i] at a;simp [Value.ownBlock] at a;subst a;exact⟨_,_,f⟩
structure Rq.byt (q:Rq):Prop where
 op:0<=q.op/\q.op<=255
 kd:0<=q.kd/\q.kd<=255
theorem jae (q:Rq)(e:q.ok)(d:q.byt):Bytes q.enc:=by
 have b:=e.key;have f:=b.h0;have g:=b.h1;have i:=b.h2;have j:=b.h3;have k:=b.h4;have l:=b.h5;have m:=b.h6;have n:=b.h7;have o:=d.kd;have p:=d.op;simp only [Rq.key] at f g i j k l m n;unfold Rq.enc gm;split
 ·refine (Bytes.app ?_ (bY _)).app (bY _)
  intro c a;simp only [List.mem_cons,List.not_mem_nil,or_false] at a;omega
 ·split
  ·refine Bytes.app ?_ (bY _)
   intro c a;simp only [List.mem_cons,List.not_mem_nil,or_false] at a;omega
  ·split
   ·intro c a;simp only [List.mem_cons,List.not_mem_nil,or_false] at a;omega
   ·split
    ·intro c a;simp only [List.mem_cons,List.not_mem_nil,or_false] at a;omega
    ·intro c a;simp at a
theorem qu (d:List Rq)(b:∀ q∈d,q.ok/\q.byt):Bytes (bZ d):=by
 intro e a;obtain⟨q,c,a⟩:=List.mem_flatMap.1 a;exact jae q (b q c).1 (b q c).2 e a
abbrev rqcl (q:Rq):List Value:=[.int .u8 q.op,.int .u8 q.k0,.int .u8 q.k1,.int .u8 q.k2,.int .u8 q.k3,.int .u8 q.k4,.int .u8 q.k5,.int .u8 q.k6,.int .u8 q.k7,.int .u8 q.kd,.int .u64 q.x,.int .u64 q.y,.int .u64 q.n]
def lY (a rs:Nat->Nat):Nat->Nat
 | 0=>0
 | i+1=>lY a rs i+26 * a i+rs i
def je1 (n:Nat)(b rs:Nat->Nat)(e:Ending):Prop:=∃ a,e=.returned (.bool a)/\(a=true->n+lY b rs n<=16384)
theorem jeA (v:Option Addr)(n x:Nat)(d rs:Nat->Nat)(w:World)(U:n<=x)(T:n<=2000000)(B:∀ i,i<n->d i<=2000000)(C:∀ i,i<n->rs i<=2000000)
  (z:0<n->∃ c o,v=some ⟨c,o,none⟩/\c<w.heap.size/\∀ i,i<n->(∃ r s,w.cell? ⟨c,o+i * 10+3,none⟩=some (.slice r (d i) s))/\∃ f:ByteArray,w.cell? ⟨c,o+i * 10+4,none⟩=some (.string f)/\f.size=rs i) :
  Calls prog 41 #[.slice v n x] w fun e w'=>je1 n d rs e/\B7 w w':=by
 have F:=aa z;have H:=aa B;have I:=aa C;clear z B C;go_enter func41,ntmps41
 go_wp2
 go_loopw [3,4] (fun P t wr=>∃ i:Nat,i<=n/\t=.int .i64 i/\P=.int .i64 ((n+lY d rs i:Nat):Int)/\n+lY d rs i<=60000000/\B7 w wr) (fun _ t _=>n - (intOf t).toNat)
 case atStart=>exact⟨0,by omega,rfl,by simp [lY],by simp [lY];omega,Below.refl _ _⟩
 case round=>
  obtain⟨i,R,rfl,rfl,O,g⟩:=hrel;obtain⟨a,l⟩:∃ a,a=n+lY d rs i:=⟨_,rfl⟩;rw [<-l] at O ⊢;have u:=aa l;clear l;by_cases m:i<n
  ·by_cases W:a<=16384
   ·obtain⟨c,o,rfl,y,A⟩:=F.out (by omega);obtain⟨⟨r,s,D⟩,f,E,q⟩:=A i m;have K:wr.cell? ⟨c,o+i * 10+3,none⟩=some (.slice r (d i) s):=(g.cell (p:=⟨c,o+i * 10+3,none⟩) y).trans D;have Q:wr.cell? ⟨c,o+i * 10+4,none⟩=some (.string f):=(g.cell (p:=⟨c,o+i * 10+4,none⟩) y).trans E;obtain⟨b,j⟩:∃ b,b=d i:=⟨_,rfl⟩;rw [<-j] at K;have X:b<=2000000:=j▸H.out i m;have V:f.size<=2000000:=q▸I.out i m;have J:=aa j;have G:=aa q;have M:(i:Int)<(n:Int):=by omega
    have S:(0:Int)<=(i:Int):=by omega
    have N:(a:Int)<=16384:=by omega
    have Y:IntKind.i64.wrap (26 * (b:Int))=26 * (b:Int):=by rw [IntKind.wrap_i64];omega
    have Z:IntKind.i64.wrap ((a:Int)+26 * (b:Int))=(a:Int)+26 * (b:Int):=by rw [IntKind.wrap_i64];omega
    have ad:IntKind.i64.wrap ((a:Int)+26 * (b:Int)+(f.size:Int))=(a:Int)+26 * (b:Int)+(f.size:Int):=by rw [IntKind.wrap_i64];omega
    clear D E A j q;go_upto_region 5 with fail
    go_region
    all_goals go_wp2
    all_goals go_roundw
    ·have L:n+lY d rs (i+1)=a+26 * b+f.size:=by
      have:=u.out;have:=J.out;have:=G.out;unfold lY;omega
     refine⟨i+1,by omega,by go_num,?_,by omega,g.drew⟩
     rw [L];simp
    ·simp [intOf];omega
   ·have N:¬(a:Int)<=16384:=by omega
    have M:(i:Int)<(n:Int):=by omega
    go_wp2
    go_ret
    exact⟨⟨false,rfl,fun k=>by simp at k⟩,g⟩
  ·obtain rfl:i=n:=by omega
   go_wp2
   go_ret
   refine⟨⟨_,rfl,fun k=>?_⟩,g⟩
   have:=u.out;simp at k;omega
end Go.Proofs.YtlcnkcgmjnfbiaaGreatDoor
namespace Go.Proofs.YtlcnkcgmjnfbiaaGreatDoor
open Go.Proofs.Tryz
open Go.ChangeShapes Go.WideShapes Go.ChangeAt Go.RowKit Go.Joins
variable [dK] [iK]
theorem Tryz.cells28:prog.cellsOf 41=13:=by kernel_rfl
theorem Tryz.cells23:prog.cellsOf 37=8:=by kernel_rfl
theorem Tryz.cells26:prog.cellsOf 39=3:=by kernel_rfl
theorem Tryz.cells5:prog.cellsOf 5=1:=by kernel_rfl
theorem Tryz.cells24:prog.cellsOf 24=1:=by kernel_rfl
theorem jfr {o:List Value}(p:o.length=13):∃ a b f g i j k l m n c d e,o=[a,b,f,g,i,j,k,l,m,n,c,d,e]:=by
 match o,p with
 | [a,b,f,g,i,j,k,l,m,n,c,d,e],_=>exact⟨a,b,f,g,i,j,k,l,m,n,c,d,e,rfl⟩
theorem ic {H:Type}{enc:TypeId×Value->H}{d:World}{base n:Nat}{i:Nat->Bool}{g:Bool}{c:Value}{x:DataW H×List MemPlace}(e:DataW.trod enc prog d base i g n 5 [c]=some x):∃ a,c=.int .u8 a/\0<=a/\a<=255:=by
 obtain⟨a,b,_,j⟩:=DataW.trod_int underlying5 e;have f:=bounds_u8 j;simp at b;exact⟨a,b,f.1,by omega⟩
theorem pM {H:Type}{enc:TypeId×Value->H}{d:World}{base n:Nat}{i:Nat->Bool}{g:Bool}{c:Value}{x:DataW H×List MemPlace}(e:DataW.trod enc prog d base i g n 24 [c]=some x):∃ a,c=.int .u64 a/\U7 a:=by
 obtain⟨a,b,_,j⟩:=DataW.trod_int underlying24 e;have f:=bounds_u64 j;simp at b;exact⟨a,b,f.1,by omega⟩
theorem jfE {H:Type}{enc:TypeId×Value->H}{e:World}{base a2:Nat}{t:Nat->Bool}{o:Bool}{d:List Value}{x:DataW H×List MemPlace}
  (a8:d.length=13) (a5:DataW.trod enc prog e base t o a2 41 d=some x):∃ q:Rq,(q.ok/\q.byt)/\d=rqcl q:=by
 obtain⟨Q,f,g,i,j,k,l,m,n,U,R,S,T,rfl⟩:=jfr a8;obtain⟨b8,b9,cb,cc,b5,_,_,u,v,w,y⟩:=trod_struct4 underlying41 a5;simp only [Tryz.cells5,Tryz.cells23,Tryz.cells26,Tryz.cells24] at u v w y;obtain⟨bK,rfl,bz,bF⟩:=ic (c:=Q) u;obtain⟨bw,rfl,bu,bv⟩:=pM (c:=T) y;obtain⟨b7,bs,_,_,_,b4,a7⟩:=DataW.trod_array underlying37 v;obtain⟨ch,ci,ck,b6,_,_,p,r,s⟩:=Deep.trod_struct3 underlying39 w;simp only [Tryz.cells5,Tryz.cells24] at p r s;obtain⟨bo,rfl,V,W⟩:=ic (c:=U) p;obtain⟨x,rfl,b0,b1⟩:=pM (c:=R) r;obtain⟨b2,rfl,a3,a4⟩:=pM (c:=S) s;have a:∀ b,b<8->∃ b3,DataW.trod enc prog e base t o bs 5 ((List.drop b [f,g,i,j,k,l,m,n]).take 1)=some b3:=by
  intro b a6;have:=a7 b a6;rw [Tryz.cells5,Nat.mul_one,List.getElem?_eq_getElem (by omega)] at this;exact⟨_,this⟩
 obtain⟨_,X⟩:=a 0 (by omega);obtain⟨_,Y⟩:=a 1 (by omega);obtain⟨_,Z⟩:=a 2 (by omega);obtain⟨_,ad⟩:=a 3 (by omega);obtain⟨_,ao⟩:=a 4 (by omega);obtain⟨_,av⟩:=a 5 (by omega);obtain⟨_,a0⟩:=a 6 (by omega);obtain⟨_,a1⟩:=a 7 (by omega);obtain⟨a9,rfl,z,I⟩:=ic (c:=f) X;obtain⟨bb,rfl,A,J⟩:=ic (c:=g) Y;obtain⟨bd,rfl,B,K⟩:=ic (c:=i) Z;obtain⟨bg,rfl,C,L⟩:=ic (c:=j) ad;obtain⟨bi,rfl,D,M⟩:=ic (c:=k) ao;obtain⟨bj,rfl,E,N⟩:=ic (c:=l) av;obtain⟨bk,rfl,F,O⟩:=ic (c:=m) a0;obtain⟨bl,rfl,G,P⟩:=ic (c:=n) a1;exact⟨⟨bK,a9,bb,bd,bg,bi,bj,bk,bl,bo,x,b2,bw⟩,⟨⟨⟨⟨z,I⟩,⟨A,J⟩,⟨B,K⟩,⟨C,L⟩,⟨D,M⟩,⟨E,N⟩,⟨F,O⟩,⟨G,P⟩⟩,⟨b0,b1⟩,⟨a3,a4⟩,⟨bu,bv⟩⟩,⟨⟨bz,bF⟩,⟨V,W⟩⟩⟩,rfl⟩
end Go.Proofs.YtlcnkcgmjnfbiaaGreatDoor
namespace Go.Proofs.YtlcnkcgmjnfbiaaGreatDoor
open Go.Proofs.Tryz Go.RowKit Go.Maps
variable [dK] [iK]
theorem jb3 (d:Nat)(a:Ky)(w:World):(Op.equalIn (d+2) 37 (om a) (om a)).run prog w=.ok true w:=by
 have m:=underlying5;have i:=isAgg5;have n:=sizeOf5;obtain⟨b,c,e,f,g,j,k,l⟩:=a;rw [show d+2=(d+1)+1 from rfl,Op.equalIn];simp only [Sem.run_bind,run_underlying underlying37,Result.andThen_ok];simp only [Std.Legacy.Range.forIn_eq_forIn_range',Std.Legacy.Range.size,Nat.sub_zero,Nat.add_sub_cancel,Nat.div_one,List.range'_succ,List.range'_zero,List.forIn_cons,List.forIn_nil];go_simp
theorem jb7 (l:Ln)(w:World):(Op.equalIn 10000 106 (oC l) (oC l)).run prog w=.ok true w:=by
 have a:=jb3 9997 l.k w;go_simp
theorem jaR (k l s t:Nat)(T U:Value)(B:Bk)(w:World)(d:ap w k s T B)(f:ap w l t U B)(M:B.ls.length<=12) :
  Calls prog 57 #[pO k 0,.pointer (some ⟨l,0,none⟩)] w fun e w'=>e=.returned (.bool true)/\B7 w w':=by
 obtain⟨b,n⟩:∃ b,b=B.ls.length:=⟨_,rfl⟩;obtain⟨F,H,rfl⟩:=az d.ho;obtain⟨G,I,rfl⟩:=az f.ho;have bj:(b:Int)<=12:=by omega
 have A:=aa d;have C:=aa f;have r:=aa n;have z:Hid (∀ c,B7 w c->ap c k s (.slice F B.ls.length H) B/\ap c l t (.slice G B.ls.length I) B):=aa (fun c u=>⟨A.out.below u lz,C.out.below u lz⟩);have x:=ab d.hb;have y:=ab f.hb;rw [<-n] at x y;clear d f n M;go_enter func57,ntmps57
 go_upto_region 1 with fail
 go_wp2_with (go_quiet (fail))
 go_loopw [5] (fun p wr=>∃ a:Nat,a<=b/\p=.int .i64 a/\B7 w wr) (fun p _=>b - (intOf p).toNat)
 case atStart=>exact⟨0,Nat.zero_le _,rfl,below_drewN (Below.refl _ w) _⟩
 case round=>
  obtain⟨a,bg,rfl,m⟩:=hrel;obtain⟨j,rfl⟩:∃ j,j=wr:=⟨_,rfl⟩;obtain⟨g,i⟩:=z.out j m;have V:=ab g.hb 0;have W:=ab i.hb 0;rw [<-r.out] at V W;have q:=aa m;clear m x y;by_cases N:a<b
  ·have O:(a:Int)<(b:Int):=by omega
   have bi:(0:Int)<=(a:Int):=by omega
   have L:a<B.ls.length:=by rw [<-r.out];exact N
   obtain⟨o,v⟩:∃ o,B.ls[a]?=some o:=⟨_,List.getElem?_eq_getElem L⟩;obtain⟨a9,a7,J,_,_,D,_⟩:=g.open v;obtain⟨bb,a8,K,_,_,E,_⟩:=i.open v;injection J with P _ Q;injection K with R _ S;subst P Q R S;obtain⟨X,Y,av,a0,a1,a2,a3,a4,a5,a6,Z,ad,ao⟩:=D;obtain⟨bk,bl,bv,bw,bz,bF,bK,b0,b1,b2,bo,bs,bu⟩:=E;have bd:=jb7 o;clear g i;go_wp2_with (go_quiet (fail))
   go_roundw
   case rel=>exact⟨a+1,by omega,by go_num,below_drewN q.out _⟩
   case measure=>simp [intOf];omega
  ·have O:¬(a:Int)<(b:Int):=by omega
   clear g i;go_wp2
   go_ret
   exact⟨rfl,q.out⟩
end Go.Proofs.YtlcnkcgmjnfbiaaGreatDoor
