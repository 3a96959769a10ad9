import Derived.Test.YtnlgndpcddngoaaGreatDoorZ09
import Derived.Maps.AppendAt
import Derived.Deep.RegionLaw
import Derived.Lib.AppendStr
import Derived.Test.YtnlgndpcddngoaaGreatDoorZ24
import Derived.BigQuiet
import Derived.Test.YtnlgndpcddngoaaGreatDoorZ21
import Derived.Test.YtnlgndpcddngoaaGreatDoorZ22
import Derived.Deep.AppendLies
import Derived.Lib.SmallJoins
import Derived.Deep.Slices
set_option linter.all false
set_option maxRecDepth 100000
set_option maxHeartbeats 8000000
namespace Go.Proofs.YtnlgndpcddngoaaGreatDoor
open Go.Proofs.Tryz Go.RowKit Go.Maps
variable [dK] [iK]
theorem lx (c:List Ln):∀ u∈bW c,u.oneCell'=true:=fun u b=>by
 obtain⟨d,_,a⟩:=List.mem_flatMap.1 b;simp only [jj,List.mem_cons,List.not_mem_nil,or_false] at a;rcases a with rfl | rfl | rfl | rfl | rfl | rfl | rfl | rfl | rfl | rfl | rfl | rfl | rfl <;> rfl
theorem lu:∀ (a:List Ln) (i:Nat),bW (a.eraseIdx i)=(bW a).take (i * 13) ++ (bW a).drop ((i+1) * 13)
 | [],i=>by simp [bW]
 | l :: r,0=>by
  have b:(jj l).length=13:=rfl;simp only [List.eraseIdx_cons_zero,Nat.zero_mul,List.take_zero,List.nil_append,Nat.zero_add,Nat.one_mul];unfold bW;rw [List.flatMap_cons,List.drop_append_of_le_length (by omega),List.drop_of_length_le (by omega),List.nil_append]
 | l :: r,i+1=>by
  have b:(jj l).length=13:=rfl;have c:=lu r i;simp only [List.eraseIdx_cons_succ];unfold bW at c ⊢;rw [List.flatMap_cons,List.flatMap_cons,c,List.take_append,List.drop_append,b];rw [show List.take ((i+1) * 13) (jj l)=jj l from List.take_of_length_le (by omega),show List.drop ((i+1+1) * 13) (jj l)=[] from List.drop_of_length_le (by omega),List.nil_append,List.append_assoc];congr 3
  ·omega
  ·omega
theorem iY {w:World}{b c e d:Nat}{v:Value}{n:Nat}{f:List Value}(k:w.ownsRow b e d v n f)(m:c<=b):w.ownsRow c e d v n f:=by
 obtain⟨l,a⟩:=k;refine⟨l,?_⟩
 rcases a with a | ⟨j,g,i,p,o,q⟩
 ·exact il a
 ·exact ir ⟨j,g,i,p,lq m o,q⟩
theorem vy {w a c:World}{d base i:Nat}{p e:Value}{B:Bk}{R t:Nat}{o:Obj}(q:an a d base p B)(j:∀ k,k<a.heap.size->c.heap[k]?=a.heap[k]?)(D:a.heap.size<=c.heap.size)(m:c.os=a.os/\c.tape=a.tape/\c.output=a.output)
  (n:c.ownsRow a.heap.size 151 13 e t ((bW B.ls).take (i * 13) ++ (bW B.ls).drop ((i+1) * 13))) (A:t=(B.ls.eraseIdx i).length) (x:base<=a.heap.size) (f:B7 w a) (r:a.heap[R]?=some o) (v:R≠d) :
  an (c.setCell ⟨d,0,none⟩ e) d base e ⟨B.time,B.ls.eraseIdx i⟩/\(c.setCell ⟨d,0,none⟩ e).heap[R]?=some o/\ae (fun b=>b=d\/p.ownBlock=some b) w (c.setCell ⟨d,0,none⟩ e)/\(∀ g,e.ownBlock=some g->p.ownBlock=some g\/w.heap.size<=g):=by
 have s:=(j d (am q.hb)).trans q.hb;have C:=f.size;refine⟨⟨by simpa using ai s 0 e,?_⟩,?_,⟨m.1.trans f.os,m.2.1.trans f.tape,m.2.2.trans f.output,by rw [World.size_setCell];omega,fun k y z=>?_⟩,fun g l=>ir (lq C (aj n l).1)⟩
 ·rw [lu,<-A];exact aq (iY n x) (fun g l=>ac (ax n l s (by decide)) _ _)
 ·rw [ac v];exact (j R (am r)).trans r
 ·rw [ac (fun u=>z (il u))];exact (j k (by omega)).trans (f.block k y)
theorem jdf (a base:Nat)(c:Value)(B:Bk)(q:Rq)(w:World)(d:an w a base c B)(k:B.ok)(a9:q.ok)(F:q.op=2)(i:Nat)(p:du q.key B.ls=some i) :
  Calls prog 61 #[pO a 0,rqv q] w (aQ a base c B q w):=by
 obtain⟨f,l⟩:∃ f,f=(w.alloc (oh q)).alloc (og):=⟨_,rfl⟩;have T:f.heap[w.heap.size]?=some (oh q):=l▸aB (af _ _) _;have U:f.heap[w.heap.size+1]?=some (og):=l▸aC (by simp);have C:B7 w f:=l▸(ba w).alloc (by simp) _;have A:=d.below C lz;have bK:=am d.hb;have Q:∀ j,c.ownBlock=some j->j<w.heap.size:=fun j o=>(aj d.ho o).2;have e:=dX a base c B q.key f A k.len;have a7:=k.len;have a5:=k.time;obtain⟨b,r⟩:∃ b,B.ls[i]?=some b:=⟨_,List.getElem?_eq_getElem (ju p)⟩;have P:B.ls.getD i ⟨q.key,0,0,0,0,0⟩=b:=by simp [List.getD,r]
 have O:bB B q=bV B i b q.n:=by unfold bB;rw [if_neg (by omega),if_neg (by omega),if_neg (by omega),p];dsimp only;rw [if_neg (by omega),if_neg (by omega),P]
 have R:eu q.key B.ls=(i:Int):=by unfold eu;rw [p]
 rw [R] at e;have b0:(0:Int)<=(i:Int):=by omega
 have b1:¬(i:Int)<0:=by omega
 have S:=k.ln b (List.mem_of_getElem? r);have ad:=aa O;have a0:=aa r;have a1:=aa S;have bb:=a9.n;clear O p R P r S;have V:=aa e;have Y:=aa A;have L:=aa T;have M:=aa U;have J:=aa C;have K:=aa Q;have bv:=aa k;have bw:=aa d;clear e A T U C Q k d;have a2:=aa F;clear F;go_enter func61,ntmps61
 go_wp2_with fail
 have e:=V.out;rw [l] at e;refine e.mono ?_
 rw [<-l];rintro m bi ⟨rfl,n⟩;have y:=Y.out.below n lz;have G:=(n.block _ (am L.out)).trans L.out;have s:=(n.block _ (am M.out)).trans M.out;have bk:=ab G;have bl:=ab s;have bo:=ag s;have bs:=ab y.hb;have W:=aa y;have N:=aa s;have bz:=aa G;have Z:=aa (J.out.trans (n.mono J.out.size));have a6:a≠w.heap.size+1:=by omega
 have bF:w.heap.size+1≠a:=by omega
 clear e l y G s n;have F:=a2.out;go_wp2_with fail
 refine (jdc a base c B i b q.n _ W.out a0.out a7 a1.out bb a5 (aa (fun a c a3 b bd w u g x a4 m=>jaZ a c a3 b bd w u g x a4 m))).mono ?_
 rintro m bj ⟨rfl,z,D⟩;obtain⟨I,⟨x,u,g⟩,E⟩:∃ I bg,bV B i b q.n=(I,bg):=⟨_,_,rfl⟩;rw [E] at z ⊢;have t:=ad.out;rw [E] at t;have ao:=aa t;have a8:w.heap.size+1<bi.heap.size:=am N.out;have H:=(D.block _ a8 (fun m=>by have:=K.out _ m;omega)).trans N.out;have bu:=ab H;have b2:=ag H;have X:=aa z;have av:Hid (ae (fun g=>g=a\/c.ownBlock=some g) w bj):=aa ((ae.of_below Z.out).then D (fun i _ d=>ir d));clear bk bl bo bs t E H z D;go_wp2_with fail
 exact bodyPost_ret (v:=(ot x u g)) (by simp [results,results61,go_sem,bu]) rfl (aQ.mk' X.out ao.out (Nat.le_succ _) a6 (fun j o=>by have:=K.out j o;omega) av.out (fun j o=>il o))
theorem jdh (n base:Nat)(av:Value)(B:Bk)(q:Rq)(w:World)(t:an w n base av B)(T:B.ok)(di:q.ok)(G:q.op=4)(i:Nat)(o:du q.key B.ls=some i) :
  Calls prog 61 #[pO n 0,rqv q] w (aQ n base av B q w):=by
 obtain⟨M,O⟩:∃ M,M=(w.alloc (oh q)).alloc (og):=⟨_,rfl⟩;have cl:M.heap[w.heap.size]?=some (oh q):=O▸aB (af _ _) _;have cn:M.heap[w.heap.size+1]?=some (og):=O▸aC (by simp);have a6:B7 w M:=O▸(ba w).alloc (by simp) _;have a5:=t.below a6 lz;have dl:=am t.hb;have cb:∀ f,av.ownBlock=some f->f<w.heap.size:=fun f cV=>(aj t.ho cV).2;have z:=dX n base av B q.key M a5 T.len;have dv:=T.len;have dk:=T.time;have c2:=ju o;have b4:bB B q=(⟨B.time,B.ls.eraseIdx i⟩,⟨1,0,0⟩):=by unfold bB;rw [if_neg (by omega),if_neg (by omega),if_neg (by omega),o];dsimp only;rw [if_neg (by omega),if_pos G]
 have cc:eu q.key B.ls=(i:Int):=by unfold eu;rw [o]
 rw [cc] at z;have ds:(0:Int)<=(i:Int):=by omega
 have dt:¬(i:Int)<0:=by omega
 obtain⟨f,y,P,b9,dn⟩:=t.ho.form (by omega);obtain⟨g,a8⟩:∃ g,g=B.ls.length:=⟨_,rfl⟩;rw [<-a8] at P;subst P;have ci:i<g:=by omega
 have dN:g<=12:=by omega
 have d0:(i:Int)<(g:Int):=by omega
 have dR:g<=y:=by
  rcases t.ho.2 with ⟨a4,_⟩ | ⟨cR,cw,cx,P,_,_,c3,_⟩
  ·simp at a4
  ·injection P with _ _ cy;omega
 have cU:y<=maxLen:=by
  rcases t.ho.2 with ⟨a4,_⟩ | ⟨cR,cw,cx,P,_,_,c3,cU,_⟩
  ·simp at a4
  ·injection P with _ _ cy;omega
 have bv:=aa b4;have K:=aa a8;clear b4 o cc c2 a8;have cq:=aa z;have cs:=aa a5;have b2:=aa cl;have b3:=aa cn;have bu:=aa a6;have db:=aa cb;have c9:=aa T;have dd:=aa t;clear z a5 cl cn a6 cb T t;have ct:=aa G;clear G;go_enter func61,ntmps61
 go_wp2_with fail
 have z:=cq.out;rw [O] at z;refine z.mono ?_
 rw [<-O];rintro N d ⟨rfl,U⟩;have u:=cs.out.below U lz;have bd:=(U.block _ (am b2.out)).trans b2.out;have X:=(U.block _ (am b3.out)).trans b3.out;have d1:=ab bd;have d2:=ab X;have d3:=ag X;have cp:=ab u.hb;have l:=aa u;have L:=aa X;have df:=aa bd;have bs:=aa (bu.out.trans (U.mono bu.out.size));have b5:n≠w.heap.size+1:=by omega
 have b6:w.heap.size+1≠n:=by omega
 clear z O u bd X U;have G:=ct.out;obtain⟨ao,o,Y,Z,ad⟩:=info_parts Tryz.info139;have u:=l.out;have bg:∀ c,c<g * 13->d.cell? ⟨f,c,none⟩=(bW B.ls)[c]?:=fun c p=>by
  have G:=u.ho;rw [<-K.out] at G;exact G.cellAt c p
 have a7:(bW B.ls).length=g * 13:=by rw [qO,<-K.out]
 have b0:Hid (∀ c e,((bW B.ls).take (i * 13))[c]?=some e->d.cell? ((⟨f,0,none⟩:Addr).add c)=some e):=aa (fun c e p=>by
   have ch:c<i * 13:=by
     have:=(List.getElem?_eq_some_iff.1 p).1;rw [List.length_take] at this;omega
   rw [Addr.add_lit,Nat.zero_add,bg c (by omega),<-p,List.getElem?_take,if_pos ch])
 have bK:Hid (((bW B.ls).take (i * 13)).length=i * 13):=aa (by rw [List.length_take,a7];omega);have bz:Hid (∀ e∈(bW B.ls).take (i * 13),e.oneCell'=true):=aa (fun e V=>lx B.ls e (List.mem_of_mem_take V));have Q:Hid (∀ a,a=n\/(Value.slice (some ⟨f,0,none⟩) g y).ownBlock=some a->a<d.heap.size):=aa (fun a b=>by
   rcases b with rfl | b
   · exact am u.hb
   · exact (aj u.ho b).2)
 have cv:=aa bg;have bw:=aa a7;clear u bg a7;have bF:Hid (∀ e∈(bW B.ls).drop ((i+1) * 13),e.oneCell'=true):=aa (fun e V=>lx B.ls e (List.mem_of_mem_drop V));have a1:Hid (((bW B.ls).drop ((i+1) * 13)).length=(g - (i+1)) * 13):=aa (by rw [List.length_drop,bw.out];omega);have b1:Hid (∀ x:World,(∀ a,a<d.heap.size->x.heap[a]?=d.heap[a]?)->∀ c e,((bW B.ls).drop ((i+1) * 13))[c]?=some e->x.cell? ((⟨f,(i+1) * 13,none⟩:Addr).add c)=some e):=aa (fun x b c e p=>by
   have ch:c<(g - (i+1)) * 13:=by
     have:=(List.getElem?_eq_some_iff.1 p).1;rw [a1.out] at this;exact this
   have cX:(i+1) * 13+c<g * 13:=by omega
   rw [Addr.add_lit,World.cell?_of_block (w:=d) (b f (Q.out f (ir rfl))),cv.out _ cX,<-p,List.getElem?_drop])
 by_cases b7:y=i+1
 ·have ck:g=i+1:=by omega
  have b8:(bW B.ls).drop ((i+1) * 13)=[]:=List.drop_of_length_le (by rw [bw.out,ck];exact lz);have HD:=aa b8;subst b7;subst ck;clear b8 bF a1 b1;go_wp2_with (first | (at_builtin;refine wpList_append_own_at _ rfl _ _ 58 rfl d.heap.size 151 ao ZL 13 48 underlying58 o Y Z ad rfl (by decide) (.slice none 0 0) 0 [] rfl (World.ownsRow_nil _ _ _ _) ⟨f,0,none⟩ i (i+1) ((bW B.ls).take (i * 13)) rfl bK.out b0.out bz.out (by unfold maxLen;omega) (by omega) lz ?_;intro c4 x s D a9 c0;rw [Nat.zero_add,List.nil_append] at s;have F:∀ a,a<d.heap.size->x.heap[a]?=d.heap[a]?:=fun a b=>D.block a b (by simp [Value.ownBlock]);have A:=l.out.kept (fun a b=>F a (Q.out a b));have bk:=ab A.hb;have S:=aa s;have W:=aa F;have cr:=aa A;have j:=aa D;obtain⟨bl,bo,J⟩:=aw s;subst J;clear s D a9 F A cp) | (at_builtin;refine wpList_append_own_at _ rfl _ _ 58 rfl d.heap.size 151 ao ZL 13 48 underlying58 o Y Z ad rfl (by decide) (.slice bl i bo) i ((bW B.ls).take (i * 13)) rfl S.out ⟨f,0,none⟩ 0 0 [] rfl rfl (fun c e p=>absurd p (by simp)) (fun e V=>absurd V (by simp)) (by unfold maxLen;omega) (by omega) j.out.size ?_;intro c5 bj H E bb c1;obtain⟨c6,c7,J⟩:=aw H;subst J;have r:∀ a,a<d.heap.size->bj.heap[a]?=d.heap[a]?:=fun a b=>(E.block a (ll b j.out.size) (fun N=>absurd (aj S.out N.symm).1 (Nat.not_le.2 b))).trans (W.out a b);have C:=(r n (am l.out.hb)).trans l.out.hb;have cz:=ab C;have cF:=ag C;have I:=(r _ (am L.out)).trans L.out;have a3:=ab I;have cG:=ag I;have a0:=aa r;have a2:=aa H;have m:=aa E;clear r H E bb C I bk))
  have k:=vy (w:=w) (i:=i) (R:=w.heap.size+1) l.out a0.out (lq j.out.size m.out.size) ⟨m.out.os.trans j.out.os,m.out.tape.trans j.out.tape,m.out.output.trans j.out.output⟩ (by rw [HD.out];exact a2.out) (by rw [List.length_eraseIdx_of_lt (by rw [<-K.out];exact ci),<-K.out];omega) (lq b9 (Nat.le_of_lt (Q.out f (ir rfl)))) bs.out L.out b6;exact bodyPost_ret (v:=oS) (by simp [results,results61,go_sem,a3]) rfl (aQ.mk' k.1 bv.out (Nat.le_succ _) b5 (fun c8 bi=>ax k.1.ho bi k.2.1 (by decide)) k.2.2.1 k.2.2.2)
 ·have dm:¬i+1=y:=fun N=>b7 N.symm;go_wp2_with (first | (at_builtin;refine wpList_append_own_at _ rfl _ _ 58 rfl d.heap.size 151 ao ZL 13 48 underlying58 o Y Z ad rfl (by decide) (.slice none 0 0) 0 [] rfl (World.ownsRow_nil _ _ _ _) ⟨f,0,none⟩ i y ((bW B.ls).take (i * 13)) rfl bK.out b0.out bz.out (by unfold maxLen;omega) (by omega) lz ?_;intro c4 x s D a9 c0;rw [Nat.zero_add,List.nil_append] at s;have F:∀ a,a<d.heap.size->x.heap[a]?=d.heap[a]?:=fun a b=>D.block a b (by simp [Value.ownBlock]);have A:=l.out.kept (fun a b=>F a (Q.out a b));have bk:=ab A.hb;have S:=aa s;have W:=aa F;have cr:=aa A;have j:=aa D;obtain⟨bl,bo,J⟩:=aw s;subst J;clear s D a9 F A cp) | (at_builtin;refine wpList_append_own_at _ rfl _ _ 58 rfl d.heap.size 151 ao ZL 13 48 underlying58 o Y Z ad rfl (by decide) (.slice bl i bo) i ((bW B.ls).take (i * 13)) rfl S.out ⟨f,(i+1) * 13,none⟩ (g - (i+1)) (y - (i+1)) ((bW B.ls).drop ((i+1) * 13)) rfl a1.out (b1.out x W.out) bF.out (by unfold maxLen;omega) (by omega) j.out.size ?_;intro c5 bj H E bb c1;obtain⟨c6,c7,J⟩:=aw H;subst J;have r:∀ a,a<d.heap.size->bj.heap[a]?=d.heap[a]?:=fun a b=>(E.block a (ll b j.out.size) (fun N=>absurd (aj S.out N.symm).1 (Nat.not_le.2 b))).trans (W.out a b);have C:=(r n (am l.out.hb)).trans l.out.hb;have cz:=ab C;have cF:=ag C;have I:=(r _ (am L.out)).trans L.out;have a3:=ab I;have cG:=ag I;have a0:=aa r;have a2:=aa H;have m:=aa E;clear r H E bb C I bk))
  have k:=vy (w:=w) (i:=i) (R:=w.heap.size+1) l.out a0.out (lq j.out.size m.out.size) ⟨m.out.os.trans j.out.os,m.out.tape.trans j.out.tape,m.out.output.trans j.out.output⟩ a2.out (by rw [List.length_eraseIdx_of_lt (by rw [<-K.out];exact ci),<-K.out];omega) (lq b9 (Nat.le_of_lt (Q.out f (ir rfl)))) bs.out L.out b6;exact bodyPost_ret (v:=oS) (by simp [results,results61,go_sem,a3]) rfl (aQ.mk' k.1 bv.out (Nat.le_succ _) b5 (fun c8 bi=>ax k.1.ho bi k.2.1 (by decide)) k.2.2.1 k.2.2.2)
def rqM:Nat->List Int->List Rq×List Int×Int
 | 0,bs=>([],bs,aF bs)
 | n+1,bs=>if aF bs=0 then (rdQ bs :: (rqM n (bs.drop (dT bs).toNat)).1,(rqM n (bs.drop (dT bs).toNat)).2) else ([],bs,aF bs)
theorem jcL:∀ (n:Nat) (bs:List Int),bs.length<=n->rqM n bs=rqM bs.length bs:=by
 intro n;induction n using Nat.strongRecOn with
 | ind n b=>
  intro bs g;cases n with
  | zero=>rw [show bs.length=0 by omega]
  | succ n=>
   cases e:bs.length with
   | zero=>
    have d:bs=[]:=List.length_eq_zero_iff.1 e;subst d;simp [rqM,aF]
   | succ c=>
    unfold rqM;by_cases a:aF bs=0
    ·rw [if_pos a,if_pos a];obtain⟨i,j,_,_⟩:=dG bs a;have f:(bs.drop (dT bs).toNat).length<=c:=by rw [List.length_drop];omega
     rw [b n (by omega) _ (by omega),b c (by omega) _ f]
    ·rw [if_neg a,if_neg a]
def dD (bs:List Int):List Rq×List Int×Int:=rqM bs.length bs
theorem cA (bs:List Int)(a:aF bs≠0):dD bs=([],bs,aF bs):=by
 unfold dD;cases b:bs.length with
 | zero=>rfl
 | succ c=>unfold rqM;rw [if_neg a]
theorem dV (bs:List Int)(a:aF bs=0):dD bs=(rdQ bs :: (dD (bs.drop (dT bs).toNat)).1,(dD (bs.drop (dT bs).toNat)).2):=by
 obtain⟨f,g,_,_⟩:=dG bs a;have c:dD bs=rqM bs.length bs:=rfl;rw [c];cases e:bs.length with
 | zero=>omega
 | succ b=>
  have d:(bs.drop (dT bs).toNat).length<=b:=by rw [List.length_drop];omega
  conv=>lhs;unfold rqM
  rw [if_pos a,jcL b _ d];rfl
def doL:Ld->List Rq->Ld×List Rp
 | L,[]=>(L,[])
 | L,q :: t=>((doL (aS L q).1 t).1,(aS L q).2 :: (doL (aS L q).1 t).2)
theorem jcT:∀ (n:Nat) (bs:List Int) (L:Ld),bs.length<=n->fy L bs=((doL L (dD bs).1).1,(doL L (dD bs).1).2,(dD bs).2):=by
 intro n;induction n with
 | zero=>
  intro bs L c;have b:bs=[]:=List.length_eq_zero_iff.1 (by omega);subst b;rw [jA L [] (by simp [aF]),cA [] (by simp [aF])];rfl
 | succ n d=>
  intro bs L c;by_cases a:aF bs=0
  ·obtain⟨e,f,_,_⟩:=dG bs a;rw [nL L bs a,dV bs a,d _ _ (by rw [List.length_drop];omega)];rfl
  ·rw [jA L bs a,cA bs a];rfl
abbrev tQ (q:Rq):List Value:=[.int .u8 q.op,.int .u8 q.k0,.int .u8 q.k1,.int .u8 q.k2,.int .u8 q.k3,.int .u8 q.k4,.int .u8 q.k5,.int .u8 q.k6,.int .u8 q.k7,.int .u8 q.kd,.int .u64 q.x,.int .u64 q.y,.int .u64 q.n]
def fg (l:List Rq):List Value:=l.flatMap tQ
theorem nK (l:List Rq)(q:Rq):fg (l ++ [q])=fg l ++ tQ q:=by simp [fg]
theorem jeF (s:ByteArray):Go.Lib.strCells s=(aD s).map (Value.int .u8):=by
 simp [Go.Lib.strCells,aD]
abbrev ZR:Value:=oz
theorem Tryz.info58:(prog.info? 65).map (fun i=>(i.zero,i.size,i.bytes))=some (some ZR,13,48):=by kernel_rfl
structure SfI (w wl:World)(tb:Nat)(bs0 bs:List Int)(qs:List Rq)(v6 v7 rv:Value)(wr:World):Prop where
 run:dD bs0=(qs ++ (dD bs).1,(dD bs).2)
 sl:Sl wr v6 bs
 le:2 * qs.length+bs.length<=bs0.length
 by_:Bytes bs
 own:wr.ownsRow wl.heap.size 65 13 v7 qs.length (fg qs)
 F:∀ g o n c,v6=.slice (some ⟨g,o,none⟩) n c->w.heap.size<=g/\g<wl.heap.size
 st:wr.heap[tb]?=some (Ur rv)
 keep:ae (fun _=>False) wl wr
theorem jez (r:Nat)(P:Value)(rest:List Int)(s:ByteArray)(w:World)(M:w.heap[r]?=some (Ur P))(ch:Sl w P rest)(b1:Bytes rest)(b6:rest.length+s.size<=100000)
  (k:List Int) (b0:k=rest ++ aD s) (l:List Rq) (b5:l=(dD k).1) (I:Bool) (A:I=decide ((dD k).2.2=2)) (ao:List Int) (b7:ao=if (dD k).2.2=2 then [] else (dD k).2.1) :
  Calls prog 55 #[pO r 0,.string s] w fun e w'=>∃ cq bj,e=.returned (.tuple #[cq,.bool I])/\w'.ownsRow w.heap.size 65 13 cq l.length (fg l)/\ae (fun b=>b=r) w w'/\
   w'.heap[r]?=some (uV bj I)/\Sl w' bj ao/\(∀ g o n c,bj=.slice (some ⟨g,o,none⟩) n c->w.heap.size<=g):=by
 have T:=aa b5;have R:=aa A;have U:=aa b7;clear b5 A b7;obtain⟨d1,c6,dN,dR,d0⟩:=info_parts Tryz.info5;obtain⟨d2,b3,dn,ds,dt⟩:=info_parts Tryz.info58;have cV:=ab M;have cX:=ag M;have d3:=am M;have bs:=aa ch;have S:=aa b0;have bl:=aa M;have F:=aa b6;clear ch b0 M b6;go_enter func55,ntmps55
 go_wp2_with (first
   | (at_builtin;refine cH rfl _ _ rfl w.heap.size (.slice none 0 0) 0 [] rfl (World.ownsRow_nil _ _ _ _) P rest rfl bs.out.src (by have:=F.out;omega) lz ?_;intro ct d7 cb x b8)
   | (at_builtin;refine Go.Lib.wpList_append_own_string (w:=d7) rfl _ _ 76 9 rfl w.heap.size 5 d1 underlying76 underlying9 c6 dN dR d0 ct (0+rest.length) _ rfl cb s rfl (by unfold maxLen;have:=F.out;omega) (by have:=F.out;omega) x.size ?_;intro cv E a7 B _))
 obtain⟨y,dm⟩:∃ y,y=E:=⟨_,rfl⟩;have eo:=x.size;have eq:=B.size;have b9:∀ a,a<w.heap.size->ct.ownBlock≠some a:=fun a j e=>by
  rcases b8 with i | i
  ·rw [i] at e;simp [Value.ownBlock] at e
  ·rw [i] at e;injection e with e;omega
 have Y:∀ a,a<w.heap.size->E.heap[a]?=w.heap[a]?:=fun a j=>(B.block a (by omega) (fun e=>b9 a j e.symm)).trans (x.block a j (by simp [Value.ownBlock]));have bz:ae (fun b=>b=r) w E:=⟨B.os.trans x.os,B.tape.trans x.tape,B.output.trans x.output,by omega,fun a j _=>Y a j⟩;have c3:E.heap[r]?=some (Ur P):=(Y r d3).trans bl.out;have di:Sl E cv k:=by
  refine Sl.of_own (n:=0+rest.length+s.size) (base:=w.heap.size) ?_
  rw [S.out,List.map_append,<-jeF s];exact a7
 have bw:∀ g o n c,cv=.slice (some ⟨g,o,none⟩) n c->w.heap.size<=g/\g<E.heap.size:=fun g o n c i=>by
  have:=a7.lt g (by rw [i];rfl);omega
 have c4:Bytes k:=by rw [S.out];exact b1.app (fL s)
 have ej:k.length<=100000:=by rw [S.out,List.length_append,bN];exact F.out
 subst dm;have cz:=aa bz;have cy:=aa bw;have d9:=aa Y;clear cb x b8 a7 B b9 Y bz bw cV cX bs bl S F b1;go_loopw [6,7] (fun bk d6 wr=>∃ d q,SfI w y r k d q bk d6 P wr) (fun bk _ _=>fA bk)
 case atStart=>exact⟨k,[],⟨by simp,di,by simp,c4,World.ownsRow_nil _ _ _ _,cy.out,c3,ae.refl _ _⟩⟩
 case round=>
  obtain⟨d,q,H⟩:=hrel;have c8:=H.le;have bd:=H.st;have cn:=am bd;obtain⟨bu,V,c1⟩:=H.sl.shape;subst c1;have f:=aa H;clear H;go_wp2_with fail
  refine (jfF _ d wr f.out.sl (by omega) (fun m=>f.out.by_.getD m) _ rfl _ _ rfl rfl).mono ?_
  rintro e Q ⟨rfl,W⟩;have ad:=(W.block r cn).trans bd;have ef:=fun o m=>ce ad o m;have eg:=fun o m=>jG ad o m;have ei:=f.out.keep.size;have er:=W.size;have a1:=aa W;clear bd W;have b4:ae (fun b=>b=r) w Q:=(cz.out.trans (f.out.keep.mono (fun _ i _=>i.elim))).trans (ae.of_below a1.out);have cl:w.heap.size<=y.heap.size:=by omega
  have bF:∀ a o,a<wr.heap.size->(Q.alloc o).heap[a]?=wr.heap[a]?:=fun a o j=>(ah Q o (by omega)).trans (a1.out.block a j);have G:=aa bF;have bo:=aa b4;clear b4 bF;rcases gE d with i | i | i
  ·obtain⟨d4,cr,cs,d5⟩:=dG d i;obtain⟨g,o,c,bg,a4,N,X,a9⟩:∃ g o c,Value.slice bu d.length V=.slice (some ⟨g,o,none⟩) d.length c/\d.length<=c/\g<wr.heap.size/\(∀ m,m<d.length->wr.cell? ⟨g,o+m,none⟩=some (.int .u8 (d.getD m 0)))/\0<d.length:=by
    rcases f.out.sl with ⟨dd,_⟩ | ⟨a9,g,o,c,bg,a4,N,X⟩
    ·rw [dd] at i;simp [aF] at i
    ·exact⟨g,o,c,bg,a4,N,X,a9⟩
   injection bg with dk _ dl;subst dk dl;obtain⟨D,bb⟩:∃ D,D=rdQ d:=⟨_,rfl⟩;obtain⟨p,a5⟩:∃ p,p=(dT d).toNat:=⟨_,rfl⟩;obtain⟨n,Z⟩:∃ n,n=d.length:=⟨_,rfl⟩;rw [i,cs];rw [<-a5] at d4 cr d5 ⊢;rw [<-Z] at cr a4 a9 ⊢;rw [<-bb];have bv:=f.out.F g o n V (by rw [Z]);have cG:Hid (∀ bi cp,((Q.alloc bi).alloc cp).ownsRow y.heap.size 65 13 u7 q.length (fg q)):=aa (fun bi cp=>aq f.out.own (fun a j=>by
     have:=aj f.out.own j;exact (ah _ _ (by simp;omega)).trans (G.out a bi (by omega))))
   have el:(p:Int)<=(n:Int):=by omega
   have ek:(0:Int)<=(p:Int):=by omega
   have cF:=aa a5;have a2:=aa Z;have cU:=aa bb;have cx:=aa i;have cw:=aa X;have em:q.length<=100000:=by omega
   have en:2 * q.length+n<=k.length:=by omega
   clear a5 Z bb i cs X c8;go_wp2_with (at_builtin;refine wpList_append_own_at _ rfl _ _ 28 rfl y.heap.size 65 d2 ZR 13 48 underlying28 b3 dn ds dt rfl (by decide) u7 q.length (fg q) rfl (cG.out _ _) ⟨Q.heap.size+1,0,none⟩ 1 1 (tQ D) rfl rfl (fun m ev c7=>by rw [Addr.add_lit,Nat.zero_add,<-c7];exact (ab (aC (by simp)) m).trans (by simp)) (by simp [Value.oneCell']) (by unfold maxLen;omega) (by omega) (by simp;omega) ?_;intro ey d8 a8 b2 df c9;obtain⟨ez,eA,dv⟩:=aw a8;subst dv;have cR:=aa a8;have z:=aa b2;clear a8 b2 df c9)
   have a6:∀ a,a<y.heap.size->u7.ownBlock≠some a:=fun a j e=>by have:=aj f.out.own e;omega
   have C:=((f.out.keep.trans (ae.of_below a1.out)).alloc (.cells (rqc D) 65)).alloc (.cells (rqc D) 65);have bK:∀ a,a<wr.heap.size->u7.ownBlock≠some a->d8.heap[a]?=wr.heap[a]?:=fun a j db=>(z.out.block a (by simp;omega) (fun e=>db e.symm)).trans ((ah _ _ (by simp;omega)).trans (G.out a _ j));have ck:=z.out.size;have A:(d.drop p).length=n - p:=by rw [List.length_drop,<-a2.out]
   refine⟨⟨d.drop p,q ++ [D],⟨?_,?_,?_,f.out.by_.drop p,?_,?_,?_,?_⟩⟩,?_⟩
   ·have ci:=dV d cx.out;rw [<-cU.out,<-cF.out] at ci;rw [f.out.run,ci,List.append_assoc];rfl
   ·by_cases cc:n - p=0
    ·left
     refine⟨List.length_eq_zero_iff.1 (A.trans cc),ir ?_⟩
     rw [cc];split
     ·exact⟨_,_,_,rfl⟩
     ·exact⟨_,_,_,rfl⟩
    ·right
     rw [if_neg (by omega),A];refine⟨by omega,g,o+p,V - p,rfl,by omega,by simp at ck;omega,fun m b3=>?_⟩
     rw [World.cell?_of_block (w:=wr) (bK g N (a6 g bv.2)),Nat.add_assoc,cw.out (p+m) (by rw [<-a2.out];omega)];simp [List.getD,List.getElem?_drop]
   ·rw [List.length_append,A,List.length_singleton];omega
   ·rw [nK,List.length_append,List.length_singleton];exact cR.out
   ·intro c0 et es eb u;have c5:c0=g:=by
     split at u <;> (injection u with L _ _;injection L with L;injection L with L _;exact L.symm)
    rw [c5];exact bv
   ·exact (bK r cn (a6 r (by omega))).trans f.out.st
   ·exact⟨z.out.os.trans C.os,z.out.tape.trans C.tape,z.out.output.trans C.output,lq C.size ck,fun a j c2=>(z.out.block a (ll j C.size) (fun e=>a6 a j e.symm)).trans (C.block a j c2)⟩
   ·show n - p<d.length;rw [<-a2.out];omega
  ·have t:dD k=(q,d,1):=by
    have O:=f.out.run;rw [cA d (by omega),i] at O;simpa using O
   have K:l=q:=T.out.trans (by rw [t]);have a3:I=false:=R.out.trans (by rw [t];rfl);have J:ao=d:=U.out.trans (by rw [t];rfl);subst a3;have a0:=aa K;have av:=aa J;clear t K J T R U;rw [i];go_wp2_with fail
   refine bodyPost_ret (v:=.tuple #[u7,.bool false]) (by simp [results,results55,go_sem]) rfl ?_
   rw [a0.out,av.out];refine⟨u7,.slice bu d.length V,rfl,?_,(bo.out.alloc _).set (il rfl) _ _,by simpa using ai (aB ad _) 0 _,?_,fun g o n c u=>(f.out.F g o n c u).1⟩
   ·refine iY (aq f.out.own (fun a j=>?_)) cl
    have:=aj f.out.own j;exact (ac (by omega) _ _).trans (G.out a _ (by omega))
   ·refine f.out.sl.kept (by simp;omega) (fun g o n c u N=>?_)
    have:=f.out.F g o n c u;exact (ac (by omega) _ _).trans (G.out g _ N)
  ·have t:dD k=(q,d,2):=by
    have O:=f.out.run;rw [cA d (by omega),i] at O;simpa using O
   have K:l=q:=T.out.trans (by rw [t]);have a3:I=true:=R.out.trans (by rw [t];rfl);have J:ao=[]:=U.out.trans (by rw [t];rfl);subst a3;have a0:=aa K;have av:=aa J;clear t K J T R U;rw [i];go_wp2_with fail
   refine bodyPost_ret (v:=.tuple #[u7,.bool true]) (by simp [results,results55,go_sem]) rfl ?_
   rw [a0.out,av.out];refine⟨u7,.slice none 0 0,rfl,?_,((bo.out.alloc _).set (il rfl) _ _).set (il rfl) _ _,by simpa using ai (ai (aB ad _) 1 _) 0 _,il ⟨rfl,il rfl⟩,fun g o n c u=>by simp at u⟩
   ·refine iY (aq f.out.own (fun a j=>?_)) cl
    have:=aj f.out.own j;exact (ac (by omega) _ _).trans ((ac (by omega) _ _).trans (G.out a _ (by omega)))
theorem rC (a:Nat)(c:Value)(s:ByteArray)(w:World)(b:w.heap[a]?=some (.cells #[c,.bool true] 103)) :
  Calls prog 55 #[pO a 0,.string s] w fun e w'=>e=.returned (.tuple #[.slice none 0 0,.bool false])/\w'=w:=by
 have d:=ab b;go_enter func55,ntmps55
 go_wp2_with fail
 exact bodyPost_ret (v:=.tuple #[.slice none 0 0,.bool false]) (by simp [results,results55,go_sem]) rfl ⟨rfl,rfl⟩
theorem qb (b base:Nat)(c:Value)(B:Bk)(q:Rq)(w:World)(d:an w b base c B)(e:B.ok)(g:q.ok)(a:q.op∈[1,2,3,4,5,6])(l:base<=w.heap.size) :
  Calls prog 61 #[pO b 0,rqv q] w (aQ b base c B q w):=by
 simp only [List.mem_cons,List.not_mem_nil,or_false] at a;rcases a with a | a | a | a | a | a
 ·by_cases j:cM q.kd q.x q.y
  ·cases f:du q.key B.ls with
   | none=>
    by_cases k:B.ls.length=12
    ·exact rU b base c B q w d e g a j f k
    ·exact wF b base c B q w d e g a j f k l
   | some i=>exact o9 b base c B q w d e g a j i f
  ·exact wE b base c B q w d e g a j
 ·cases f:du q.key B.ls with
  | none=>exact kD b base c B q w d e g (il a) f
  | some i=>exact jdf b base c B q w d e g a i f
 ·cases f:du q.key B.ls with
  | none=>exact kD b base c B q w d e g (ir (il a)) f
  | some i=>exact jdg b base c B q w d e g a i f
 ·cases f:du q.key B.ls with
  | none=>exact kD b base c B q w d e g (ir (ir a)) f
  | some i=>exact jdh b base c B q w d e g a i f
 ·exact jdi b base c B q w d e g a
 ·exact jdj b base c B q w d e g a
theorem wB (B:Bk)(i:Nat)(l:Ln)(n:Int)(b:B.ok)(a:l.ok)(o:U7 n):(bV B i l n).1.ok:=by
 have g:=b.time;have q:=a.x;have r:=a.y;have k:=a.at_;unfold bV;split
 ·rename_i e
  dsimp only;split
  ·refine⟨g,by rw [List.length_set];exact b.len,fun s m=>?_⟩
   rcases List.mem_or_eq_of_mem_set m with d | rfl
   ·exact b.ln s d
   ·have p:0<=dO B.time l/\dO B.time l<=18446744073709551615:=by
     unfold dO;split
     ·omega
     ·rename_i c
      have:=a.yp c;have f:0<=B.time / l.y:=Int.ediv_nonneg (by omega) (by omega);have t:B.time / l.y<=B.time:=Int.ediv_le_self _ (by omega);omega
    have j:U7 (cm B.time l n).1:=by
     unfold cm at e ⊢;split
     ·rename_i c
      rw [if_pos c] at e;have v:1<=l.x:=by rcases a.kd with d | d <;> omega
      have w:0<=n * l.x:=Int.mul_nonneg o.1 (by omega);unfold cN;generalize hS:(if l.at_<B.time then B.time else l.at_)=S;have u:0<=S:=by rw [<-hS];split <;> omega
      split
      ·exact k
      ·split
       ·exact⟨Int.le_refl _,(by decide:(0:Int)<=18446744073709551615)⟩
       ·rename_i f
        split
        ·dsimp only;omega
        ·exact⟨Int.le_refl _,(by decide:(0:Int)<=18446744073709551615)⟩
     ·rename_i c
      unfold cW;have x:0<=(aP B.time l).1:=by
       unfold aP;rw [if_neg c];split <;> dsimp only <;> omega
      split
      ·dsimp only;omega
      ·split <;> exact⟨Int.le_refl _,(by decide:(0:Int)<=18446744073709551615)⟩
    exact⟨a.kd,q,r,j,p⟩
  ·exact b
 ·exact b
theorem vj (B:Bk)(q:Rq)(a:B.ok)(d:q.ok):(bB B q).1.ok:=by
 unfold bB;split
 ·split
  ·exact a
  ·rename_i k
   split
   ·exact a
   ·split
    ·exact a
    ·rename_i l
     refine⟨a.time,?_,fun f c=>?_⟩
     ·have:=a.len;show (B.ls ++ [_]).length<=12;rw [List.length_append,List.length_singleton];omega
     ·rcases List.mem_append.1 c with b | b
      ·exact a.ln f b
      ·simp at b;subst b;exact⟨Decidable.not_not.1 k,d.x,d.y,by simp,by simp⟩
 ·split
  ·exact a
  ·split
   ·exact a
   ·cases j:du q.key B.ls with
    | none=>exact a
    | some e=>
     dsimp only;split
     ·exact a
     ·split
      ·refine⟨a.time,?_,fun f c=>a.ln f (List.mem_of_mem_eraseIdx c)⟩
       exact lq (List.length_eraseIdx_le _ _) a.len
      ·have g:=ju j;have i:B.ls.getD e ⟨q.key,0,0,0,0,0⟩=B.ls[e]:=by simp [List.getD,List.getElem?_eq_getElem g]
       rw [i];exact wB B e _ q.n a (a.ln _ (List.getElem_mem g)) d.n
end Go.Proofs.YtnlgndpcddngoaaGreatDoor
namespace Go.Proofs.YtnlgndpcddngoaaGreatDoor
open Go.Proofs.Tryz
variable [dK] [iK]
theorem jfE (bs:List Int)(a:aF bs=0):(rdQ bs).op∈[1,2,3,4,5,6]:=by
 have d:bs.getD 1 0=1\/bs.getD 1 0=2\/bs.getD 1 0=3\/bs.getD 1 0=4\/bs.getD 1 0=5\/bs.getD 1 0=6:=by
  match bs,a with
  | [],a=>simp [aF] at a
  | [b0],a=>
   simp only [aF] at a;split at a <;> omega
  | b0 :: b1 :: t,a=>
   simp only [aF] at a;split at a
   ·omega
   ·rename_i e
    split at a
    ·rename_i c
     show b1=1\/b1=2\/b1=3\/b1=4\/b1=5\/b1=6;unfold aM at c;split at c
     ·omega
     ·split at c
      ·omega
      ·split at c
       ·omega
       ·split at c
        ·omega
        ·omega
    ·omega
 simp only [List.mem_cons,List.not_mem_nil,or_false];rcases d with b | b | b | b | b | b
 ·rw [jcA bs a b];simp
 ·rw [jcB bs a b];simp
 ·rw [lJ bs a (il b)];simp only [];omega
 ·rw [lJ bs a (ir b)];simp only [];omega
 ·rw [lL bs a (il b)];simp only [];omega
 ·rw [lL bs a (ir b)];simp only [];omega
theorem jcJ:∀ (n:Nat) (bs:List Int),bs.length<=n->Bytes bs->∀ q∈(dD bs).1,q.ok/\q.op∈[1,2,3,4,5,6]:=by
 intro n;induction n with
 | zero=>
  intro bs e _;have d:bs=[]:=List.length_eq_zero_iff.1 (by omega);subst d;rw [cA [] (by simp [aF])];simp
 | succ n f=>
  intro bs e c;by_cases a:aF bs=0
  ·obtain⟨g,i,_,_⟩:=dG bs a;rw [dV bs a];intro q b;rcases List.mem_cons.1 b with rfl | b
   ·exact⟨jcC bs c,jfE bs a⟩
   ·exact f _ (by rw [List.length_drop];omega) (c.drop _) q b
  ·rw [cA bs a];simp
theorem mP (z:Qt)(T n:Int):(eM z T n).2.c=2\/(eM z T n).2.c=3:=by
 show (aI z T n).2.c=2\/(aI z T n).2.c=3;unfold aI mo nZ;repeat' split
 all_goals simp
theorem jbB (L:Ld)(q:Rq):(aS L q).2.c≠7:=by
 unfold aS;by_cases a:q.op=2
 ·rw [if_neg (by omega),if_pos a];cases aZ q.key L.ks with
  | none=>simp
  | some b=>
   have:=mP b L.time q.n;simp only [];omega
 ·rw [if_neg a];repeat' split
  all_goals simp
theorem jdv (L:Ld)(q:Rq):(aS L q).1.adm=if (aS L q).2.c=2 then (L.adm+q.n) % 18446744073709551616 else L.adm:=by
 unfold aS;repeat' split
 all_goals first
  | rfl
  | simp_all
structure gT (d:Int)(L:Ld)(B:Bk):Prop where
 time:L.time=B.time
 lines:bq B.time d L.ks B.ls
 lok:L.ok
 bok:B.ok
theorem gT.step {d:Int}{L:Ld}{B:Bk}(a:gT d L B)(q:Rq)(b:q.ok)(g:q.op∈[1,2,3,4,5,6]):(aS L q).2=(bB B q).2/\gT d (aS L q).1 (bB B q).1:=by
 obtain⟨e,c,f⟩:=jdk d L B q a.lok b a.time a.lines g;have i:(aS L q).1.time=L.time:=by
  unfold aS;repeat' split
  all_goals rfl
 refine⟨e,?_,?_,(pm L q a.lok b).1,vj B q a.bok b⟩
 ·rw [i,a.time,c]
 ·rw [c];exact f
theorem gT.pass {d:Int}{L:Ld}{B:Bk}(b:gT d L B)(a:Int)(f:0<=a)(g:a<=18446744073709551615):gT d (aW L a) (fW B a):=by
 have c:=nC L a b.lok f g;have e:(aW L a).time=(fW B a).time:=by unfold aW fW;rw [b.time]
 refine⟨e,?_,c,?_⟩
 ·refine bq.mono (T:=B.time) ?_ b.lok.qt b.lines
  unfold fW;simp only [];split <;> omega
 ·refine⟨?_,b.bok.len,b.bok.ln⟩
  rw [<-e];exact c.time
theorem gT.raise {d b:Int}{L:Ld}{B:Bk}(a:gT d L B)(c:d<=b):gT b L B:=⟨a.time,a.lines.raise c a.lok.qt,a.lok,a.bok⟩
theorem jbP (L:Ld)(c:Cn)(a:Int)(bs:List Int)(d:c.bad=false) :
  gu L c a bs=if (dD (c.waits ++ bs)).2.2=2 then ((doL (aW L a) (dD (c.waits ++ bs)).1).1,⟨[],true⟩,(doL (aW L a) (dD (c.waits ++ bs)).1).2 ++ [⟨6,0,0⟩])
   else ((doL (aW L a) (dD (c.waits ++ bs)).1).1,⟨(dD (c.waits ++ bs)).2.1,false⟩,(doL (aW L a) (dD (c.waits ++ bs)).1).2):=by
 have b:=jcT _ (c.waits ++ bs) (aW L a) lz;unfold fy at b;unfold gu;rw [if_neg (by simp [d]),b]
theorem jal (L:Ld)(c:Cn)(a:Int)(bs:List Int)(b:c.bad=true):gu L c a bs=(aW L a,c,[]):=by
 unfold gu;rw [if_pos b]
end Go.Proofs.YtnlgndpcddngoaaGreatDoor
namespace Go.Proofs.YtnlgndpcddngoaaGreatDoor
open Go.Proofs.Tryz Go.RowKit Go.Maps
variable [dK] [iK]
theorem pH (c n:Int)(w:World)(f:0<n)(g:n<=1000000000)(b:-9223372036854775808<=c)(d:c<=9223372036854775807) :
  Calls prog 24 #[.int .i64 c,.int .i64 n] w fun e w'=>e=.returned (.int .i64 (bp c n))/\w'=w:=by
 have i:¬n=0:=by omega
 by_cases a:c<0
 ·have e:bp c n=-((c+1).tmod n):=by unfold bp;rw [if_pos a,<-Int.neg_tmod,Int.tmod_eq_emod_of_nonneg (by omega)]
  have j:IntKind.i64.wrap (c+1)=c+1:=by rw [IntKind.wrap_i64];omega
  have k:IntKind.i64.wrap (-(c+1))=-(c+1):=by rw [IntKind.wrap_i64];omega
  rw [e];clear e;go_enter func24,ntmps24
  go_wp2
  go_ret
  exact⟨rfl,rfl⟩
 ·have e:bp c n=c % n:=by unfold bp;rw [if_neg a]
  rw [e];clear e;go_enter func24,ntmps24
  go_wp2
  go_ret
  exact⟨rfl,rfl⟩
theorem ru (q:Rq)(b:q.ok)(w:World) :
  Calls prog 53 #[oj q] w
   fun e w'=>∃ a c,e=.returned (.slice a q.enc.length c)/\w'.ownsRow w.heap.size 5 1 (.slice a q.enc.length c) q.enc.length (q.enc.map (Value.int .u8))/\B7 w w':=by
 refine (tL q.op q.k0 q.k1 q.k2 q.k3 q.k4 q.k5 q.k6 q.k7 q.kd q.x q.y q.n w b.x.1 b.x.2 b.y.1 b.y.2 b.n.1 b.n.2).mono ?_
 rintro e w' ⟨g,rfl,d,f⟩;obtain⟨a,c,rfl⟩:=nz d;exact⟨a,c,rfl,d,f⟩
theorem ja8 (y:Option Addr)(n z:Nat)(qs:List Rq)(s:ByteArray)(w:World)(E:qs.length=n)(bv:n<=z)(bu:n<=1000)(bw:s.size<=20000)(F:∀ q∈qs,q.ok)
  (B:0<n->∃ c o,y=some ⟨c,o,none⟩/\c<w.heap.size/\∀ i (bk:i<qs.length) b,b<13->w.cell? ⟨c,o+i * 13+b,none⟩=(#[.int .u8 qs[i].op,.int .u8 qs[i].k0,.int .u8 qs[i].k1,.int .u8 qs[i].k2,.int .u8 qs[i].k3,.int .u8 qs[i].k4,.int .u8 qs[i].k5,.int .u8 qs[i].k6,.int .u8 qs[i].k7,.int .u8 qs[i].kd,.int .u64 qs[i].x,.int .u64 qs[i].y,.int .u64 qs[i].n]:Array Value)[b]?) :
  Calls prog 36 #[.slice y n z,.string s] w fun e w'=>e=.returned (.string (strOfNums (bY qs) ++ s))/\B7 w w':=by
 have L:=aa B;have v:=aa E;have N:=aa F;clear B E F;go_enter func36,ntmps36
 go_wp2
 go_loopw [5,6] (fun bj t wr=>∃ i:Nat,i<=n/\t=.int .i64 i/\wr.ownsRow w.heap.size 5 1 bj (bY (qs.take i)).length ((bY (qs.take i)).map (Value.int .u8))/\B7 w wr) (fun _ t _=>n - (intOf t).toNat)
 case atStart=>exact⟨0,by omega,rfl,World.ownsRow_nil _ _ _ _,Below.refl _ _⟩
 case round=>
  obtain⟨i,bo,rfl,G,j⟩:=hrel;have D:(bY (qs.take i)).length<=27000:=by have:=gO (qs.take i);rw [List.length_take] at this;omega
  have g:=aa G;have a1:=j.size;clear G;by_cases ad:i<n
  ·have r:i<qs.length:=by rw [v.out];exact ad
   obtain⟨c,o,rfl,U,C⟩:=L.out (by omega);obtain⟨q,k⟩:∃ q,q=qs[i]:=⟨_,rfl⟩;have av:q.ok:=k▸N.out _ (List.getElem_mem r);have a:∀ b,b<13->wr.cell? ⟨c,o+i * 13+b,none⟩=(#[.int .u8 q.op,.int .u8 q.k0,.int .u8 q.k1,.int .u8 q.k2,.int .u8 q.k3,.int .u8 q.k4,.int .u8 q.k5,.int .u8 q.k6,.int .u8 q.k7,.int .u8 q.kd,.int .u64 q.x,.int .u64 q.y,.int .u64 q.n]:Array Value)[b]?:=fun b Y=>by
    rw [j.cell (p:=⟨c,o+i * 13+b,none⟩) U,k];exact C i r b Y
   have J:=a 0 (by omega);have a2:=a 1 (by omega);have a6:=a 2 (by omega);have a7:=a 3 (by omega);have a8:=a 4 (by omega);have a9:=a 5 (by omega);have bb:=a 6 (by omega);have bd:=a 7 (by omega);have bg:=a 8 (by omega);have bi:=a 9 (by omega);have a3:=a 10 (by omega);have a4:=a 11 (by omega);have a5:=a 12 (by omega);rw [Nat.add_zero] at J;have O:=aa k;have bl:=vD q;clear a C k;go_wp2_with fail
   refine (ru q av _).mono ?_
   rintro e K ⟨Q,R,rfl,H,m⟩;have M:=aa H;have x:Hid (K.ownsRow w.heap.size 5 1 u5 (bY (qs.take i)).length ((bY (qs.take i)).map (Value.int .u8))):=aa (dS g.out (fun T X=>m.block T (aj g.out X).2));have bz:=m.size;have A:B7 w K:=j.trans (m.mono a1);have d:=aa A;clear J a2 a6 a7 a8 a9 bb bd bg bi a3 a4 a5 H A;go_wp2_with (at_builtin;refine cH rfl _ _ rfl w.heap.size u5 _ (bY (qs.take i)) rfl x.out (.slice Q q.enc.length R) q.enc rfl (Sl.of_own M.out).src (by omega) (by omega) ?_;intro bK b0 ao f bs)
   go_roundw
   case rel=>
    have a0:qs.take (i+1)=qs.take i ++ [qs[i]]:=by rw [List.take_add_one,List.getElem?_eq_getElem r];rfl
    have W:bY (qs.take (i+1))=bY (qs.take i) ++ q.enc:=by rw [a0,<-O.out];unfold bY;rw [List.flatMap_append];simp only [List.flatMap_cons,List.flatMap_nil,List.append_nil]
    refine⟨i+1,by omega,by go_num,?_,?_⟩
    ·rw [W,List.length_append];exact ao
    ·exact⟨f.os.trans d.out.os,f.tape.trans d.out.tape,f.output.trans d.out.output,lq d.out.size f.size,fun I Z=>(f.block I (by omega) (fun e=>by have:=aj x.out e.symm;omega)).trans (d.out.block I Z)⟩
   case measure=>simp [intOf];omega
  ·obtain rfl:i=n:=by omega
   have S:qs.take i=qs:=List.take_of_length_le (by rw [v.out];exact lz);rw [S] at g D;have V:=gk g.out rfl;obtain⟨u,l⟩:∃ u,u=strOfNums (bY qs):=⟨_,rfl⟩;have bF:u.size<=27000:=by rw [l,strOfNums_size];exact D
   rw [<-l] at V;have P:=aa l;clear l;go_wp2
   go_ret
   refine⟨?_,j⟩
   rw [P.out];rfl
theorem jbU (d base:Nat)(o:Value)(B:Bk)(k:Ky)(w:World)(l:an w d base o B)(r:B.ls.length<=12) :
  Calls prog 92 #[pO d 0,om k] w fun e w'=>e=.returned (.bool (du k B.ls).isSome)/\B7 w w':=by
 obtain⟨a,g⟩:∃ a,a=w.alloc (ol k):=⟨_,rfl⟩;have f:B7 w a:=g▸ba w;have p:=aa (dX d base o B k a (l.below f lz) r);have i:=aa f;clear l f;go_enter func92,ntmps92
 go_wp2_with fail
 rw [<-g];clear g;refine p.out.mono ?_
 rintro e t ⟨rfl,m⟩;have j:=aa (i.out.trans (m.mono i.out.size));clear m;unfold eu;cases b:du k B.ls with
 | none=>
  have c:=aa b;clear b;dsimp only;go_wp2_with fail
  go_ret
  exact⟨by rw [c.out];rfl,j.out⟩
 | some n=>
  have q:(0:Int)<=(n:Int):=by omega
  have s:¬(n:Int)<0:=by omega
  have c:=aa b;clear b;dsimp only;go_wp2_with fail
  go_ret
  exact⟨by rw [c.out];simp [q],j.out⟩
def putM (B:Bk)(i:Nat)(l:Ln)(a b:Int):Bk:=⟨B.time,B.ls.set i ⟨l.k,l.kd,l.x,l.y,a,b⟩⟩
theorem jcr (f base:Nat)(m:Value)(B:Bk)(k:Ky)(i:Nat)(l:Ln)(a b:Int)(w:World)(y:an w f base m B)(H:B.ls.length<=12)(A:du k B.ls=some i)(u:B.ls[i]?=some l) :
  Calls prog 63 #[pO f 0,om k,.int .u64 a,.int .u64 b] w fun e w'=>e=.returned (.tuple #[])/\an w' f base m (putM B i l a b)/\ae (fun b=>m.ownBlock=some b) w w':=by
 obtain⟨j,s⟩:∃ j,j=w.alloc (ol k):=⟨_,rfl⟩;have r:B7 w j:=s▸ba w;have q:=y.below r lz;have o:=aa (dX f base m B k j q H);have v:=aa q;have n:=aa r;have z:eu k B.ls=(i:Int):=by unfold eu;rw [A]
 rw [z] at o;have x:=aa u;obtain⟨M,_⟩:=List.getElem?_eq_some_iff.1 u;have N:(i:Int)<(B.ls.length:Int):=by omega
 have L:(B.ls.length:Int)<=12:=by omega
 have K:(0:Int)<=(i:Int):=by omega
 clear y r q z A u;go_enter func63,ntmps63
 go_wp2_with fail
 rw [<-s];clear s;refine o.out.mono ?_
 rintro e C ⟨rfl,t⟩;have d:=v.out.below t lz;obtain⟨c,F,rfl,_,J,p,_⟩:=d.open x.out;have O:=ab d.hb 0;have P:=p.c11;have Q:=p.c12;have R:C.frozen? ⟨c,i * 13+11,none⟩=false:=d.ho.frozenAt _;have T:C.frozen? ⟨c,i * 13+12,none⟩=false:=d.ho.frozenAt _;have G:c≠f:=ax d.ho (g:=c) rfl d.hb (by decide);have I:f≠c:=fun e=>G e.symm;have D:=aa d;have E:=aa (n.out.trans (t.mono n.out.size));clear t d p o v n;go_wp2_with fail
 go_end0
 refine⟨rfl,?_,?_⟩
 ·exact D.out.store x.out a b
 ·exact ((ae.of_below (S:=fun b=>(Value.slice (some ⟨c,0,none⟩) B.ls.length F).ownBlock=some b) E.out).set (b:=c) (il rfl) _ _).set (b:=c) (il rfl) _ _
theorem jB {d:Array Oper}{o:Oper}{a:Act}{w:World}{b:Act->World->Prop}{i:Exit->Act->World->Prop}{g:Prop}(k:o.guard=none)(s x:Operand)(t e:TypeId)(c:TypeInfo)(size:Nat)
  (u:prog.underlying t=some (.slice e)) (l:prog.info? e=some c)
  (m:o.op=.call { callee:=.builtin .append,args:=#[s,x],argTypes:=#[t,t] }) (base:Nat) (v:Value) (n:Nat) (f:List Value) (r:a.eval s=v) (p:w.ownsRow base e size v n f) (z:a.eval x=.slice none 0 0) (j:b (a.put o.dst v) w) :
  if Region.wanted o (yielded d a.tmps)=true then Oper.wp prog o a w b i else g:=by
 have y:Region.wanted o (yielded d a.tmps)=true:=by simp [Region.wanted,k]
 rw [if_pos y];have q:=run_append_owned_none (P:=prog) (w:=w) base t o.type e c size u l v n f p;unfold Oper.wp execOp;simp only [m,resolve,invoke,builtin,Sem.run_bind,Sem.run_pure,Result.andThen_ok,List.map_toArray,List.map_cons,List.map_nil,r,z,q];exact j
theorem tr {w:World}{base size n:Nat}{e:TypeId}{v:Value}{i:List Value}(b:w.ownsRow base e size v n i):(v=.slice none 0 0/\n=0)\/∃ g a,v=.slice (some ⟨g,0,none⟩) n a:=by
 rcases b.2 with ⟨c,d⟩ | ⟨g,a,j,f,_⟩
 ·exact il ⟨c,d⟩
 ·exact ir ⟨g,a,f⟩
def jba (w:World)(B:Bk)(e:Ending)(w':World):Prop:=∃ a b,e=.returned (.pointer (some ⟨a,0,none⟩))/\an w' a w.heap.size b B/\w.heap.size<=a/\B7 w w'
theorem qv {w w4:World}{B:Bk}{v:Value}(b:w4.ownsRow w.heap.size 151 13 v B.ls.length (bW B.ls))(a:B7 w w4):an (w4.alloc (ur v B.time)) w4.heap.size w.heap.size v B/\w.heap.size<=w4.heap.size/\B7 w (w4.alloc (ur v B.time)):=
 ⟨⟨af _ _,aq b (fun _ c=>ah _ _ (aj b c).2)⟩,a.size,a.alloc a.size _⟩
theorem jp (p base:Nat)(b:Value)(B:Bk)(w:World)(l:an w p base b B)(V:B.ls.length<=12) :
  Calls prog 41 #[pO p 0] w fun e w'=>jba w B e w':=by
 obtain⟨E,A,N,O,P⟩:=info_parts Tryz.info139;have o:=ab l.hb;have J:=am l.hb;have n:=aa l;clear l;go_enter func41,ntmps41
 go_wp2_with fail
 rcases tr n.out.ho with ⟨rfl,y⟩ | ⟨x,I,rfl⟩
 ·have F:Hid (B.ls=[]):=aa (List.length_eq_zero_iff.1 y);clear y;go_cut [2] (fun s k=>∃ a b,s=.pointer (some ⟨a,0,none⟩)/\an k a w.heap.size b B/\w.heap.size<=a/\B7 w k)
  case first=>
   go_region_law (refine jB (by rfl) _ _ 58 151 E 13 underlying58 A (by rfl) w.heap.size (.slice none 0 0) 0 [] (by rfl) (World.ownsRow_nil _ _ _ _) (by rfl) ?_)
   all_goals (go_wp2_with fail;go_meet)
   all_goals (
     have q:=qv (w:=w) (w4:=w.drew) (B:=B) (v:=.slice none 0 0) (by rw [F.out];exact World.ownsRow_nil _ _ _ _) (Below.refl _ w).drew;exact⟨_,_,rfl,q⟩)
  case rest=>
   obtain⟨a,b,rfl,f⟩:=hcut;have m:=aa f;clear f o;go_wp2_with fail
   go_ret
   exact⟨a,b,rfl,m.out⟩
 ·obtain⟨c,g⟩:∃ c,c=B.ls.length:=⟨_,rfl⟩;rw [<-g] at o;have u:=aa g;have X:c<=12:=by omega
  have t:Hid ((bW B.ls).length=c * 13):=aa (by rw [qO,g]);have H:Hid (∀ i j,(bW B.ls)[i]?=some j->w.drew.cell? ((⟨x,0,none⟩:Addr).add i)=some j):=aa (fun i j C=>by
    have K:i<c * 13:=by
      have:=(List.getElem?_eq_some_iff.1 C).1;rw [t.out] at this;exact this
    have D:=n.out.ho;rw [<-g] at D;rw [Addr.add_lit,Nat.zero_add,<-C];exact D.cellAt i K)
  have G:Hid (∀ j∈bW B.ls,j.oneCell'=true):=aa (lx B.ls);clear g;go_cut [2] (fun s k=>∃ a b,s=.pointer (some ⟨a,0,none⟩)/\an k a w.heap.size b B/\w.heap.size<=a/\B7 w k)
  case first=>
   go_region_law (refine aT (by rfl) _ _ 58 151 E ZL 13 48 underlying58 A N O P (by rfl) (by decide) (by rfl) w.heap.size (.slice none 0 0) 0 [] (by rfl) (World.ownsRow_nil _ _ _ _) ⟨x,0,none⟩ c I (bW B.ls) (by rfl) t.out H.out G.out (by omega) (by omega) lz ?_;intro Y R r d W;rw [Nat.zero_add,List.nil_append] at r;obtain⟨S,T,M⟩:=aw r;subst M;have z:=(d.block p J (by simp [Value.ownBlock])).trans n.out.hb;rw [<-u.out] at z;have U:=ab z)
   all_goals (go_wp2_with fail;go_meet)
   all_goals (
     have q:=qv (w:=w) (w4:=R) (B:=B) (v:=.slice S c T) (by rw [<-u.out];exact r) ⟨d.os,d.tape,d.output,d.size,fun Q L=>d.block Q L (by simp [Value.ownBlock])⟩;exact⟨_,_,rfl,q⟩)
  case rest=>
   obtain⟨a,b,rfl,f⟩:=hcut;have m:=aa f;clear f o;go_wp2_with fail
   go_ret
   exact⟨a,b,rfl,m.out⟩
theorem sT (a db nb d:Nat)(O C:Value)(blk l f:Int)(w:World)(a0:U7 blk)(o:w.heap[a]?=some (Oq db O C blk))(j:w.heap[db]?=some (ox d nb l f))(p:w.heap[d]?=some (.map #[] 0))(q:w.heap[nb]?=some (.map #[] 0))(a6:d≠nb) :
  Calls prog 20 #[pO a 0,.int .i64 (-1),.int .i64 (-1),.int .i64 0,.int .i64 0] w fun e w'=>∃ g F,e=.returned (.int .i64 0)/\w.heap.size<=g/\w'.heap[a]?=some (oO db g blk)/\aU db blk ⟨0,true⟩ (bu 0) w' 0 g ⟨0,0,[]⟩ F/\(∀ b,F b->b=db\/b=d\/b=nb\/w.heap.size<=b)/\¬F a/\ae (fun b=>b=a\/b=db) w w':=by
 have bv:=am o;have bs:=am j;have r:a≠db:=by
  intro e;subst e;rw [o] at j;simp at j
 have L:nb≠db:=by
  intro e;subst e;rw [j] at q;simp at q
 have K:d≠db:=by
  intro e;subst e;rw [j] at p;simp at p
 have a5:d≠a:=by
  intro e;subst e;rw [o] at p;simp at p
 have bb:nb≠a:=by
  intro e;subst e;rw [o] at q;simp at q
 obtain⟨i,n⟩:∃ i,i=((w.setCell ⟨db,3,none⟩ (.int .i64 (-1))).setCell ⟨db,4,none⟩ (.int .i64 (-1))).drew:=⟨_,rfl⟩;have x:i.heap[a]?=some (Oq db O C blk):=by rw [n,aE,ac r,ac r];exact o
 have z:i.heap[db]?=some (oB d nb):=by rw [n,aE];simpa using ai (ai j 3 (.int .i64 (-1))) 4 (.int .i64 (-1))
 have a4:i.heap[d]?=some (.map #[] 0):=by rw [n,aE,ac K,ac K];exact p
 have a8:i.heap[nb]?=some (.map #[] 0):=by rw [n,aE,ac L,ac L];exact q
 have E:ae (fun b=>b=a\/b=db) w i:=n▸(ae.set (S:=fun b=>b=a\/b=db) (b:=db) (ae.set (S:=fun b=>b=a\/b=db) (b:=db) (ae.refl _ w) (il (ir rfl)) _ _) (il (ir rfl)) _ _).drew;have P:=ab o 0;have Q:=ab j;have R:=ag j;have bi:¬a=db:=r;have N:¬db=a:=fun e=>r e.symm;go_enter func20,ntmps20
 go_upto_region 1 with fail
 go_cut [] (fun bk=>bk=i)
 case first=>
  go_region_held3 (fun w'=>w'.cell? ⟨a,0,none⟩=some (.pointer (some ⟨db,0,none⟩))) (go_keep) (fail)
  all_goals (go_wp2_with fail;go_meet)
  all_goals exact n.symm
 case rest=>
  subst hcut;clear n P Q R;have a2:=(aE _ db).trans z;have a3:=(aE _ d).trans a4;have a7:=(aE _ nb).trans a8;have T:=ab x 0;have U:=ab x 3;go_upto_region 2 with fail
  go_region_held3 (fun w'=>w'.cell? ⟨a,0,none⟩=some (.pointer (some ⟨db,0,none⟩))/\w'.cell? ⟨a,3,none⟩=some (.int .u64 blk)) (first | go_keep | (exact⟨ab v 0,ab v 3⟩))
   (first | (go_at_call 34;refine (jci db d nb blk _ a0 a2 (ak.empty a3) (ak.empty a7) a6).mono ?_;rintro e bw ⟨g,F,rfl,bd,ao,Z,t⟩;have v:=(t.block a (am x)).trans x))
  have bl:=t.size;have M:=E.size;have I:=(t.block db (am z)).trans z;go_wp2_with fail
  refine (jh _).mono ?_
  rintro e bj ⟨rfl,u⟩;have A:=(u.block a (am v)).trans v;have a1:=(u.block db (am I)).trans I;have av:=ao.below u lz;have V:=ab A;have W:=ag A;clear T U;go_wp2_with fail
  obtain⟨k,m⟩:∃ k,k=(bj.setCell ⟨a,1,none⟩ (.pointer (some ⟨g,0,none⟩))).setCell ⟨a,2,none⟩ (.slice none 0 0):=⟨_,rfl⟩;rw [<-m];have B:k.heap[a]?=some (oO db g blk):=by rw [m];simpa using ai (ai A 1 (.pointer (some ⟨g,0,none⟩))) 2 (.slice none 0 0)
  have J:k.heap[db]?=some (oB d nb):=by rw [m,ac N,ac N];exact a1
  have D:∀ b,F b->b=db\/b=d\/b=nb\/w.heap.size<=b:=fun b c=>(Z b c).imp id (fun c=>c.imp id (fun c=>c.imp id (fun c=>lq M c)));have y:∀ b,F b->b≠a:=fun b c e=>by
   rcases D b c with c | c | c | c
   ·exact bi (e.symm.trans c)
   ·exact a5 (c.symm.trans e)
   ·exact bb (c.symm.trans e)
   ·omega
  have G:aU db blk ⟨0,true⟩ (bu 4000000) k 0 g ⟨0,0,[]⟩ F:=av.kept (by rw [m];simp) (fun b H=>by rw [m,ac (y b H),ac (y b H)]);have ad:ae (fun b=>b=a\/b=db) w k:=by
   have bg:=(E.drew.trans (ae.of_below t)).trans (ae.of_below u);rw [m];exact ae.set (S:=fun b=>b=a\/b=db) (b:=a) (ae.set (S:=fun b=>b=a\/b=db) (b:=a) bg (il (il rfl)) _ _) (il (il rfl)) _ _
  clear m V W;refine (gM a db (some d) (some nb) _ _ _ _ (-1) (-1) 0 0 k B J).mono ?_
  rintro e bz ⟨rfl,X,s⟩;go_wp2
  go_ret
  refine⟨g,F,rfl,lq M bd,(s.block a (am B) r).trans B,(G.refill J X s.size (fun b Y a9=>s.block b (G.lt b Y) a9)).less ⟨by decide,by decide⟩,D,fun c=>y a c rfl,ad.then s (fun bo _ c=>ir c)⟩
def HG (e db:Nat)(F:NP)(d:Value)(f:Nat)(c:Nat->Nat)(b:Nat):Prop:=b=e\/b=db\/F b\/d.ownBlock=some b\/∃ a,a<f/\b=c a
structure cL (w:World)(hb db _nb sb:Nat)(_mb:Option Nat)(blk:Int)(D:Dx)(L:Ld)(F:NP)(B:Nat)(cv:Value)(m:Nat)(cb:Nat->Nat)(c:Nat->Cn):Prop where
 hh:w.heap[hb]?=some (OE db sb cv blk)
 hd:F db
 hs:aU db blk D (bu 0) w 0 sb L F
 hc:∀ i,i<m->jl w sb (cb i) (c i) F
 hi:∀ i j,i<m->j<m->cb i=cb j->i=j
 ho:w.ownsRow B 83 1 cv m (ge cb m)
 hF:∀ g,(g=hb\/False\/cv.ownBlock=some g)->¬F g
 lo:∀ b,HG hb db F cv m cb b->B<=b
 fr:∀ i,m<=i->c i=⟨[],false⟩
theorem Tryz.info76:(prog.info? 83).map (fun i=>(i.zero,i.size,i.bytes))=some (some (.pointer none),1,8):=by kernel_rfl
theorem sC (a:Nat)(w:World):Calls prog 29 #[.pointer (some ⟨a,0,none⟩)] w fun e w'=>e=.returned (.pointer (some ⟨w.heap.size,0,none⟩))/\w'.heap[w.heap.size]?=some (OT a)/\w'.heap.size=w.heap.size+1/\B7 w w':=by
 refine (jaf a w).mono ?_
 rintro e w' ⟨rfl,rfl⟩;exact⟨rfl,af _ _,by simp,ba w⟩
theorem pS {d:Array Oper}{o:Oper}{a:Act}{w:World}{c:Act->World->Prop}{f:Exit->Act->World->Prop}{e:Prop}(l:o.guard=none)(x:Operand)
  (m:o.op=.call { callee:=.value (.func 29),args:=#[x],argTypes:=#[79] }) (b:Nat) (q:a.eval x=.pointer (some ⟨b,0,none⟩))
  (k:∀ w',w'.heap[w.heap.size]?=some (OT b)->w'.heap.size=w.heap.size+1->B7 w w'->c (a.put o.dst (.pointer (some ⟨w.heap.size,0,none⟩))) w') :
  if Region.wanted o (yielded d a.tmps)=true then Oper.wp prog o a w c f else e:=by
 have p:Region.wanted o (yielded d a.tmps)=true:=by simp [Region.wanted,l]
 rw [if_pos p];have n:(execOp a.eval o).run prog w=.ok (.enter 29 #[.pointer (some ⟨b,0,none⟩)]) w:=by
  simp [execOp,m,resolve,invoke,go_sem];rw [<-q];cases x <;> simp [Act.eval]
 unfold Oper.wp;rw [n,Oper.upon_enter];refine (sC b w).mono ?_
 rintro r w' ⟨rfl,g,i,j⟩;exact k w' g i j
theorem cL.kept {w w':World}{j db nb t:Nat}{s:Option Nat}{blk:Int}{D:Dx}{L:Ld}{F:NP}{B:Nat}{p:Value}{r:Nat}{o:Nat->Nat}{c:Nat->Cn}(H:cL w j db nb t s blk D L F B p r o c)(m:w.heap.size<=w'.heap.size)(b:∀ k,k<w.heap.size->w'.heap[k]?=w.heap[k]?):cL w' j db nb t s blk D L F B p r o c:=by
 refine⟨(b j (am H.hh)).trans H.hh,H.hd,H.hs.kept m (fun n y=>b n (H.hs.lt n y)),fun A z=>?_,H.hi,aq H.ho (fun a l=>b a (aj H.ho l).2),H.hF,H.lo,H.fr⟩
 obtain⟨⟨u,q,v,g⟩,x⟩:=H.hc A z;exact⟨⟨u,(b _ (am q)).trans q,v.kept m (fun a f e d _ l=>b a l),fun a f e d i=>⟨(g a f e d i).1,(g a f e d i).2.1,ll (g a f e d i).2.2 m⟩⟩,x⟩
theorem cL.quiet {w w':World}{d db nb t:Nat}{s:Option Nat}{blk:Int}{D:Dx}{L:Ld}{F:NP}{B:Nat}{g:Value}{n:Nat}{f:Nat->Nat}{c:Nat->Cn}(H:cL w d db nb t s blk D L F B g n f c)(C:∀ i,(c i).waits=[])(r:w.heap.size<=w'.heap.size)(e:∀ k,HG d db F g n f k->w'.heap[k]?=w.heap[k]?):cL w' d db nb t s blk D L F B g n f c:=by
 refine⟨(e d (il rfl)).trans H.hh,H.hd,H.hs.kept r (fun u z=>e u (ir (ir (il z)))),fun i q=>?_,H.hi,aq H.ho (fun b A=>e b (ir (ir (ir (il A))))),H.hF,H.lo,H.fr⟩
 obtain⟨⟨v,x,a,l⟩,y⟩:=H.hc i q;refine⟨⟨v,(e _ (ir (ir (ir (ir ⟨i,q,rfl⟩))))).trans x,?_,fun b p o j m=>⟨(l b p o j m).1,(l b p o j m).2.1,ll (l b p o j m).2.2 r⟩⟩,y⟩
 rw [C i] at a ⊢;rcases a with a | ⟨a,_⟩
 ·exact il a
 ·simp at a
theorem cL.lt {w:World}{f db nb l:Nat}{k:Option Nat}{blk:Int}{D:Dx}{L:Ld}{F:NP}{B:Nat}{e:Value}{g:Nat}{d:Nat->Nat}{c:Nat->Cn}(H:cL w f db nb l k blk D L F B e g d c)(b:Nat)(a:HG f db F e g d b):b<w.heap.size:=by
 rcases a with rfl | rfl | a | a | ⟨j,i,rfl⟩
 ·exact am H.hh
 ·exact H.hs.lt _ H.hd
 ·exact H.hs.lt b a
 ·exact (aj H.ho a).2
 ·exact am (H.hc j i).mem.choose_spec.1
def bE (w:World)(f e:Nat)(d:Nat->Nat)(c:Nat->Cn)(g:Nat):Prop:=∀ a,a<e->(c a).waits≠[]->∀ b,w.heap[d a]?=some (uU f b (.bool (c a).bad))->b.ownBlock≠some g
theorem nO {w w':World}{v:Value}{bs:List Int}(a:jJ w v bs)(e:w.heap.size<=w'.heap.size)(c:bs≠[]->∀ g o n d,v=.slice (some ⟨g,o,none⟩) n d->g<w.heap.size->w'.heap[g]?=w.heap[g]?):jJ w' v bs:=by
 rcases a with a | a
 ·exact il a
 ·exact jJ.kept (ir a) e (c (fun b=>by have:=a.1;rw [b] at this;simp at this))
theorem jd6 (k:Int)(i:Nat)(w:World)(b:-9223372036854775808<=k)(c:k<=9223372036854775807)(a:bp k 3=(i:Int)) :
  Calls prog 30 #[.int .i64 k,.int .i64 3] w fun e w'=>e=.returned (.int .i64 i)/\w'=w:=by
 rw [<-a];exact jy k 3 w (by omega) (by omega) b c
theorem jl.waits_lt {w:World}{e d:Nat}{c:Cn}{F:NP}(n:jl w e d c F){b:Value}(o:w.heap[d]?=some (uI e b c.bad)){g:Nat}(a:b.ownBlock=some g):g<w.heap.size:=by
 obtain⟨i,k,l,m⟩:=n.mem;have j:i=b:=by
  have:=k.symm.trans o;simpa using this
 subst j;rcases l with ⟨_,rfl | ⟨q,r,f,rfl⟩⟩ | ⟨_,q,r,f,rfl,p,_⟩
 ·simp [Value.ownBlock] at a
 ·simp [Value.ownBlock] at a;subst a;exact (m _ _ _ _ rfl).2.2
 ·simp [Value.ownBlock] at a;subst a;exact p
theorem jbp (a:Array Value)(w:World):Sem.run prog (callFunc 31 a) w=.ok (.enter 31 a) w:=by simp [go_sem]
theorem jbr (a:Array Value)(w:World):Sem.run prog (callFunc 30 a) w=.ok (.enter 30 a) w:=by simp [go_sem]
theorem bE.kept {w w':World}{f d:Nat}{b:Nat->Nat}{c:Nat->Cn}{g:Nat}(j:bE w f d b c g)(l:∀ a,a<d->w'.heap[b a]?=w.heap[b a]?):bE w' f d b c g:=
 fun a e m i k=>j a e m i ((l a e).symm.trans k)
theorem Tryz.info92:(prog.info? 101).map (fun i=>(i.zero,i.size,i.bytes))=some (some (.pointer none),1,8):=by kernel_rfl
theorem jaD (b:Nat->Nat)(i x:Nat):ge (fun a=>if a=i then x else b a) (i+1)=ge b i ++ [.pointer (some ⟨x,0,none⟩)]:=by
 unfold ge;rw [List.range_succ,List.map_append];congr 1
 ·apply List.map_congr_left
  intro a c;have:=List.mem_range.1 c;show Value.pointer (some ⟨if a=i then x else b a,0,none⟩)=_;rw [if_neg (by omega)]
 ·simp
structure OpI (w:World)(wb:Nat)(C:Value->Array Value)(i:Nat)(v:Value)(tb:Nat->Nat)(wr:World):Prop where
 blk:wr.heap[wb]?=some (.cells (C v) 67)
 own:wr.ownsRow w.heap.size 101 1 v i (ge tb i)
 st:∀ j,j<i->wr.heap[tb j]?=some (uH)/\w.heap.size<=tb j
 inj:∀ j k,j<i->k<i->tb j=tb k->j=k
 keep:ae (fun b=>b=wb) w wr
theorem tj (f:Nat)(t u bg x V y z A E F G H I J K L B C D T U least ad:Value)(w:World)(r:w.heap[f]?=some (.cells #[t,u,bg,x,V,y,z,A,E,F,G,H,I,J,K,L,B,C,D,T,U,least,ad] 67)) :
  Calls prog 22 #[pO f 0] w fun e w'=>e=.returned (.tuple #[])/\∃ v k,OpI w f (fun v=>#[t,u,v,x,.bool false,y,z,A,E,F,G,H,I,J,K,L,B,C,D,T,U,least,.int .u64 0]) 3 v k w':=by
 obtain⟨b4,q,b0,b1,b2⟩:=info_parts Tryz.info92;have bb:=ab r;have bd:=ag r;have cr:=am r;have a9:=aa r;clear r;go_enter func22,ntmps22
 go_wp2_with fail
 go_loopw [2] (fun av wr=>∃ a:Nat,∃ v k,a<=3/\av=.int .i64 a/\OpI w f (fun v=>#[t,u,v,x,V,y,z,A,E,F,G,H,I,J,K,L,B,C,D,T,U,least,ad]) a v k wr) (fun av _=>3 - (intOf av).toNat)
 case atStart=>
  refine⟨0,.slice none 0 0,fun _=>0,by omega,rfl,⟨by simpa using ai a9.out 2 _,World.ownsRow_nil _ _ _ _,fun c q=>by omega,fun c Q q=>by omega,ae.set (S:=fun j=>j=f) (b:=f) (ae.refl _ w) (il rfl) _ _⟩⟩
 case round=>
  obtain⟨a,v,k,cl,rfl,p⟩:=hrel;obtain⟨m,n,rfl⟩:=aw p.own;have O:wr.heap[f]?=some (.cells #[t,u,.slice m a n,x,V,y,z,A,E,F,G,H,I,J,K,L,B,C,D,T,U,least,ad] 67):=p.blk;have b8:=ab O;have b9:=ag O;have bs:=p.keep.size;have d:=aa p;have s:=aa O;clear p bb bd O;by_cases cq:a<3
  ·have cn:(a:Int)<3:=by omega
   have cb:=fun ao c=>ce s.out ao c;have cc:=fun ao R c=>ce (aB s.out ao) R c;have a8:Hid (∀ a6 R,((wr.alloc a6).alloc R).ownsRow w.heap.size 101 1 (.slice m a n) a (ge k a)):=aa (fun a6 R=>aq d.out.own (fun g i=>by
     have:=aj d.out.own i;exact (ah _ _ (by simp;omega)).trans (ah _ _ (by omega))))
   have bz:(Value.slice m a n).ownBlock≠some f:=fun e=>by have:=aj d.out.own e;omega
   go_wp2_with (at_builtin;refine wpList_append_own_at _ rfl _ _ 61 rfl w.heap.size 101 b4 (.pointer none) 1 8 underlying61 q b0 b1 b2 rfl (by decide) (.slice m a n) a (ge k a) rfl (a8.out _ _) ⟨wr.heap.size+1,0,none⟩ 1 1 [.pointer (some ⟨wr.heap.size,0,none⟩)] rfl rfl (fun c cs bl=>by rw [Addr.add_lit,Nat.zero_add,<-bl];exact (ab (aC (by simp)) c).trans (by simp)) (by simp [Value.oneCell']) (by unfold maxLen;omega) (by omega) (by simp;omega) ?_;intro ct a1 Z Y bw a5;obtain⟨b5,b6,b3⟩:=aw Z;subst b3;have N:=(Y.block f (by simp;omega) (fun e=>bz e.symm)).trans (aB (aB s.out _) _);have ch:=ab N;have ci:=ag N;have a2:=aa Z;have l:=aa Y;have a7:=aa N;have b7:=aa a5;clear Z Y bw a5 N)
   go_roundw
   case rel=>
    have a4:=l.out.size;have ck:wr.heap.size+2<=a1.heap.size:=by simp at a4;omega
    have bu:∀ g,g<w.heap.size->(Value.slice m a n).ownBlock≠some g:=fun g i e=>by have:=aj d.out.own e;omega
    have o:=((d.out.keep).alloc (uH)).alloc (.cells #[.pointer (some ⟨wr.heap.size,0,none⟩)] 101);have bo:ae (fun j=>j=f) w a1:=⟨l.out.os.trans o.os,l.out.tape.trans o.tape,l.out.output.trans o.output,lq o.size a4,fun g i bj=>(l.out.block g (ll i o.size) (fun e=>bu g i e.symm)).trans (o.block g i bj)⟩;have bF:∀ g a3 a0,wr.heap[g]?=some (.cells a3 a0)->a0≠101->(Value.slice m a n).ownBlock≠some g:=fun g a3 a0 i bK e=>ax d.out.own e i bK rfl;have bv:a1.heap[wr.heap.size]?=some (uH):=(l.out.block wr.heap.size (by simp;omega) (fun e=>by have:=aj d.out.own e.symm;omega)).trans (aB (af _ _) _);refine⟨a+1,.slice b5 (a+1) b6,fun c=>if c=a then wr.heap.size else k c,by omega,by go_num,⟨by simpa using ai a7.out 2 _,?_,?_,?_,ae.set (S:=fun j=>j=f) (b:=f) bo (il rfl) _ _⟩⟩
    ·rw [jaD];refine aq a2.out (fun g i=>?_)
     have:=aj a2.out i;exact ac (by omega) _ _
    ·intro c bk;by_cases e:c=a
     ·rw [if_pos e];exact⟨(ac (by omega) _ _).trans bv,bs⟩
     ·rw [if_neg e];have M:=d.out.st c (by omega);have bi:=am M.1;exact⟨(ac (by omega) _ _).trans ((l.out.block (k c) (by simp;omega) (fun e=>bF _ _ _ M.1 (by decide) e.symm)).trans ((ah _ _ (by simp;omega)).trans ((ah _ _ bi).trans M.1))),M.2⟩
    ·intro c Q bk cp P;by_cases W:c=a <;> by_cases X:Q=a
     ·omega
     ·rw [if_pos W,if_neg X] at P;have:=am (d.out.st Q (by omega)).1;omega
     ·rw [if_neg W,if_pos X] at P;have:=am (d.out.st c (by omega)).1;omega
     ·rw [if_neg W,if_neg X] at P;exact d.out.inj c Q (by omega) (by omega) P
   case measure=>simp [intOf];omega
  ·obtain rfl:a=3:=by omega
   go_wp2_with fail
   go_end0
   refine⟨rfl,.slice m 3 n,k,⟨by simpa using ai (ai s.out 4 _) 22 _,?_,?_,d.out.inj,ae.set (S:=fun j=>j=f) (b:=f) (ae.set (S:=fun j=>j=f) (b:=f) d.out.keep (il rfl) _ _) (il rfl) _ _⟩⟩
   ·refine aq d.out.own (fun g i=>?_)
    have:=aj d.out.own i;exact (ac (by omega) _ _).trans (ac (by omega) _ _)
   ·intro c q;have:=d.out.st c q;exact⟨(ac (by omega) _ _).trans ((ac (by omega) _ _).trans this.1),this.2⟩
structure Sp where
 kind:Int
 conn:Int
 now:Int
 qs:List Rq
 raw:ByteArray
 cut:Int
 left:Int
 full:Int
 kept:Int
 part:Int
abbrev kr (p:Sp)(v:Value):List Value:=[.int .i64 p.kind,.int .i64 p.conn,.int .u64 p.now,v,.string p.raw,.int .i64 p.cut,.int .i64 p.left,.int .i64 p.full,.int .i64 p.kept,.int .i64 p.part]
def jD:List Sp->List Value->List Value
 | p :: ps,v :: vs=>kr p v ++ jD ps vs
 | _,_=>[]
theorem nP:∀ (ps:List Sp) (c:List Value) (p:Sp) (v:Value),ps.length=c.length->jD (ps ++ [p]) (c ++ [v])=jD ps c ++ kr p v
 | [],[],_,_,_=>rfl
 | a :: ps,b :: c,p,v,h=>by
  show kr a b ++ jD (ps ++ [p]) (c ++ [v])=kr a b ++ jD ps c ++ kr p v;rw [nP ps c p v (by simpa using h),List.append_assoc]
 | [],_ :: _,_,_,h=>by simp at h
 | _ :: _,[],_,_,h=>by simp at h
theorem rF (x:Nat)(e:x<10):∀ (ps:List Sp) (a:List Value) (i:Nat) (c:i<ps.length) (d:i<a.length),(jD ps a)[i * 10+x]?=(kr ps[i] a[i])[x]?
 | p :: ps,v :: a,0,_,_=>by
  show (kr p v ++ jD ps a)[0 * 10+x]?=_;rw [Nat.zero_mul,Nat.zero_add,List.getElem?_append_left (by simpa using e)];rfl
 | p :: ps,v :: a,i+1,c,d=>by
  have b:(kr p v).length=10:=rfl;show (kr p v ++ jD ps a)[(i+1) * 10+x]?=_;rw [List.getElem?_append_right (by rw [b];omega),b,show (i+1) * 10+x - 10=i * 10+x by omega,rF x e ps a i (by simpa using c) (by simpa using d)];rfl
def fq (qs:List Rq):List Rq:=qs.filter (fun a=>decide (a.op≠5))
theorem jdC (qs:List Rq)(k:Nat)(c:k<qs.length):fq (qs.take (k+1))=if qs[k].op=5 then fq (qs.take k) else fq (qs.take k) ++ [qs[k]]:=by
 have b:qs.take (k+1)=qs.take k ++ [qs[k]]:=by rw [List.take_add_one,List.getElem?_eq_getElem c];rfl
 unfold fq;rw [b,List.filter_append];by_cases a:qs[k].op=5
 ·simp [a]
 ·simp [a]
theorem jeT (qs:List Rq):(fq qs).length<=qs.length:=List.length_filter_le _ _
def gf (w:World)(v:Value)(qs:List Rq):Prop:=∃ d e,v=.slice d qs.length e/\qs.length<=e/\(0<qs.length->∃ a f,d=some ⟨a,f,none⟩/\a<w.heap.size/\∀ b (g:b<qs.length) c,c<13->w.cell? ⟨a,f+b * 13+c,none⟩=(tQ qs[b])[c]?)
theorem qW {w:World}{base e j:Nat}{v:Value}{n:Nat}{k:List Value}(d:w.ownsRow base e j v n k){g:Nat}(a:v.ownBlock=some g):∃ c b,w.heap[g]?=some (.cells c e b):=by
 rcases d.2 with ⟨rfl,rfl⟩ | ⟨o,l,m,i,_,f,_⟩
 ·simp [Value.ownBlock] at a
 ·rw [i] at a;simp [Value.ownBlock] at a;subst a;exact⟨_,_,f⟩
structure Rq.byt (q:Rq):Prop where
 op:0<=q.op/\q.op<=255
 kd:0<=q.kd/\q.kd<=255
theorem jaj (q:Rq)(e:q.ok)(d:q.byt):Bytes q.enc:=by
 have b:=e.key;have f:=b.h0;have g:=b.h1;have i:=b.h2;have j:=b.h3;have k:=b.h4;have l:=b.h5;have m:=b.h6;have n:=b.h7;have o:=d.kd;have p:=d.op;simp only [Rq.key] at f g i j k l m n;unfold Rq.enc gn;split
 ·refine (Bytes.app ?_ (bX _)).app (bX _)
  intro c a;simp only [List.mem_cons,List.not_mem_nil,or_false] at a;omega
 ·split
  ·refine Bytes.app ?_ (bX _)
   intro c a;simp only [List.mem_cons,List.not_mem_nil,or_false] at a;omega
  ·split
   ·intro c a;simp only [List.mem_cons,List.not_mem_nil,or_false] at a;omega
   ·split
    ·intro c a;simp only [List.mem_cons,List.not_mem_nil,or_false] at a;omega
    ·intro c a;simp at a
theorem qA (qs:List Rq)(b:∀ q∈qs,q.ok/\q.byt):Bytes (bY qs):=by
 intro d a;obtain⟨q,c,a⟩:=List.mem_flatMap.1 a;exact jaj q (b q c).1 (b q c).2 d a
abbrev rqcl (q:Rq):List Value:=[.int .u8 q.op,.int .u8 q.k0,.int .u8 q.k1,.int .u8 q.k2,.int .u8 q.k3,.int .u8 q.k4,.int .u8 q.k5,.int .u8 q.k6,.int .u8 q.k7,.int .u8 q.kd,.int .u64 q.x,.int .u64 q.y,.int .u64 q.n]
def lZ (a rs:Nat->Nat):Nat->Nat
 | 0=>0
 | i+1=>lZ a rs i+26 * a i+rs i
def je4 (n:Nat)(b rs:Nat->Nat)(e:Ending):Prop:=∃ a,e=.returned (.bool a)/\(a=true->n+lZ b rs n<=16384)
theorem jeA (v:Option Addr)(n x:Nat)(d rs:Nat->Nat)(w:World)(U:n<=x)(T:n<=140737488355328)(B:∀ i,i<n->d i<=140737488355328)(C:∀ i,i<n->rs i<=140737488355328)
  (z:0<n->∃ c o,v=some ⟨c,o,none⟩/\c<w.heap.size/\∀ i,i<n->(∃ r s,w.cell? ⟨c,o+i * 10+3,none⟩=some (.slice r (d i) s))/\∃ f:ByteArray,w.cell? ⟨c,o+i * 10+4,none⟩=some (.string f)/\f.size=rs i) :
  Calls prog 18 #[.slice v n x] w fun e w'=>je4 n d rs e/\B7 w w':=by
 have F:=aa z;have H:=aa B;have I:=aa C;clear z B C;go_enter func18,ntmps18
 go_wp2
 go_loopw [3,4] (fun P t wr=>∃ i:Nat,i<=n/\t=.int .i64 i/\P=.int .i64 ((n+lZ d rs i:Nat):Int)/\n+lZ d rs i<=40000000000000000/\B7 w wr) (fun _ t _=>n - (intOf t).toNat)
 case atStart=>exact⟨0,by omega,rfl,by simp [lZ],by simp [lZ];omega,Below.refl _ _⟩
 case round=>
  obtain⟨i,R,rfl,rfl,O,g⟩:=hrel;obtain⟨a,l⟩:∃ a,a=n+lZ d rs i:=⟨_,rfl⟩;rw [<-l] at O ⊢;have u:=aa l;clear l;by_cases m:i<n
  ·by_cases W:a<=16384
   ·obtain⟨c,o,rfl,y,A⟩:=F.out (by omega);obtain⟨⟨r,s,D⟩,f,E,q⟩:=A i m;have K:wr.cell? ⟨c,o+i * 10+3,none⟩=some (.slice r (d i) s):=(g.cell (p:=⟨c,o+i * 10+3,none⟩) y).trans D;have Q:wr.cell? ⟨c,o+i * 10+4,none⟩=some (.string f):=(g.cell (p:=⟨c,o+i * 10+4,none⟩) y).trans E;obtain⟨b,j⟩:∃ b,b=d i:=⟨_,rfl⟩;rw [<-j] at K;have X:b<=140737488355328:=j▸H.out i m;have V:f.size<=140737488355328:=q▸I.out i m;have J:=aa j;have G:=aa q;have M:(i:Int)<(n:Int):=by omega
    have S:(0:Int)<=(i:Int):=by omega
    have N:(a:Int)<=16384:=by omega
    have Y:IntKind.i64.wrap (26 * (b:Int))=26 * (b:Int):=by rw [IntKind.wrap_i64];omega
    have Z:IntKind.i64.wrap ((a:Int)+26 * (b:Int))=(a:Int)+26 * (b:Int):=by rw [IntKind.wrap_i64];omega
    have ad:IntKind.i64.wrap ((a:Int)+26 * (b:Int)+(f.size:Int))=(a:Int)+26 * (b:Int)+(f.size:Int):=by rw [IntKind.wrap_i64];omega
    clear D E A j q;go_upto_region 5 with fail
    go_region
    all_goals go_wp2
    all_goals go_roundw
    ·have L:n+lZ d rs (i+1)=a+26 * b+f.size:=by
      have:=u.out;have:=J.out;have:=G.out;unfold lZ;omega
     refine⟨i+1,by omega,by go_num,?_,by omega,g.drew⟩
     rw [L];simp
    ·simp [intOf];omega
   ·have N:¬(a:Int)<=16384:=by omega
    have M:(i:Int)<(n:Int):=by omega
    go_wp2
    go_ret
    exact⟨⟨false,rfl,fun k=>by simp at k⟩,g⟩
  ·obtain rfl:i=n:=by omega
   go_wp2
   go_ret
   refine⟨⟨_,rfl,fun k=>?_⟩,g⟩
   have:=u.out;simp at k;omega
end Go.Proofs.YtnlgndpcddngoaaGreatDoor
namespace Go.Proofs.YtnlgndpcddngoaaGreatDoor
open Go.Proofs.Tryz
open Go.ChangeShapes Go.WideShapes Go.ChangeAt Go.RowKit Go.Joins
variable [dK] [iK]
theorem Tryz.cells28:prog.cellsOf 65=13:=by kernel_rfl
theorem Tryz.cells23:prog.cellsOf 63=8:=by kernel_rfl
theorem Tryz.cells26:prog.cellsOf 30=3:=by kernel_rfl
theorem Tryz.cells5:prog.cellsOf 5=1:=by kernel_rfl
theorem Tryz.cells24:prog.cellsOf 23=1:=by kernel_rfl
theorem jfu {o:List Value}(p:o.length=13):∃ a b f g i j k l m n c d e,o=[a,b,f,g,i,j,k,l,m,n,c,d,e]:=by
 match o,p with
 | [a,b,f,g,i,j,k,l,m,n,c,d,e],_=>exact⟨a,b,f,g,i,j,k,l,m,n,c,d,e,rfl⟩
theorem ic {H:Type}{enc:TypeId×Value->H}{d:World}{base n:Nat}{i:Nat->Bool}{g:Bool}{c:Value}{x:DataW H×List MemPlace}(e:DataW.trod enc prog d base i g n 5 [c]=some x):∃ a,c=.int .u8 a/\0<=a/\a<=255:=by
 obtain⟨a,b,_,j⟩:=DataW.trod_int underlying5 e;have f:=bounds_u8 j;simp at b;exact⟨a,b,f.1,by omega⟩
theorem pU {H:Type}{enc:TypeId×Value->H}{d:World}{base n:Nat}{i:Nat->Bool}{g:Bool}{c:Value}{x:DataW H×List MemPlace}(e:DataW.trod enc prog d base i g n 23 [c]=some x):∃ a,c=.int .u64 a/\U7 a:=by
 obtain⟨a,b,_,j⟩:=DataW.trod_int underlying23 e;have f:=bounds_u64 j;simp at b;exact⟨a,b,f.1,by omega⟩
theorem jfI {H:Type}{enc:TypeId×Value->H}{e:World}{base a2:Nat}{t:Nat->Bool}{o:Bool}{d:List Value}{x:DataW H×List MemPlace}
  (a8:d.length=13) (a5:DataW.trod enc prog e base t o a2 65 d=some x):∃ q:Rq,(q.ok/\q.byt)/\d=rqcl q:=by
 obtain⟨Q,f,g,i,j,k,l,m,n,U,R,S,T,rfl⟩:=jfu a8;obtain⟨b8,b9,cb,cc,b5,_,_,u,v,w,y⟩:=trod_struct4 underlying65 a5;simp only [Tryz.cells5,Tryz.cells23,Tryz.cells26,Tryz.cells24] at u v w y;obtain⟨bK,rfl,bz,bF⟩:=ic (c:=Q) u;obtain⟨bw,rfl,bu,bv⟩:=pU (c:=T) y;obtain⟨b7,bs,_,_,_,b4,a7⟩:=DataW.trod_array underlying63 v;obtain⟨ch,ci,ck,b6,_,_,p,r,s⟩:=Deep.trod_struct3 underlying30 w;simp only [Tryz.cells5,Tryz.cells24] at p r s;obtain⟨bo,rfl,V,W⟩:=ic (c:=U) p;obtain⟨x,rfl,b0,b1⟩:=pU (c:=R) r;obtain⟨b2,rfl,a3,a4⟩:=pU (c:=S) s;have a:∀ b,b<8->∃ b3,DataW.trod enc prog e base t o bs 5 ((List.drop b [f,g,i,j,k,l,m,n]).take 1)=some b3:=by
  intro b a6;have:=a7 b a6;rw [Tryz.cells5,Nat.mul_one,List.getElem?_eq_getElem (by omega)] at this;exact⟨_,this⟩
 obtain⟨_,X⟩:=a 0 (by omega);obtain⟨_,Y⟩:=a 1 (by omega);obtain⟨_,Z⟩:=a 2 (by omega);obtain⟨_,ad⟩:=a 3 (by omega);obtain⟨_,ao⟩:=a 4 (by omega);obtain⟨_,av⟩:=a 5 (by omega);obtain⟨_,a0⟩:=a 6 (by omega);obtain⟨_,a1⟩:=a 7 (by omega);obtain⟨a9,rfl,z,I⟩:=ic (c:=f) X;obtain⟨bb,rfl,A,J⟩:=ic (c:=g) Y;obtain⟨bd,rfl,B,K⟩:=ic (c:=i) Z;obtain⟨bg,rfl,C,L⟩:=ic (c:=j) ad;obtain⟨bi,rfl,D,M⟩:=ic (c:=k) ao;obtain⟨bj,rfl,E,N⟩:=ic (c:=l) av;obtain⟨bk,rfl,F,O⟩:=ic (c:=m) a0;obtain⟨bl,rfl,G,P⟩:=ic (c:=n) a1;exact⟨⟨bK,a9,bb,bd,bg,bi,bj,bk,bl,bo,x,b2,bw⟩,⟨⟨⟨⟨z,I⟩,⟨A,J⟩,⟨B,K⟩,⟨C,L⟩,⟨D,M⟩,⟨E,N⟩,⟨F,O⟩,⟨G,P⟩⟩,⟨b0,b1⟩,⟨a3,a4⟩,⟨bu,bv⟩⟩,⟨⟨bz,bF⟩,⟨V,W⟩⟩⟩,rfl⟩
end Go.Proofs.YtnlgndpcddngoaaGreatDoor
namespace Go.Proofs.YtnlgndpcddngoaaGreatDoor
open Go.Proofs.Tryz Go.RowKit Go.Maps
variable [dK] [iK]
theorem jb4 (d:Nat)(a:Ky)(w:World):(Op.equalIn (d+2) 63 (om a) (om a)).run prog w=.ok true w:=by
 have m:=underlying5;have i:=isAgg5;have n:=sizeOf5;obtain⟨b,c,e,f,g,j,k,l⟩:=a;rw [show d+2=(d+1)+1 from rfl,Op.equalIn];simp only [Sem.run_bind,run_underlying underlying63,Result.andThen_ok];simp only [Std.Legacy.Range.forIn_eq_forIn_range',Std.Legacy.Range.size,Nat.sub_zero,Nat.add_sub_cancel,Nat.div_one,List.range'_succ,List.range'_zero,List.forIn_cons,List.forIn_nil];go_simp
theorem jb8 (l:Ln)(w:World):(Op.equalIn 10000 151 (oC l) (oC l)).run prog w=.ok true w:=by
 have a:=jb4 9997 l.k w;go_simp
theorem jaV (k l s t:Nat)(T U:Value)(B:Bk)(w:World)(d:an w k s T B)(f:an w l t U B)(M:B.ls.length<=12) :
  Calls prog 42 #[pO k 0,.pointer (some ⟨l,0,none⟩)] w fun e w'=>e=.returned (.bool true)/\B7 w w':=by
 obtain⟨b,n⟩:∃ b,b=B.ls.length:=⟨_,rfl⟩;obtain⟨F,H,rfl⟩:=aw d.ho;obtain⟨G,I,rfl⟩:=aw f.ho;have bj:(b:Int)<=12:=by omega
 have A:=aa d;have C:=aa f;have r:=aa n;have z:Hid (∀ c,B7 w c->an c k s (.slice F B.ls.length H) B/\an c l t (.slice G B.ls.length I) B):=aa (fun c u=>⟨A.out.below u lz,C.out.below u lz⟩);have x:=ab d.hb;have y:=ab f.hb;rw [<-n] at x y;clear d f n M;go_enter func42,ntmps42
 go_upto_region 1 with fail
 go_wp2_with (go_quiet (fail))
 go_loopw [5] (fun p wr=>∃ a:Nat,a<=b/\p=.int .i64 a/\B7 w wr) (fun p _=>b - (intOf p).toNat)
 case atStart=>exact⟨0,Nat.zero_le _,rfl,below_drewN (Below.refl _ w) _⟩
 case round=>
  obtain⟨a,bg,rfl,m⟩:=hrel;obtain⟨j,rfl⟩:∃ j,j=wr:=⟨_,rfl⟩;obtain⟨g,i⟩:=z.out j m;have V:=ab g.hb 0;have W:=ab i.hb 0;rw [<-r.out] at V W;have q:=aa m;clear m x y;by_cases N:a<b
  ·have O:(a:Int)<(b:Int):=by omega
   have bi:(0:Int)<=(a:Int):=by omega
   have L:a<B.ls.length:=by rw [<-r.out];exact N
   obtain⟨o,v⟩:∃ o,B.ls[a]?=some o:=⟨_,List.getElem?_eq_getElem L⟩;obtain⟨a9,a7,J,_,_,D,_⟩:=g.open v;obtain⟨bb,a8,K,_,_,E,_⟩:=i.open v;injection J with P _ Q;injection K with R _ S;subst P Q R S;obtain⟨X,Y,av,a0,a1,a2,a3,a4,a5,a6,Z,ad,ao⟩:=D;obtain⟨bk,bl,bv,bw,bz,bF,bK,b0,b1,b2,bo,bs,bu⟩:=E;have bd:=jb8 o;clear g i;go_wp2_with (go_quiet (fail))
   go_roundw
   case rel=>exact⟨a+1,by omega,by go_num,below_drewN q.out _⟩
   case measure=>simp [intOf];omega
  ·have O:¬(a:Int)<(b:Int):=by omega
   clear g i;go_wp2
   go_ret
   exact⟨rfl,q.out⟩
end Go.Proofs.YtnlgndpcddngoaaGreatDoor
