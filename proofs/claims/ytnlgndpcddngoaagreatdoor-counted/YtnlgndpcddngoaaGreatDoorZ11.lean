import Derived.Test.YtnlgndpcddngoaaGreatDoorZ10
set_option linter.all false
set_option maxRecDepth 100000
set_option maxHeartbeats 4000000
namespace Go.Proofs.YtnlgndpcddngoaaGreatDoor
open Go.Proofs.Tryz Go.RowKit Go.Maps
variable [dK] [iK]
def LsT (least least':Value)(q:Rq)(a:Rp)(T:Int):Prop:=(a.c=1/\(q.op=1\/q.op=4\/q.op=5)->least'=.int .u64 T)/\(¬(a.c=1/\(q.op=1\/q.op=4\/q.op=5))->least'=least)
theorem ansA {e c:World}{i base:Nat}{j f:Value}{l:Bk}{a:Rp}(k:an c i base f l)(d:ae (fun b=>b=i\/j.ownBlock=some b) e.drew c)(m:∀ g,f.ownBlock=some g->j.ownBlock=some g\/e.drew.heap.size<=g) :
  ∃ R f,Value.pointer (some ⟨c.heap.size,0,none⟩)=.pointer (some ⟨R,0,none⟩)/\e.heap.size<=R/\(c.alloc (oI a.c a.a a.b)).heap[R]?=some (oI a.c a.a a.b)/\an (c.alloc (oI a.c a.a a.b)) i base f l/\ae (fun b=>b=i\/j.ownBlock=some b) e (c.alloc (oI a.c a.a a.b))/\(∀ g,f.ownBlock=some g->j.ownBlock=some g\/e.heap.size<=g):=
 ⟨c.heap.size,f,rfl,d.size,af _ _,⟨aB k.hb _,aq k.ho (fun o n=>ah _ _ (aj k.ho n).2)⟩,(show ae _ e c from ⟨d.os,d.tape,d.output,d.size,d.block⟩).alloc _,m⟩
theorem ansB {a i:World}{o:Obj}{d base:Nat}{j f:Value}{r:Bk}{c:Rp}(t:an i d base f r)(k:ae (fun b=>b=d\/j.ownBlock=some b) (a.alloc o).drew i)(s:∀ g,f.ownBlock=some g->j.ownBlock=some g\/(a.alloc o).drew.heap.size<=g)(u:¬(a.heap.size=d\/j.ownBlock=some a.heap.size))
  (v:i.heap[a.heap.size]?=some (og)) :
  ∃ R f,Value.pointer (some ⟨a.heap.size,0,none⟩)=.pointer (some ⟨R,0,none⟩)/\a.heap.size<=R/\(((i.setCell ⟨a.heap.size,0,none⟩ (.int .u8 c.c)).setCell ⟨a.heap.size,1,none⟩ (.int .u64 c.a)).setCell ⟨a.heap.size,2,none⟩ (.int .u64 c.b)).heap[R]?=some (oI c.c c.a c.b)/\an (((i.setCell ⟨a.heap.size,0,none⟩ (.int .u8 c.c)).setCell ⟨a.heap.size,1,none⟩ (.int .u64 c.a)).setCell ⟨a.heap.size,2,none⟩ (.int .u64 c.b)) d base f r/\ae (fun b=>b=d\/j.ownBlock=some b) a (((i.setCell ⟨a.heap.size,0,none⟩ (.int .u8 c.c)).setCell ⟨a.heap.size,1,none⟩ (.int .u64 c.a)).setCell ⟨a.heap.size,2,none⟩ (.int .u64 c.b))/\(∀ g,f.ownBlock=some g->j.ownBlock=some g\/a.heap.size<=g):=by
 have y:(a.alloc o).drew.heap.size=a.heap.size+1:=by show (a.alloc o).heap.size=_;simp
 have n:d≠a.heap.size:=fun l=>u (il l.symm);have p:∀ g,f.ownBlock=some g->g≠a.heap.size:=fun g e l=>(s g e).elim (fun m=>u (ir (l▸m))) (fun m=>by omega);have q:ae (fun b=>b=d\/j.ownBlock=some b) a i:=⟨k.os,k.tape,k.output,by have:=k.size;omega,fun x q w=>(k.block x (by omega) w).trans (ah a o q)⟩;refine⟨a.heap.size,f,rfl,lz,jbV v _ _ _,⟨?_,aq t.ho (fun g e=>?_)⟩,((q.set (ir lz) _ _).set (ir lz) _ _).set (ir lz) _ _,fun g e=>(s g e).imp id (fun m=>by omega)⟩
 ·exact (ac n _ _).trans ((ac n _ _).trans ((ac n _ _).trans t.hb))
 ·exact (ac (p g e) _ _).trans ((ac (p g e) _ _).trans (ac (p g e) _ _))
theorem p9 (i:Bool)(m c base:Nat)(j y z A C D E I J K L M N O P F G H U V least:Value)(r:Int)(B s:Bk)(q:Rq)(a:Rp)(w:World)(ao:w.heap[m]?=some (uY y c z A C i D E I J K L M N O P F G H U V least r))(f:an w c base j B)(b8:B.ok)(ct:q.ok)(cr:q.op∈[1,2,3,4,5,6])(ej:base<=w.heap.size)(cl:bB B q=(s,a))(eg:a.c≠7)(Z:a.c=1/\(q.op=1\/q.op=4\/q.op=5)->i=false)(d6:0<=r)(d7:r<=18446744073709551615)(o:Int)(cq:o=if a.c=2 then (r+q.n) % 18446744073709551616 else r) :
  Calls prog 57 #[pO m 0,oj q,ot a.c a.a a.b] w fun e w'=>e=.returned (.bool true)/\∃ k least',an w' c base k s/\w'.heap[m]?=some (uY y c z A C i D E I J K L M N O P F G H U V least' o)/\ae (fun b=>b=c\/b=m\/j.ownBlock=some b) w w'/\(∀ g,k.ownBlock=some g->j.ownBlock=some g\/w.heap.size<=g)/\LsT least least' q a s.time:=by
 have cb:∀ t,an t c base j B->base<=t.heap.size->Calls prog 61 #[pO c 0,oj q] t fun e w'=>∃ k,e=.returned (ot a.c a.a a.b)/\an w' c base k s/\ae (fun b=>b=c\/j.ownBlock=some b) t w'/\(∀ g,k.ownBlock=some g->j.ownBlock=some g\/t.heap.size<=g):=fun t d0 d1=>by
  have:=qb c base j B q t d0 b8 ct cr d1;unfold aQ at this;rw [cl] at this;exact this
 have bF:=aa cb;have em:=ct.n;have b0:=aa cq;have cv:m≠c:=fun e=>by have:=ao.symm.trans (e▸f.hb);simp at this
 have cs:∀ g,j.ownBlock=some g->g≠m:=fun g i=>ax f.ho i ao (by decide);have el:=am ao;have d3:=am f.hb;clear cb cl b8 cr cq;go_enter func57,ntmps57
 go_upto_region 3 with fail
 obtain⟨d,Q⟩:∃ d,d=(w.alloc (oh q)).alloc (oI a.c a.a a.b):=⟨_,rfl⟩;rw [<-Q];have X:B7 w d:=Q▸(ba w).alloc (by simp) _;have a4:d.heap[w.heap.size]?=some (oh q):=Q▸aB (af _ _) _;have bk:d.heap[w.heap.size+1]?=some (oI a.c a.a a.b):=Q▸aC (by simp);have a5:d.heap[m]?=some (uY y c z A C i D E I J K L M N O P F G H U V least r):=Q▸aB (aB ao _) _;have R:an d c base j B:=⟨(X.block c d3).trans f.hb,aq f.ho (fun g i=>X.block g (aj f.ho i).2)⟩;have en:=X.size;have ek:=am bk;have bi:∀ g,j.ownBlock=some g->g<w.heap.size:=fun g i=>(aj f.ho i).2;clear Q ao f;have df:=ab a4;have dk:=fun l=>ce a4 l;have dl:=ab a5;have dm:=fun l=>ce a5 l;have cF:Hid (an d.drew c base j B):=aa ⟨R.hb,R.ho⟩;have cG:Hid (∀ l,an (d.alloc l).drew c base j B):=aa (fun l=>⟨aB R.hb l,aq R.ho (fun g i=>ah d l (aj R.ho i).2)⟩);have cR:Hid (base<=d.heap.size):=aa (by omega);have cU:Hid (∀ l,base<=(d.alloc l).drew.heap.size):=aa (fun l=>by show base<=(d.alloc l).heap.size;simp;omega);have c6:Hid (∀ l,d.heap.size<(d.alloc l).drew.heap.size):=aa (fun l=>by show d.heap.size<(d.alloc l).heap.size;simp);have b1:Hid (¬(d.heap.size=c\/j.ownBlock=some d.heap.size)):=aa (fun e=>e.elim (fun e=>by omega) (fun e=>by have:=bi _ e;omega));have cV:=aa X;have c7:=aa a5;have c2:=aa a4;have c4:=aa bk;have b2:=aa bi;have b3:=aa cs;clear X a5 a4 bk bi cs R;go_cut [7] (fun d4 p=>∃ a2 k,d4=.pointer (some ⟨a2,0,none⟩)/\d.heap.size<=a2/\p.heap[a2]?=some (oI a.c a.a a.b)/\an p c base k s/\ae (fun b=>b=c\/j.ownBlock=some b) d p/\(∀ g,k.ownBlock=some g->j.ownBlock=some g\/d.heap.size<=g))
 case first=>
  go_region_with (first
    | (go_at_call 61;refine (bF.out d.drew cF.out cR.out).mono ?_;rintro e d5 ⟨k,rfl,Y,T,ad⟩;have bd:=aa Y;have a9:=aa T;have bb:=aa ad;clear Y T ad)
    | (go_at_call 61;refine (bF.out _ (cG.out _) (cU.out _)).mono ?_;rintro e d5 ⟨k,rfl,Y,T,ad⟩;have a7:=(T.block d.heap.size (c6.out _) b1.out).trans (af d _);have eb:=ab a7;have ef:=ag a7;have c8:=aa a7;clear a7;have bd:=aa Y;have a9:=aa T;have bb:=aa ad;clear Y T ad))
  all_goals (go_wp2_with fail;go_meet)
  all_goals first
   | exact ansA bd.out a9.out bb.out
   | exact ansB bd.out a9.out bb.out b1.out c8.out
 case rest=>
  obtain⟨a2,k,rfl,ei,bl,a3,S,cp⟩:=hcut;obtain⟨x,ci⟩:∃ x,x=wc:=⟨_,rfl⟩;rw [<-ci] at bl a3 S ⊢;clear ci;have a6:=(S.block m (by omega) (fun e=>e.elim cv (fun e=>b3.out _ e rfl))).trans c7.out;have bj:=(S.block w.heap.size (by omega) (fun e=>e.elim (fun e=>by omega) (fun e=>by have:=b2.out _ e;omega))).trans c2.out;have bo:=(S.block (w.heap.size+1) (by omega) (fun e=>e.elim (fun e=>by omega) (fun e=>by have:=b2.out _ e;omega))).trans c4.out;have cn:=a3.hb;have dn:=ab a6;have ds:=ag a6;have dt:=ab bj;have dv:=ab bo;have dN:=ab bl;have di:=ab cn;have av:=aa a3;have cX:=aa S;have bK:=aa cp;have b4:=aa a6;have c3:=aa bj;have c5:=aa bo;clear a3 S cp a6 bj bo bl cn df dk dl dm;have cc:ae (fun b=>b=c\/b=m\/j.ownBlock=some b) w x:=(ae.of_below cV.out).trans (cX.out.mono (fun eo f _=>f.elim il (fun f=>ir (ir f))));have ch:∀ g,k.ownBlock=some g->j.ownBlock=some g\/w.heap.size<=g:=fun g i=>(bK.out g i).imp id (fun f=>by omega);have b9:∀ cw cy,an (x.setCell ⟨m,cw,none⟩ cy) c base k s:=fun cw cy=>⟨(ac (fun e=>cv e.symm) _ _).trans av.out.hb,aq av.out.ho (fun g i=>ac ((bK.out g i).elim (b3.out g) (fun f=>by omega)) _ _)⟩;have a0:=aa cc;have a1:=aa ch;have a8:=aa b9;clear cc ch b9;by_cases b7:a.c=2
  ·have W:IntKind.u64.wrap (r+q.n)=o:=by rw [b0.out,if_pos b7,IntKind.wrap_u64]
   have cz:=aa W;clear W;have cx:¬a.c=1:=by omega
   clear Z;go_upto_region 7 with fail
   go_cut [] (fun p=>p.heap[m]?=some (uY y c z A C i D E I J K L M N O P F G H U V least o)/\an p c base k s/\ae (fun b=>b=c\/b=m\/j.ownBlock=some b) w p/\p.heap[w.heap.size]?=some (oh q)/\p.heap[w.heap.size+1]?=some (oI a.c a.a a.b))
   case first=>
    go_region
    all_goals (go_wp2_with fail;go_meet)
    all_goals (rw [cz.out];exact⟨(by have dR:=ai b4.out 22 (Value.int .u64 o);simpa using dR:(x.setCell ⟨m,22,none⟩ (.int .u64 o)).heap[m]?=some (uY y c z A C i D E I J K L M N O P F G H U V least o)),⟨(a8.out 22 _).hb,(a8.out 22 _).ho⟩,(a0.out.set (il (ir (il rfl))) _ _).drew,(ac (by omega) _ _).trans c3.out,(ac (by omega) _ _).trans c5.out⟩)
   case rest=>
    obtain⟨bs,bu,bv,bw,bz⟩:=hcut;obtain⟨b5,ck⟩:∃ b5,b5=wc:=⟨_,rfl⟩;rw [<-ck] at bs bu bv bw bz ⊢;clear ck dn ds dt dv dN di;have d8:=ab bz;have d9:=ab bw;have c9:=aa bs;have db:=aa bu;have dd:=aa bv;clear bs bu bv bw bz;go_wp2_with fail
    exact bodyPost_ret (v:=.bool true) (by simp [results,results57,go_sem]) rfl ⟨rfl,k,least,db.out,c9.out,dd.out,a1.out,fun f=>absurd f.1 cx,fun _=>rfl⟩
  ·have W:r=o:=by rw [b0.out,if_neg b7]
   have bg:Hid (x.heap[m]?=some (uY y c z A C i D E I J K L M N O P F G H U V least o)):=aa (by rw [<-W];exact b4.out);clear W;by_cases n:a.c=1/\(q.op=1\/q.op=4\/q.op=5)
   ·obtain⟨u,n⟩:=n;have c1:=aa n;have d2:=Z ⟨u,n⟩;subst d2;clear Z;rcases n with b6 | b6 | b6
    all_goals (go_wp2_with fail)
    all_goals exact bodyPost_ret (v:=.bool true) (by simp [results,results57,go_sem]) rfl ⟨rfl,k,_,a8.out 21 _,by simpa using ai bg.out 21 _,a0.out.set (il (ir (il rfl))) _ _,a1.out,fun _=>rfl,fun f=>absurd ⟨u,c1.out⟩ f⟩
   ·by_cases u:a.c=1
    ·have cx:(q.op==1)=false:=by rw [beq_eq_false_iff_ne];exact fun e=>n ⟨u,il e⟩
     have eq:(q.op==4)=false:=by rw [beq_eq_false_iff_ne];exact fun e=>n ⟨u,ir (il e)⟩
     have er:(q.op==5)=false:=by rw [beq_eq_false_iff_ne];exact fun e=>n ⟨u,ir (ir e)⟩
     have c0:=aa n;clear n Z;go_wp2_with fail
     exact bodyPost_ret (v:=.bool true) (by simp [results,results57,go_sem]) rfl ⟨rfl,k,least,av.out,bg.out,a0.out,a1.out,fun f=>absurd f c0.out,fun _=>rfl⟩
    ·clear n Z;go_wp2_with fail
     exact bodyPost_ret (v:=.bool true) (by simp [results,results57,go_sem]) rfl ⟨rfl,k,least,av.out,bg.out,a0.out,a1.out,fun f=>absurd f.1 u,fun _=>rfl⟩
def doDL (D:Dx):Ld->List Rq->Dx
 | _,[]=>D
 | L,q :: t=>doDL (gm D L q) (aS L q).1 t
theorem jcQ:∀ (n:Nat) (D:Dx) (L:Ld) (bs:List Int),bs.length<=n->ib D L bs=doDL D L (dD bs).1:=by
 intro n;induction n with
 | zero=>
  intro D L bs c;have b:bs=[]:=List.length_eq_zero_iff.1 (by omega);subst b;rw [cA [] (by simp [aF]),iD D L [] (by simp [aF])];rfl
 | succ n d=>
  intro D L bs c;by_cases a:aF bs=0
  ·obtain⟨e,f,_,_⟩:=dG bs a;rw [dV bs a,lQ D L bs a,d _ _ _ (by rw [List.length_drop];omega)];rfl
  ·rw [cA bs a,iD D L bs a];rfl
theorem jbO (D:Dx)(L:Ld)(c:Cn)(a:Int)(bs:List Int)(b:c.bad=false):jK D L c a bs=doDL D (aW L a) (dD (c.waits ++ bs)).1:=by
 unfold jK;rw [if_neg (by simp [b])];exact jcQ _ _ _ _ lz
theorem jak (D:Dx)(L:Ld)(c:Cn)(b:Int)(bs:List Int)(a:c.bad=true):jK D L c b bs=D:=by
 unfold jK;rw [if_pos a]
theorem jbG (q:Rq)(a:Rp)(b:q.op∈[1,2,3,4,5,6]):eh q a=true↔a.c=1/\(q.op=1\/q.op=4\/q.op=5):=by
 unfold eh oneB;simp at b;simp;omega
theorem jbA {D:Dx}{L:Ld}{q:Rq}(i:q.op∈[1,2,3,4,5,6]){least least':Int}(c:LsT (.int .u64 least) (.int .u64 least') q (aS L q).2 L.time)(f:least<=D.t):least'<=(gm D L q).t:=by
 have e:=jbG q (aS L q).2 i;by_cases b:(aS L q).2.c=1/\(q.op=1\/q.op=4\/q.op=5)
 ·have a:=c.1 b;injection a with _ a;unfold gm lD;rw [if_neg (by omega),e.2 b,a];exact Int.le_refl _
 ·have a:=c.2 b;injection a with _ a;unfold gm lD;by_cases d:q.op=3\/q.op=6
  ·rw [if_pos d,a];exact f
  ·rw [if_neg d];have:eh q (aS L q).2=false:=by
    cases g:eh q (aS L q).2
    ·rfl
    ·exact absurd (e.1 g) b
   rw [this,a];exact f
theorem jfk {D:Dx}{L:Ld}{q:Rq}(a:D.t<=L.time):D.t<=(gm D L q).t/\(gm D L q).t<=L.time:=by
 unfold gm;split
 ·exact⟨Int.le_refl _,a⟩
 ·rename_i b _
  cases b
  ·exact⟨Int.le_refl _,a⟩
  ·exact⟨a,Int.le_refl _⟩
theorem jaA (L:Ld)(a:Int):L.time<=(aW L a).time:=by
 unfold aW;dsimp only;split <;> omega
theorem si (a:Array Value)(w:World):Sem.run prog (callFunc 24 a) w=.ok (.enter 24 a) w:=by simp [go_sem]
theorem sn (a:Array Value)(w:World):Sem.run prog (callFunc 55 a) w=.ok (.enter 55 a) w:=by simp [go_sem]
theorem sq (a:Array Value)(w:World):Sem.run prog (callFunc 57 a) w=.ok (.enter 57 a) w:=by simp [go_sem]
theorem jd5 (k:Int)(i:Nat)(w:World)(b:-9223372036854775808<=k)(c:k<=9223372036854775807)(a:bp k 3=(i:Int)) :
  Calls prog 24 #[.int .i64 k,.int .i64 3] w fun e w'=>e=.returned (.int .i64 i)/\w'=w:=by
 rw [<-a];exact pH k 3 w (by omega) (by omega) b c
theorem qy (L:Ld)(q:Rq)(d:L.ok)(e:q.ok):(aS L q).2.told:=by
 have a:=(pm L q d e).2;have c:1<=(aS L q).2.c/\(aS L q).2.c<=9:=by
  unfold aS;by_cases b:q.op=2
  ·rw [if_neg (by omega),if_pos b];cases aZ q.key L.ks with
   | none=>simp
   | some f=>
    have:=mP f L.time q.n;simp only [];omega
  ·rw [if_neg b];repeat' split
   all_goals simp
 exact⟨c.1,c.2,a.a,a.b⟩
theorem lP (a:Nat)(d:a<13):∀ (l:List Rq) (i:Nat) (c:i<l.length),(fg l)[i * 13+a]?=(tQ l[i])[a]?
 | q :: t,0,_=>by
  show (tQ q ++ fg t)[0 * 13+a]?=_;rw [Nat.zero_mul,Nat.zero_add,List.getElem?_append_left (by simpa using d)];rfl
 | q :: t,i+1,c=>by
  have b:(tQ q).length=13:=rfl;show (tQ q ++ fg t)[(i+1) * 13+a]?=_;rw [List.getElem?_append_right (by rw [b];omega),b,show (i+1) * 13+a - 13=i * 13+a by omega,lP a d t i (by simpa using c)];rfl
theorem Sl.keptN {w w':World}{v:Value}{bs:List Int}(a:Sl w v bs)(e:w.heap.size<=w'.heap.size)(d:bs≠[]->∀ g o n c,v=.slice (some ⟨g,o,none⟩) n c->g<w.heap.size->w'.heap[g]?=w.heap[g]?):Sl w' v bs:=by
 rcases a with a | a
 ·exact il a
 ·exact Sl.kept (ir a) e (d (fun b=>by have:=a.1;rw [b] at this;simp at this))
theorem Sl.lt {w:World}{v:Value}{bs:List Int}(b:Sl w v bs)(e:bs≠[]){g o n c:Nat}(f:v=.slice (some ⟨g,o,none⟩) n c):g<w.heap.size:=by
 rcases b with ⟨b,_⟩ | ⟨_,j,k,i,a,_,d,_⟩
 ·exact absurd b e
 ·rw [f] at a;injection a with a _ _;injection a with a;injection a with a _;rw [a];exact d
theorem jf8 {wr wc:World}{g o b c:Nat}{d a:List Int}(m:b=a.length)(n:b+18<=c)(j:g<wc.heap.size)(l:wc.heap[g]?=wr.heap[g]?)(i:∀ x,x<b+18->wr.cell? ⟨g,o+x,none⟩=some (.int .u8 ((d ++ a).getD x 0)))(k:d.length=18):Sl wc (.slice (if c=18 then some ⟨g,o,none⟩ else some ⟨g,o+18,none⟩) b (c - 18)) a:=by
 by_cases f:b=0
 ·left
  refine⟨List.length_eq_zero_iff.1 (by omega),ir ?_⟩
  rw [f];split
  ·exact⟨_,_,_,rfl⟩
  ·exact⟨_,_,_,rfl⟩
 ·right
  rw [if_neg (by omega)];refine⟨by omega,g,o+18,c - 18,by rw [m],by omega,j,fun e p=>?_⟩
  rw [World.cell?_of_block (w:=wr) l,Nat.add_assoc,i (18+e) (by omega),show (d ++ a).getD (18+e) 0=a.getD e 0 from by simp only [List.getD_eq_getElem?_getD];rw [List.getElem?_append_right (by omega),k,Nat.add_sub_cancel_left]]
theorem jeh (bs:List Int)(a:aF bs=1):bs.length<=26:=by
 cases bs with
 | nil=>simp
 | cons d b=>
  cases b with
  | nil=>simp
  | cons c b=>
   simp only [aF] at a;split at a
   ·omega
   ·split at a
    ·rename_i e f
     split at a
     ·rename_i g
      have:aM c<=26:=by (unfold aM;(repeat' split);all_goals omega)
      omega
     ·omega
    ·omega
theorem jcK:∀ (n:Nat) (bs:List Int),bs.length<=n->Bytes bs->2 * (dD bs).1.length<=bs.length/\((dD bs).2.2≠2->(dD bs).2.1.length<=26)/\Bytes (dD bs).2.1:=by
 intro n;induction n with
 | zero=>
  intro bs d _;have a:bs=[]:=List.length_eq_zero_iff.1 (by omega);subst a;rw [cA [] (by simp [aF])];exact⟨by simp,fun _=>by simp,fun o f=>by cases f⟩
 | succ n k=>
  intro bs d c;by_cases b:aF bs=0
  ·obtain⟨l,m,_,_⟩:=dG bs b;rw [dV bs b];obtain⟨g,i,j⟩:=k (bs.drop (dT bs).toNat) (by rw [List.length_drop];omega) (c.drop _);refine⟨?_,i,j⟩
   rw [List.length_drop] at g;simp only [List.length_cons];omega
  ·rw [cA bs b];refine⟨by simp,fun e=>?_,c⟩
   rcases gE bs with a | a | a
   ·exact absurd a b
   ·exact jeh bs a
   ·exact absurd a e
def LG (m d f:Nat)(l:Nat->Nat)(k:Nat->Value)(g:Value)(c:Nat->Cn)(b:Nat):Prop:=b=m\/b=d\/b=f\/g.ownBlock=some b\/(∃ a,a<3/\b=l a)\/∃ a,a<3/\(c a).waits≠[]/\∃ j i e,k a=.slice (some ⟨b,j,none⟩) i e
def LW (f c:Nat)(e:Nat->Nat)(d:Value)(b:Nat):Prop:=b=c\/b=f\/d.ownBlock=some b\/∃ a,a<3/\b=e a
theorem LW.lg {g d i:Nat}{f:Nat->Nat}{j:Nat->Value}{e:Value}{c:Nat->Cn}{b:Nat}(a:LW g d f e b):LG g d i f j e c b:=by
 rcases a with a | a | a | a
 ·exact ir (il a)
 ·exact il a
 ·exact ir (ir (ir (il a)))
 ·exact ir (ir (ir (ir (il a))))
theorem jbM (a b:List Rp):bG (a ++ b)=bG a ++ bG b:=by unfold bG;rw [List.flatMap_append]
end Go.Proofs.YtnlgndpcddngoaaGreatDoor
