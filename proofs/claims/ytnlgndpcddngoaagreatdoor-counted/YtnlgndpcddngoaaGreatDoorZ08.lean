import Derived.Test.YtnlgndpcddngoaaGreatDoorZ07
import Derived.Test.YtnlgndpcddngoaaGreatDoorZ12
import Derived.Test.YtnlgndpcddngoaaGreatDoorZ46
import Derived.Deep.RegionHeld3
set_option linter.all false
set_option maxRecDepth 100000
set_option maxHeartbeats 4000000
namespace Go.Proofs.YtnlgndpcddngoaaGreatDoor
open Go.Proofs.Tryz Go.RowKit Go.Maps
variable [dK] [iK]
theorem jca (a b:Int):∀ (d:List Ln) (i:Nat) (l:Ln),d[i]?=some l->bW (d.set i ⟨l.k,l.kd,l.x,l.y,a,b⟩)=((bW d).set (i * 13+11) (.int .u64 a)).set (i * 13+12) (.int .u64 b):=by
 intro d;induction d with
 | nil=>intro i l c;simp at c
 | cons k m j=>
  intro i l c;cases i with
  | zero=>
   simp at c;subst c;simp [bW,jj]
  | succ i=>
   have g:m[i]?=some l:=by simpa using c
   have f:=j i l g;simp only [List.set_cons_succ];unfold bW at f ⊢;rw [List.flatMap_cons,List.flatMap_cons,f];have e:(jj k).length=13:=rfl;rw [List.set_append_right _ _ (by rw [e];omega),List.set_append_right _ _ (by rw [e];omega),e];congr 2
   ·congr 1 <;> omega
   ·omega
theorem an.store {w:World}{d base g e:Nat}{B:Bk}{i:Nat}{l:Ln}(c:an w d base (.slice (some ⟨g,0,none⟩) B.ls.length e) B)(n:B.ls[i]?=some l)(a b:Int) :
  an ((w.setCell ⟨g,i * 13+11,none⟩ (.int .u64 a)).setCell ⟨g,i * 13+12,none⟩ (.int .u64 b)) d base (.slice (some ⟨g,0,none⟩) B.ls.length e) ⟨B.time,B.ls.set i ⟨l.k,l.kd,l.x,l.y,a,b⟩⟩:=by
 have f:d≠g:=fun j=>ax c.ho (g:=g) rfl c.hb (by decide) j.symm;refine⟨by rw [ac f,ac f];exact c.hb,?_⟩
 have k:=(c.ho.stored (i * 13+11) (.int .u64 a)).1;have m:=(k.stored (i * 13+12) (.int .u64 b)).1;rw [jca a b B.ls i l n,List.length_set];exact m
theorem an.box {u:World}{a base:Nat}{d:Value}{B:Bk}(k:an u a base d B){R:Nat}(l:a≠R)(m:∀ g,d.ownBlock=some g->g≠R)(f i j:Value):an (((u.setCell ⟨R,0,none⟩ f).setCell ⟨R,1,none⟩ i).setCell ⟨R,2,none⟩ j) a base d B:=
 k.kept (fun e b=>by
   have c:e≠R:=by
     rcases b with rfl | b
     · exact l
     · exact m e b
   rw [ac c,ac c,ac c])
theorem jdc (k base:Nat)(M:Value)(B:Bk)(i:Nat)(l:Ln)(n:Int)(w:World)(H:an w k base M B)(a6:B.ls[i]?=some l)(b4:B.ls.length<=12)(Z:l.ok)(b5:U7 n)(a3:U7 B.time)
  (b9:Hid (∀ (k:Nat) (M:Value) (T:Int) (l:Ln) (n:Int) (w:World),w.heap[k]?=some (ur M T)->l.ok->1<=l.x->(U7 n)->(U7 T)->
    Calls prog 122 #[pO k 0,.agg #[.int .u8 l.k.k0,.int .u8 l.k.k1,.int .u8 l.k.k2,.int .u8 l.k.k3,.int .u8 l.k.k4,.int .u8 l.k.k5,.int .u8 l.k.k6,.int .u8 l.k.k7,.int .u8 l.kd,.int .u64 l.x,.int .u64 l.y,.int .u64 l.at_,.int .u64 l.in_],.int .u64 n] w fun e w'=>e=.returned (.tuple #[.int .u64 (cN T l n).1,.bool (cN T l n).2.1,.int .u64 (cN T l n).2.2])/\B7 w w')) :
  Calls prog 91 #[pO k 0,.int .i64 i,.int .u64 n] w fun e w'=>e=.returned (ot (bV B i l n).2.c (bV B i l n).2.a (bV B i l n).2.b)/\an w' k base M (bV B i l n).1/\ae (fun b=>M.ownBlock=some b) w w':=by
 obtain⟨V,Y⟩:∃ V,V=w.alloc (og):=⟨_,rfl⟩;have b3:V.heap[w.heap.size]?=some (og):=Y▸af _ _;have a1:B7 w V:=Y▸ba w;have X:=H.below a1 lz;obtain⟨a,W,rfl,_,ci,b8,cl⟩:=X.open a6;obtain⟨bj,bk,bu,bv,bw,bz,bF,bK,av,b0,bl,bo,bs⟩:=b8;have ao:=ab X.hb 0;have a9:(i:Int)<(B.ls.length:Int):=by omega
 have a8:(B.ls.length:Int)<=12:=by omega
 have cq:(0:Int)<=(i:Int):=by omega
 obtain⟨b7,bb⟩:∃ b7,b7=B.ls.length:=⟨_,rfl⟩;rw [<-bb] at a9 a8 ao;have G:=aa X;have R:=aa a1;have U:=aa b3;have bg:=aa H;have t:=aa a6;have bi:=aa b4;clear X a1 b3 H a6 b4 cl ci;by_cases u:l.kd=1
 ·have ck:1<=l.x:=by rcases Z.kd with H | H <;> omega
  rw [u] at av;have a7:=u;clear u;subst Y;go_enter func91,ntmps91
  go_wp2_with fail
  have a0:=b9.out k _ B.time l n _ G.out.hb Z ck b5 a3;rw [a7] at a0;refine a0.mono ?_
  rintro e F ⟨rfl,p⟩;have A:cm B.time l n=cN B.time l n:=by unfold cm;rw [if_pos a7]
  have J:dO B.time l=0:=by unfold dO;rw [if_pos a7]
  obtain⟨j,C,s,d⟩:∃ j C s,cm B.time l n=(j,C,s):=⟨_,_,_,rfl⟩;rw [A] at d;rw [d];rw [<-A] at d;clear A a0;have I:=R.out.trans (p.mono R.out.size);have c:=G.out.below p lz;have r:=(p.block _ (am U.out)).trans U.out;have D:=ab r;have cn:=ag r;have q:k≠w.heap.size:=Nat.ne_of_lt (am bg.out.hb);have cb:w.heap.size≠k:=fun e=>q e.symm;have a4:a≠w.heap.size:=ax c.ho (g:=a) rfl r (by decide);have cc:w.heap.size≠a:=fun e=>a4 e.symm;have a5:a≠k:=ax c.ho (g:=a) rfl c.hb (by decide);have ch:k≠a:=fun e=>a5 e.symm;have cp:=ab c.hb 0;have N:=(c.line t.out).c11;have O:=(c.line t.out).c12;have P:F.frozen? ⟨a,i * 13+11,none⟩=false:=c.ho.frozenAt _;have Q:F.frozen? ⟨a,i * 13+12,none⟩=false:=c.ho.frozenAt _;have L:∀ E,(Value.slice (some ⟨a,0,none⟩) B.ls.length W).ownBlock=some E->E≠w.heap.size:=fun E bd=>by
   simp [Value.ownBlock] at bd;omega
  have z:=aa L;clear L;have x:=aa c;have y:=aa I;rw [bb] at a9 a8;clear p c I r bj bk bu bv bw bz bF bK av b0 bl bo bs ao;cases C with
  | false=>
   have m:bV B i l n=(B,⟨3,s,0⟩):=by unfold bV;rw [d];rfl
   have f:=aa m;clear m d N O P Q;go_wp2_with fail
   refine bodyPost_ret (v:=(ON s)) (by simp [results,results91,go_sem,D]) rfl ⟨by rw [f.out],?_,?_⟩
   ·rw [f.out];exact x.out.box q z.out _ _ _
   ·exact (((ae.of_below y.out).set (ir lz) _ _).set (ir lz) _ _).set (ir lz) _ _
  | true=>
   by_cases K:0<n
   ·have m:bV B i l n=(⟨B.time,B.ls.set i ⟨l.k,l.kd,l.x,l.y,j,0⟩⟩,⟨2,j,0⟩):=by unfold bV;rw [d,J,if_pos rfl,if_pos K]
    have f:=aa m;clear m d;go_wp2_with fail
    refine bodyPost_ret (v:=.agg #[.int .u8 2,.int .u64 j,.int .u64 0]) (by simp [results,results91,go_sem,D]) rfl ⟨by rw [f.out],?_,?_⟩
    ·rw [f.out];exact (x.out.store t.out j 0).box q z.out _ _ _
    ·exact (((((ae.of_below (S:=fun b=>(Value.slice (some ⟨a,0,none⟩) B.ls.length W).ownBlock=some b) y.out).set (b:=a) (il rfl) _ _).set (b:=a) (il rfl) _ _).set (ir lz) _ _).set (ir lz) _ _).set (ir lz) _ _
   ·have m:bV B i l n=(B,⟨2,j,0⟩):=by unfold bV;rw [d,J,if_pos rfl,if_neg K]
    have f:=aa m;clear m d N O P Q;go_wp2_with fail
    refine bodyPost_ret (v:=.agg #[.int .u8 2,.int .u64 j,.int .u64 0]) (by simp [results,results91,go_sem,D]) rfl ⟨by rw [f.out],?_,?_⟩
    ·rw [f.out];exact x.out.box q z.out _ _ _
    ·exact (((ae.of_below y.out).set (ir lz) _ _).set (ir lz) _ _).set (ir lz) _ _
 ·have cr:(l.kd==1)=false:=by simpa using u
  subst Y;go_enter func91,ntmps91
  go_wp2_with fail
  refine (lT k base _ B i l _ G.out t.out bi.out Z a3).mono ?_
  rintro e cs ⟨rfl,b1⟩;have b6:(aP B.time l).2=B.time / l.y:=by unfold aP;rw [if_neg u];split <;> rfl
  have A:cm B.time l n=cW B.time l n:=by unfold cm;rw [if_neg u]
  obtain⟨o,a2⟩:∃ o,o=B.time / l.y:=⟨_,rfl⟩;have J:dO B.time l=o:=by unfold dO;rw [if_neg u,a2]
  rw [b6,<-a2];have ad:=aa b1;clear b6 a2 b1;go_wp2_with fail
  refine (rM k base _ B i l n _ (G.out.below ad.out lz) t.out bi.out Z u b5 a3).mono ?_
  rintro e F ⟨rfl,b2⟩;have p:Below (w.alloc (og)).heap.size (w.alloc (og)) F:=ad.out.trans (b2.mono ad.out.size);obtain⟨j,C,s,d⟩:∃ j C s,cm B.time l n=(j,C,s):=⟨_,_,_,rfl⟩;rw [A] at d;rw [d];rw [<-A] at d;clear A b2;have I:=R.out.trans (p.mono R.out.size);have c:=G.out.below p lz;have r:=(p.block _ (am U.out)).trans U.out;have D:=ab r;have cn:=ag r;have q:k≠w.heap.size:=Nat.ne_of_lt (am bg.out.hb);have cb:w.heap.size≠k:=fun e=>q e.symm;have a4:a≠w.heap.size:=ax c.ho (g:=a) rfl r (by decide);have cc:w.heap.size≠a:=fun e=>a4 e.symm;have a5:a≠k:=ax c.ho (g:=a) rfl c.hb (by decide);have ch:k≠a:=fun e=>a5 e.symm;have cp:=ab c.hb 0;have N:=(c.line t.out).c11;have O:=(c.line t.out).c12;have P:F.frozen? ⟨a,i * 13+11,none⟩=false:=c.ho.frozenAt _;have Q:F.frozen? ⟨a,i * 13+12,none⟩=false:=c.ho.frozenAt _;have L:∀ E,(Value.slice (some ⟨a,0,none⟩) B.ls.length W).ownBlock=some E->E≠w.heap.size:=fun E bd=>by
   simp [Value.ownBlock] at bd;omega
  have z:=aa L;clear L;have x:=aa c;have y:=aa I;rw [bb] at a9 a8;clear p c I r bj bk bu bv bw bz bF bK av b0 bl bo bs ao;cases C with
  | false=>
   have m:bV B i l n=(B,⟨3,s,0⟩):=by unfold bV;rw [d];rfl
   have f:=aa m;clear m d N O P Q;go_wp2_with fail
   refine bodyPost_ret (v:=(ON s)) (by simp [results,results91,go_sem,D]) rfl ⟨by rw [f.out],?_,?_⟩
   ·rw [f.out];exact x.out.box q z.out _ _ _
   ·exact (((ae.of_below y.out).set (ir lz) _ _).set (ir lz) _ _).set (ir lz) _ _
  | true=>
   by_cases K:0<n
   ·have m:bV B i l n=(⟨B.time,B.ls.set i ⟨l.k,l.kd,l.x,l.y,j,o⟩⟩,⟨2,j,o⟩):=by unfold bV;rw [d,J,if_pos rfl,if_pos K]
    have f:=aa m;clear m d;go_wp2_with fail
    refine bodyPost_ret (v:=(Oi j o)) (by simp [results,results91,go_sem,D]) rfl ⟨by rw [f.out],?_,?_⟩
    ·rw [f.out];exact (x.out.store t.out j o).box q z.out _ _ _
    ·exact (((((ae.of_below (S:=fun b=>(Value.slice (some ⟨a,0,none⟩) B.ls.length W).ownBlock=some b) y.out).set (b:=a) (il rfl) _ _).set (b:=a) (il rfl) _ _).set (ir lz) _ _).set (ir lz) _ _).set (ir lz) _ _
   ·have m:bV B i l n=(B,⟨2,j,o⟩):=by unfold bV;rw [d,J,if_pos rfl,if_neg K]
    have f:=aa m;clear m d N O P Q;go_wp2_with fail
    refine bodyPost_ret (v:=(Oi j o)) (by simp [results,results91,go_sem,D]) rfl ⟨by rw [f.out],?_,?_⟩
    ·rw [f.out];exact x.out.box q z.out _ _ _
    ·exact (((ae.of_below y.out).set (ir lz) _ _).set (ir lz) _ _).set (ir lz) _ _
theorem dY {w:World}{b:Nat}{a:Es}(c:aH w b a){k:Ky}(e:k.ok)(d:ar k a=none) :
  (Instr.lookup 121 (.map (some b)) (om k) true).run prog w=.ok (.tuple #[uD,.bool false]) w:=by
 have:=ap.look mF c e jF (jc8 w);rw [d] at this;exact this
theorem cZ {w:World}{b:Nat}{a:Es}(e:aH w b a){k:Ky}(g:k.ok){c d:Qt}(f:ar k a=some (c,d)) :
  (Instr.lookup 121 (.map (some b)) (om k) true).run prog w=.ok (.tuple #[oL c d,.bool true]) w:=by
 have:=ap.look mF e g jF (jc8 w);rw [f] at this;exact this
theorem qi (n d:Nat)(s t u adm:Value)(x blk:Int)(f:Es)(k:Ky)(w:World)(m:w.heap[n]?=some (oF s t x blk d u adm))(l:aH w d f)(p:k.ok)(o:ar k f=none) :
  Calls prog 112 #[pO n 2,om k] w fun e w'=>e=.returned (OP)/\B7 w w':=by
 go_enter func112,ntmps112
 go_upto_region 1 with fail
 obtain⟨a,b⟩:∃ a,a=(w.alloc (ol k)).alloc (og):=⟨_,rfl⟩;rw [<-b];have g:B7 w a:=b▸(ba w).alloc (by simp) _;have i:a.heap[w.heap.size]?=some (ol k):=b▸aB (af _ _) _;have q:a.heap[w.heap.size+1]?=some (og):=b▸aC (by simp);have j:a.heap[n]?=some (oF s t x blk d u adm):=b▸aB (aB m _) _;have c:aH a d f:=ap.kept l (g.block d (ap.lt l));have O:=am m;clear b m l;have y:=ab i;have z:=ce i (od);have A:=ab j;have B:=ce j (od);have C:=dY (w:=a.drew) (ap.kept c rfl) p o;have D:=dY (w:=(a.alloc (od)).drew) (ap.kept c (ah _ _ (ap.lt c))) p o;go_cut [5,6] (fun G H I=>G=.pointer (some ⟨a.heap.size,0,none⟩)/\H=.bool false/\I=(a.alloc (od)).drew)
 case first=>
  go_region
  all_goals (go_wp2_with fail;go_meet)
  all_goals exact⟨rfl,rfl,rfl⟩
 case rest=>
  obtain⟨rfl,rfl,rfl⟩:=hcut;have P:(a.alloc (od)).heap[a.heap.size]?=some (od):=af _ _;have L:=aB i (od);have r:=aB q (od);have N:=aB j (od);have M:aH (a.alloc (od)) d f:=ap.kept c (ah _ _ (ap.lt c));have F:=g.alloc g.size (od);have K:=g.size;clear y z A B C D i q j c;have E:=ab r;have J:=ag r;go_wp2
  refine bodyPost_ret (v:=OP) (by simp [results,results112,go_sem,E]) rfl ⟨rfl,Below.drew ?_⟩
  repeat (refine Below.setCell ?_ (by simp <;> omega) _)
  exact F
theorem pg (n d:Nat)(s t u adm:Value)(x blk:Int)(f:Es)(k:Ky)(w:World)(m:w.heap[n]?=some (oF s t x blk d u adm))(l:aH w d f)(p:k.ok)(o:ar k f=none) :
  Calls prog 113 #[pO n 2,om k] w fun e w'=>e=.returned (OP)/\B7 w w':=by
 go_enter func113,ntmps113
 go_upto_region 1 with fail
 obtain⟨a,b⟩:∃ a,a=(w.alloc (ol k)).alloc (og):=⟨_,rfl⟩;rw [<-b];have g:B7 w a:=b▸(ba w).alloc (by simp) _;have i:a.heap[w.heap.size]?=some (ol k):=b▸aB (af _ _) _;have q:a.heap[w.heap.size+1]?=some (og):=b▸aC (by simp);have j:a.heap[n]?=some (oF s t x blk d u adm):=b▸aB (aB m _) _;have c:aH a d f:=ap.kept l (g.block d (ap.lt l));have O:=am m;clear b m l;have y:=ab i;have z:=ce i (od);have A:=ab j;have B:=ce j (od);have C:=dY (w:=a.drew) (ap.kept c rfl) p o;have D:=dY (w:=(a.alloc (od)).drew) (ap.kept c (ah _ _ (ap.lt c))) p o;go_cut [5,6] (fun G H I=>G=.pointer (some ⟨a.heap.size,0,none⟩)/\H=.bool false/\I=(a.alloc (od)).drew)
 case first=>
  go_region
  all_goals (go_wp2_with fail;go_meet)
  all_goals exact⟨rfl,rfl,rfl⟩
 case rest=>
  obtain⟨rfl,rfl,rfl⟩:=hcut;have P:(a.alloc (od)).heap[a.heap.size]?=some (od):=af _ _;have L:=aB i (od);have r:=aB q (od);have N:=aB j (od);have M:aH (a.alloc (od)) d f:=ap.kept c (ah _ _ (ap.lt c));have F:=g.alloc g.size (od);have K:=g.size;clear y z A B C D i q j c;have E:=ab r;have J:=ag r;go_wp2
  refine bodyPost_ret (v:=OP) (by simp [results,results113,go_sem,E]) rfl ⟨rfl,Below.drew ?_⟩
  repeat (refine Below.setCell ?_ (by simp <;> omega) _)
  exact F
theorem qe (o d:Nat)(t u x adm:Value)(y blk:Int)(f:Es)(k:Ky)(w:World)(m:w.heap[o]?=some (oF t u y blk d x adm))(l:aH w d f)(q:k.ok)(p:ar k f=none)(n:Int) :
  Calls prog 111 #[pO o 2,om k,.int .u64 n] w fun e w'=>e=.returned (OP)/\B7 w w':=by
 go_enter func111,ntmps111
 go_upto_region 1 with fail
 obtain⟨a,b⟩:∃ a,a=(w.alloc (ol k)).alloc (og):=⟨_,rfl⟩;rw [<-b];have g:B7 w a:=b▸(ba w).alloc (by simp) _;have i:a.heap[w.heap.size]?=some (ol k):=b▸aB (af _ _) _;have r:a.heap[w.heap.size+1]?=some (og):=b▸aC (by simp);have j:a.heap[o]?=some (oF t u y blk d x adm):=b▸aB (aB m _) _;have c:aH a d f:=ap.kept l (g.block d (ap.lt l));have P:=am m;clear b m l;have z:=ab i;have A:=ce i (od);have B:=ab j;have C:=ce j (od);have D:=dY (w:=a.drew) (ap.kept c rfl) q p;have E:=dY (w:=(a.alloc (od)).drew) (ap.kept c (ah _ _ (ap.lt c))) q p;go_cut [7,8] (fun H I J=>H=.pointer (some ⟨a.heap.size,0,none⟩)/\I=.bool false/\J=(a.alloc (od)).drew)
 case first=>
  go_region
  all_goals (go_wp2_with fail;go_meet)
  all_goals exact⟨rfl,rfl,rfl⟩
 case rest=>
  obtain⟨rfl,rfl,rfl⟩:=hcut;have Q:(a.alloc (od)).heap[a.heap.size]?=some (od):=af _ _;have M:=aB i (od);have s:=aB r (od);have O:=aB j (od);have N:aH (a.alloc (od)) d f:=ap.kept c (ah _ _ (ap.lt c));have G:=g.alloc g.size (od);have L:=g.size;clear z A B C D E i r j c;have F:=ab s;have K:=ag s;go_wp2
  refine bodyPost_ret (v:=OP) (by simp [results,results111,go_sem,F]) rfl ⟨rfl,Below.drew ?_⟩
  repeat (refine Below.setCell ?_ (by simp <;> omega) _)
  exact G
theorem qj (y l:Nat)(H I J adm:Value)(z blk:Int)(n:Es)(k:Ky)(w:World)(x:w.heap[y]?=some (oF H I z blk l J adm))(t:aH w l n)(E:k.ok)(f g:Qt)(D:ar k n=some (f,g))(c a b:Int)
  (P:Hid (∀ A,Calls prog 140 #[oD f,.int .u64 z] A fun e w'=>e=.returned (ot c a b)/\B7 A w')) :
  Calls prog 112 #[pO y 2,om k] w fun e w'=>e=.returned (ot c a b)/\B7 w w':=by
 go_enter func112,ntmps112
 go_upto_region 1 with fail
 obtain⟨d,i⟩:∃ d,d=(w.alloc (ol k)).alloc (og):=⟨_,rfl⟩;rw [<-i];have o:B7 w d:=i▸(ba w).alloc (by simp) _;have q:d.heap[w.heap.size]?=some (ol k):=i▸aB (af _ _) _;have F:d.heap[w.heap.size+1]?=some (og):=i▸aC (by simp);have r:d.heap[y]?=some (oF H I z blk l J adm):=i▸aB (aB x _) _;have j:aH d l n:=ap.kept t (o.block l (ap.lt t));have ad:=am x;clear i x t;have B:=ab q;have C:=ce q (od);have K:=ab r;have L:=ce r (od);have M:=cZ (w:=d.drew) (ap.kept j rfl) E D;have N:=cZ (w:=(d.alloc (od)).drew) (ap.kept j (ah _ _ (ap.lt j))) E D;go_cut [5,6] (fun T U V=>T=.pointer (some ⟨d.heap.size,0,none⟩)/\U=.bool true/\V=(d.alloc (oe f g)).drew)
 case first=>
  go_region
  all_goals (go_wp2_with fail;go_meet)
  all_goals exact⟨rfl,rfl,rfl⟩
 case rest=>
  obtain⟨rfl,rfl,rfl⟩:=hcut;have S:(d.alloc (oe f g)).heap[d.heap.size]?=some (oe f g):=af _ _;have Y:=aB q (oe f g);have u:=aB F (oe f g);have R:=aB r (oe f g);have Z:aH (d.alloc (oe f g)) l n:=ap.kept j (ah _ _ (ap.lt j));have Q:=o.alloc o.size (oe f g);have X:=o.size;clear B C K L M N q F r j;have B:=ab R;have C:=ab S;have G:=am u;go_wp2_with fail
  go_region_with (go_at_call 140;refine (P.out _).mono ?_;rintro e ao ⟨rfl,s⟩;have O:=fun m=>(s.cell (p:=⟨w.heap.size+1,m,none⟩) G).trans (ab u m);have W:=fun m=>(s.frozen (p:=⟨w.heap.size+1,m,none⟩) G).trans (ag u m))
  all_goals go_wp2
  all_goals (
    refine bodyPost_ret (v:=(ot c a b)) (by simp [results,results112,go_sem,O]) rfl ⟨rfl,?_⟩
    repeat (refine Below.setCell ?_ (by simp <;> omega) _)
    exact Q.drew.drew.trans (s.mono (by simp;omega)))
theorem ph (a:Array Value)(w:World):Sem.run prog (callFunc 134 a) w=.ok (.enter 134 a) w:=by simp [go_sem]
theorem jdo (a:Array Value)(w:World):Sem.run prog (callFunc 135 a) w=.ok (.enter 135 a) w:=by simp [go_sem]
theorem vk (a:Array Value)(w:World):Sem.run prog (callFunc 141 a) w=.ok (.enter 141 a) w:=by simp [go_sem]
theorem gK {P:Program}(w:World){d:Array Oper}{rest:List Oper}{o:Oper}{a:Act}{b:Exit->Act->World->Prop}(j:o.guard=none)(c:Operand)(t:TypeId)(l:o.op=Op.call { callee:=Callee.builtin Builtin.len,args:=#[c],argTypes:=#[t] })
  (f:Value) (k:a.eval c=f) (e:Value) (m:(Builtin.len_ #[t] o.type #[f]).run P w=.ok e w) (g:wpList P d b rest (a.put o.dst e) w) :
  wpList P d b (o :: rest) a w:=by
 refine wpList_plain j fun n i=>?_
 unfold Oper.wp;simp [execOp,l,resolve,invoke,builtin,k,m,Result.andThen];exact i _ _ g
theorem wG (o c:Nat)(u z A adm:Value)(B blk:Int)(g:Es)(k:Ky)(w:World)(t:w.heap[o]?=some (oF u z B blk c A adm))(q:aH w c g)(D:k.ok)(n x y:Int)(S:¬((n=1/\1<=x)\/(n=2/\1<=y)))(C:ar k g=none) :
  Calls prog 109 #[pO o 2,om k,ot n x y] w fun e w'=>e=.returned (ug)/\B7 w w':=by
 have R:=ap.lt q;have av:=am t;go_enter func109,ntmps109
 go_wp2_with fail
 refine (rd n x y _ S).mono ?_
 rintro e d ⟨rfl,i⟩;have j:B7 w d:=(((ba w).alloc (by simp) _).alloc (by simp <;> omega) _).trans (i.mono (by simp <;> omega))
 have E:d.heap[w.heap.size]?=some (ol k):=(i.block _ (by simp <;> omega)).trans (aB (aB (af _ _) _) _)
 have s:d.heap[w.heap.size+2]?=some (og):=(i.block _ (by simp <;> omega)).trans (aC (by simp))
 have I:d.heap[o]?=some (oF u z B blk c A adm):=(i.block _ (by simp <;> omega)).trans (aB (aB (aB t _) _) _)
 have r:aH d c g:=ap.kept q (j.block c R);clear i t q;go_upto_region 2 with fail
 obtain⟨a,b⟩:∃ a,a=d.alloc (oq):=⟨_,rfl⟩;rw [<-b];have p:B7 w a:=b▸j.alloc j.size _;have l:a.heap[w.heap.size]?=some (ol k):=b▸aB E _;have G:a.heap[w.heap.size+2]?=some (og):=b▸aB s _;have m:a.heap[o]?=some (oF u z B blk c A adm):=b▸aB I _;have F:a.heap[d.heap.size]?=some (oq):=b▸af _ _;have f:aH a c g:=b▸ap.kept r (ah _ _ (ap.lt r));have a0:=am s;clear b j E s I r;have J:=ab l;have K:=ce l (od);have L:=ab m;have M:=ce m (od);have N:=dY (w:=a.drew) (ap.kept f rfl) D C;have O:=dY (w:=(a.alloc (od)).drew) (ap.kept f (ah _ _ (ap.lt f))) D C;go_cut [9,10] (fun T U V=>T=.pointer (some ⟨a.heap.size,0,none⟩)/\U=.bool false/\V=(a.alloc (od)).drew)
 case first=>
  go_region
  all_goals (go_wp2_with fail;go_meet)
  all_goals exact⟨rfl,rfl,rfl⟩
 case rest=>
  obtain⟨rfl,rfl,rfl⟩:=hcut;have Y:=aB l (od);have H:=aB G (od);have ao:=aB m (od);have ad:=aB F (od);have Z:aH (a.alloc (od)) c g:=ap.kept f (ah _ _ (ap.lt f));have Q:=p.alloc p.size (od);have X:=p.size;clear J K L M N O l G m f F;have P:=ab H;have W:=ag H;go_wp2
  refine bodyPost_ret (v:=ug) (by simp [results,results109,go_sem,P]) rfl ⟨rfl,Below.drew ?_⟩
  repeat (refine Below.setCell ?_ (by simp <;> omega) _)
  exact Q
theorem wH (q c:Nat)(A B C adm:Value)(D blk:Int)(j:Es)(k:Ky)(w:World)(z:w.heap[q]?=some (oF A B D blk c C adm))(s:aH w c j)(F:k.ok)(p x y:Int)(U:¬((p=1/\1<=x)\/(p=2/\1<=y)))(d f:Qt)(E:ar k j=some (d,f)) :
  Calls prog 109 #[pO q 2,om k,ot p x y] w fun e w'=>e=.returned (ug)/\B7 w w':=by
 have T:=ap.lt s;have a1:=am z;go_enter func109,ntmps109
 go_wp2_with fail
 refine (rd p x y _ U).mono ?_
 rintro e g ⟨rfl,l⟩;have m:B7 w g:=(((ba w).alloc (by simp) _).alloc (by simp <;> omega) _).trans (l.mono (by simp <;> omega))
 have G:g.heap[w.heap.size]?=some (ol k):=(l.block _ (by simp <;> omega)).trans (aB (aB (af _ _) _) _)
 have u:g.heap[w.heap.size+2]?=some (og):=(l.block _ (by simp <;> omega)).trans (aC (by simp))
 have K:g.heap[q]?=some (oF A B D blk c C adm):=(l.block _ (by simp <;> omega)).trans (aB (aB (aB z _) _) _)
 have t:aH g c j:=ap.kept s (m.block c T);clear l z s;go_upto_region 2 with fail
 obtain⟨a,b⟩:∃ a,a=g.alloc (oq):=⟨_,rfl⟩;rw [<-b];have r:B7 w a:=b▸m.alloc m.size _;have n:a.heap[w.heap.size]?=some (ol k):=b▸aB G _;have I:a.heap[w.heap.size+2]?=some (og):=b▸aB u _;have o:a.heap[q]?=some (oF A B D blk c C adm):=b▸aB K _;have H:a.heap[g.heap.size]?=some (oq):=b▸af _ _;have i:aH a c j:=b▸ap.kept t (ah _ _ (ap.lt t));have a2:=am u;clear b m G u K t;have L:=ab n;have M:=ce n (od);have N:=ab o;have O:=ce o (od);have P:=cZ (w:=a.drew) (ap.kept i rfl) F E;have Q:=cZ (w:=(a.alloc (od)).drew) (ap.kept i (ah _ _ (ap.lt i))) F E;go_cut [9,10] (fun V W X=>V=.pointer (some ⟨a.heap.size,0,none⟩)/\W=.bool true/\X=(a.alloc (oe d f)).drew)
 case first=>
  go_region
  all_goals (go_wp2_with fail;go_meet)
  all_goals exact⟨rfl,rfl,rfl⟩
 case rest=>
  obtain⟨rfl,rfl,rfl⟩:=hcut;have ad:=aB n (oe d f);have J:=aB I (oe d f);have a0:=aB o (oe d f);have av:=aB H (oe d f);have ao:aH (a.alloc (oe d f)) c j:=ap.kept i (ah _ _ (ap.lt i));have S:=r.alloc r.size (oe d f);have Z:=r.size;clear L M N O P Q n I o i H;have R:=ab J;have Y:=ag J;go_wp2
  refine bodyPost_ret (v:=ug) (by simp [results,results109,go_sem,R]) rfl ⟨rfl,Below.drew ?_⟩
  repeat (refine Below.setCell ?_ (by simp <;> omega) _)
  exact S
theorem qg (q c:Nat)(A B C adm:Value)(D blk:Int)(l:Es)(k:Ky)(w:World)(z:w.heap[q]?=some (oF A B D blk c C adm))(s:aH w c l)(F:k.ok)(j x y:Int)(U:((j=1/\1<=x)\/(j=2/\1<=y)))(d f:Qt)(E:ar k l=some (d,f)) :
  Calls prog 109 #[pO q 2,om k,ot j x y] w fun e w'=>e=.returned (uF)/\B7 w w':=by
 have T:=ap.lt s;have a1:=am z;go_enter func109,ntmps109
 go_wp2_with fail
 refine (km j x y _ U).mono ?_
 rintro e g ⟨rfl,m⟩;have n:B7 w g:=(((ba w).alloc (by simp) _).alloc (by simp <;> omega) _).trans (m.mono (by simp <;> omega))
 have G:g.heap[w.heap.size]?=some (ol k):=(m.block _ (by simp <;> omega)).trans (aB (aB (af _ _) _) _)
 have u:g.heap[w.heap.size+2]?=some (og):=(m.block _ (by simp <;> omega)).trans (aC (by simp))
 have K:g.heap[q]?=some (oF A B D blk c C adm):=(m.block _ (by simp <;> omega)).trans (aB (aB (aB z _) _) _)
 have t:aH g c l:=ap.kept s (n.block c T);clear m z s;go_upto_region 2 with fail
 obtain⟨a,b⟩:∃ a,a=g.alloc (Oo j x y):=⟨_,rfl⟩;rw [<-b];have r:B7 w a:=b▸n.alloc n.size _;have o:a.heap[w.heap.size]?=some (ol k):=b▸aB G _;have I:a.heap[w.heap.size+2]?=some (og):=b▸aB u _;have p:a.heap[q]?=some (oF A B D blk c C adm):=b▸aB K _;have H:a.heap[g.heap.size]?=some (Oo j x y):=b▸af _ _;have i:aH a c l:=b▸ap.kept t (ah _ _ (ap.lt t));have a2:=am u;clear b n G u K t;have L:=ab o;have M:=ce o (od);have N:=ab p;have O:=ce p (od);have P:=cZ (w:=a.drew) (ap.kept i rfl) F E;have Q:=cZ (w:=(a.alloc (od)).drew) (ap.kept i (ah _ _ (ap.lt i))) F E;go_cut [9,10] (fun V W X=>V=.pointer (some ⟨a.heap.size,0,none⟩)/\W=.bool true/\X=(a.alloc (oe d f)).drew)
 case first=>
  go_region
  all_goals (go_wp2_with fail;go_meet)
  all_goals exact⟨rfl,rfl,rfl⟩
 case rest=>
  obtain⟨rfl,rfl,rfl⟩:=hcut;have ad:=aB o (oe d f);have J:=aB I (oe d f);have a0:=aB p (oe d f);have av:=aB H (oe d f);have ao:aH (a.alloc (oe d f)) c l:=ap.kept i (ah _ _ (ap.lt i));have S:=r.alloc r.size (oe d f);have Z:=r.size;clear L M N O P Q o I p i H;have R:=ab J;have Y:=ag J;go_wp2
  refine bodyPost_ret (v:=uF) (by simp [results,results109,go_sem,R]) rfl ⟨rfl,Below.drew ?_⟩
  repeat (refine Below.setCell ?_ (by simp <;> omega) _)
  exact S
theorem wI (o b:Nat)(u z A adm:Value)(B blk:Int)(c:Es)(k:Ky)(w:World)(t:w.heap[o]?=some (oF u z B blk b A adm))(q:aH w b c)(D:k.ok)(i x y:Int)(V:((i=1/\1<=x)\/(i=2/\1<=y)))(C:ar k c=none)(a1:12<=c.length) :
  Calls prog 109 #[pO o 2,om k,ot i x y] w fun e w'=>e=.returned (uG)/\B7 w w':=by
 have T:=ap.lt q;have a3:=am t;go_enter func109,ntmps109
 go_wp2_with fail
 refine (km i x y _ V).mono ?_
 rintro e f ⟨rfl,j⟩;have l:B7 w f:=(((ba w).alloc (by simp) _).alloc (by simp <;> omega) _).trans (j.mono (by simp <;> omega))
 have E:f.heap[w.heap.size]?=some (ol k):=(j.block _ (by simp <;> omega)).trans (aB (aB (af _ _) _) _)
 have s:f.heap[w.heap.size+2]?=some (og):=(j.block _ (by simp <;> omega)).trans (aC (by simp))
 have I:f.heap[o]?=some (oF u z B blk b A adm):=(j.block _ (by simp <;> omega)).trans (aB (aB (aB t _) _) _)
 have r:aH f b c:=ap.kept q (l.block b T);clear j t q;go_upto_region 2 with fail
 obtain⟨a,d⟩:∃ a,a=f.alloc (Oo i x y):=⟨_,rfl⟩;rw [<-d];have p:B7 w a:=d▸l.alloc l.size _;have m:a.heap[w.heap.size]?=some (ol k):=d▸aB E _;have G:a.heap[w.heap.size+2]?=some (og):=d▸aB s _;have n:a.heap[o]?=some (oF u z B blk b A adm):=d▸aB I _;have F:a.heap[f.heap.size]?=some (Oo i x y):=d▸af _ _;have g:aH a b c:=d▸ap.kept r (ah _ _ (ap.lt r));have a4:=am s;clear d l E s I r;have J:=ab m;have K:=ce m (od);have L:=ab n;have M:=ce n (od);have N:=dY (w:=a.drew) (ap.kept g rfl) D C;have O:=dY (w:=(a.alloc (od)).drew) (ap.kept g (ah _ _ (ap.lt g))) D C;go_cut [9,10] (fun W X Y=>W=.pointer (some ⟨a.heap.size,0,none⟩)/\X=.bool false/\Y=(a.alloc (od)).drew)
 case first=>
  go_region
  all_goals (go_wp2_with fail;go_meet)
  all_goals exact⟨rfl,rfl,rfl⟩
 case rest=>
  obtain⟨rfl,rfl,rfl⟩:=hcut;have a0:=aB m (od);have H:=aB G (od);have U:=aB n (od);have a2:=aB F (od);have S:aH (a.alloc (od)) b c:=ap.kept g (ah _ _ (ap.lt g));have Q:=p.alloc p.size (od);have av:=p.size;clear J K L M N O m G n g F;have P:=ab H;have Z:=ag H;have ad:=ab U;have R:Hid ((Builtin.len_ #[121] 3 #[.map (some b)]).run prog (a.alloc (od)).drew=.ok (.int .i64 c.length) (a.alloc (od)).drew):=aa (ap.len (w:=(a.alloc (od)).drew) (ap.kept S rfl) jF 3);have ao:decide ((12:Int)<=c.length)=true:=by simp;omega
  go_upto_region 7 with fail
  go_wp2_with (at_len;refine gK _ (by rfl) _ _ (by rfl) _ (by rfl) _ R.out ?_)
  refine bodyPost_ret (v:=uG) (by simp [results,results109,go_sem,P]) rfl ⟨rfl,Below.drew ?_⟩
  repeat (refine Below.setCell ?_ (by simp <;> omega) _)
  exact Q
theorem eZ {V c:World}{b:Nat}{X:Obj}(a:V.heap[b]?=some X)(d:Below V.drew.heap.size V.drew c):c.heap[b]?=some X:=(d.block b (am a)).trans a
theorem car1 {V a:World}{o:Obj}{b:Nat}{X:Obj}(c:V.heap[b]?=some X)(d:Below (V.alloc o).drew.heap.size (V.alloc o).drew a):a.heap[b]?=some X:=eZ (aB c o) d
theorem car2 {V c:World}{o a:Obj}{b:Nat}{X:Obj}(d:V.heap[b]?=some X)(e:Below ((V.alloc o).alloc a).drew.heap.size ((V.alloc o).alloc a).drew c):c.heap[b]?=some X:=eZ (aB (aB d o) a) e
theorem bel1 {V a:World}{o:Obj}(b:Below (V.alloc o).drew.heap.size (V.alloc o).drew a):B7 V a:=((Below.refl V.heap.size V).alloc lz o).drew.trans (b.mono (by simp))
theorem bel2 {V b:World}{o a:Obj}(c:Below ((V.alloc o).alloc a).drew.heap.size ((V.alloc o).alloc a).drew b):B7 V b:=(((Below.refl V.heap.size V).alloc lz o).alloc (by simp) a).drew.trans (c.mono (by simp;omega))
theorem set3 {V X:World}{b a:Nat}{o:Obj}{d0 d1 d2 c d e:Value}{t:TypeId}(m:X.heap[b]?=some o)(j:X.heap[a]?=some (.cells #[d0,d1,d2] t))(g:b≠a)(p:V.heap.size<=b)(f:V.heap.size<=a)(n:B7 V X) :
  (((X.setCell ⟨a,0,none⟩ c).setCell ⟨a,1,none⟩ d).setCell ⟨a,2,none⟩ e).heap[b]?=some o/\(((X.setCell ⟨a,0,none⟩ c).setCell ⟨a,1,none⟩ d).setCell ⟨a,2,none⟩ e).heap[a]?=some (.cells #[c,d,e] t)/\V.heap.size<=b/\V.heap.size<=a/\B7 V (((X.setCell ⟨a,0,none⟩ c).setCell ⟨a,1,none⟩ d).setCell ⟨a,2,none⟩ e):=by
 refine⟨?_,?_,p,f,((n.setCell f _).setCell f _).setCell f _⟩
 ·rw [ac g,ac g,ac g];exact m
 ·have i:=ai j 0 c;have k:=ai i 1 d;have l:=ai k 2 e;simpa using l
theorem pN {V X:World}{a b:Nat}{o p q r s e f g i j d0 d1 d2 k l m:Value}{t n:TypeId}(A:X.heap[a]?=some (.cells #[o,p,q,r,s] n))(v:X.heap[b]?=some (.cells #[d0,d1,d2] t))(c:a≠b)(d:V.heap.size<=a)(C:V.heap.size<=b)(B:B7 V X) :
  ((((((((X.setCell ⟨a,0,none⟩ e).setCell ⟨a,1,none⟩ f).setCell ⟨a,2,none⟩ g).setCell ⟨a,3,none⟩ i).setCell ⟨a,4,none⟩ j).setCell ⟨b,0,none⟩ k).setCell ⟨b,1,none⟩ l).setCell ⟨b,2,none⟩ m).heap[a]?=some (.cells #[e,f,g,i,j] n)/\((((((((X.setCell ⟨a,0,none⟩ e).setCell ⟨a,1,none⟩ f).setCell ⟨a,2,none⟩ g).setCell ⟨a,3,none⟩ i).setCell ⟨a,4,none⟩ j).setCell ⟨b,0,none⟩ k).setCell ⟨b,1,none⟩ l).setCell ⟨b,2,none⟩ m).heap[b]?=some (.cells #[k,l,m] t)/\V.heap.size<=a/\V.heap.size<=b/\B7 V ((((((((X.setCell ⟨a,0,none⟩ e).setCell ⟨a,1,none⟩ f).setCell ⟨a,2,none⟩ g).setCell ⟨a,3,none⟩ i).setCell ⟨a,4,none⟩ j).setCell ⟨b,0,none⟩ k).setCell ⟨b,1,none⟩ l).setCell ⟨b,2,none⟩ m):=by
 have u:=ai A 0 e;have w:=ai u 1 f;have x:=ai w 2 g;have y:=ai x 3 i;have z:=ai y 4 j;refine set3 (by simpa using z) (d0:=d0) (d1:=d1) (d2:=d2) (t:=t) ?_ c d C (((((B.setCell d _).setCell d _).setCell d _).setCell d _).setCell d _)
 rw [ac c.symm,ac c.symm,ac c.symm,ac c.symm,ac c.symm];exact v
theorem carC {V a:World}{o:Obj}(b:Below (V.alloc o).drew.heap.size (V.alloc o).drew a):a.heap[V.heap.size]?=some o:=eZ (af V o) b
theorem carD {V b:World}{o a:Obj}(c:Below ((V.alloc o).alloc a).drew.heap.size ((V.alloc o).alloc a).drew b):b.heap[V.heap.size]?=some o/\b.heap[V.heap.size+1]?=some a:=⟨eZ (aB (af V o) a) c,eZ (aC (by simp)) c⟩
theorem rW (q o:Nat)(R S T adm:Value)(H blk:Int)(A:Es)(k:Ky)(w:World)(a3:w.heap[q]?=some (oF R S H blk o T adm))(a2:aH w o A)(a1:k.ok)(i l:Qt)(a0:ar k A=some (i,l))(n:Int)(E:Qt)(p F G:Int)
  (ci:Hid (∀ a4,Calls prog 137 #[oD i,.int .u64 H,.int .u64 n] a4 fun e w'=>e=.returned (.tuple #[oD E,ot p F G])/\B7 a4 w')) (cp:p≠2\/n=0) :
  Calls prog 111 #[pO q 2,om k,.int .u64 n] w fun e w'=>e=.returned (ot p F G)/\B7 w w':=by
 go_enter func111,ntmps111
 go_upto_region 1 with fail
 obtain⟨c,B⟩:∃ c,c=(w.alloc (ol k)).alloc (og):=⟨_,rfl⟩;rw [<-B];have I:B7 w c:=B▸(ba w).alloc (by simp) _;have M:c.heap[w.heap.size]?=some (ol k):=B▸aB (af _ _) _;have bi:c.heap[w.heap.size+1]?=some (og):=B▸aC (by simp);have Q:c.heap[q]?=some (oF R S H blk o T adm):=B▸aB (aB a3 _) _;have C:aH c o A:=ap.kept a2 (I.block o (ap.lt a2));have c4:=am a3;clear B a3 a2;have bv:=ab M;have bw:=ce M (od);have bz:=ab Q;have bF:=ce Q (od);have bK:=cZ (w:=c.drew) (ap.kept C rfl) a1 a0;have b0:=cZ (w:=(c.alloc (od)).drew) (ap.kept C (ah _ _ (ap.lt C))) a1 a0;go_cut [7,8] (fun ct cv a5=>ct=.pointer (some ⟨c.heap.size,0,none⟩)/\cv=.bool true/\a5=(c.alloc (oe i l)).drew)
 case first=>
  go_region
  all_goals (go_wp2_with fail;go_meet)
  all_goals exact⟨rfl,rfl,rfl⟩
 case rest=>
  obtain⟨rfl,rfl,rfl⟩:=hcut;have bo:(c.alloc (oe i l)).heap[c.heap.size]?=some (oe i l):=af _ _;have bd:=aB M (oe i l);have bj:=aB bi (oe i l);have bk:=aB Q (oe i l);have bg:aH (c.alloc (oe i l)) o A:=ap.kept C (ah _ _ (ap.lt C));have bb:=I.alloc I.size (oe i l);have ck:=I.size;clear bv bw bz bF bK b0 M bi Q C;obtain⟨a,s⟩:∃ a,a=(c.alloc (oe i l)).drew:=⟨_,rfl⟩;rw [<-s];have m:a.heap[c.heap.size]?=some (oe i l):=s▸bo;have N:a.heap[w.heap.size]?=some (ol k):=s▸bd;have K:a.heap[w.heap.size+1]?=some (og):=s▸bj;have y:a.heap[q]?=some (oF R S H blk o T adm):=s▸bk;have O:aH a o A:=s▸ap.kept bg rfl;have J:B7 w a:=s▸bb.drew;clear s bo bd bj bk bg bb;have dl:=am m;have df:=am K;have dk:=am y;go_upto_region 4 with fail
  go_cut [9,10] (fun cw cs a5=>∃ (u:World) (L z:Nat),u=a5/\cw=.pointer (some ⟨L,0,none⟩)/\cs=.pointer (some ⟨z,0,none⟩)/\u.heap[L]?=some (oH E)/\u.heap[z]?=some (oI p F G)/\a.heap.size<=L/\a.heap.size<=z/\B7 a u)
  case first=>
   have b1:=ab m 0;have b2:=ab m 1;have b3:=ab m 2;have b4:=ab m 3;have b5:=ab m 4;have b6:=ab y 2;simp at b1 b2 b3 b4 b5 b6;have dv:a.heap.size≠c.heap.size:=by omega
   have dN:a.heap.size+1≠c.heap.size:=by omega
   have dR:a.heap.size≠q:=by omega
   have d0:a.heap.size+1≠q:=by omega
   have X:=aa m;have V:=aa y;clear m N K y O J I a1 a0 ck;go_region_held3 (fun w'=>w'.cell? ⟨c.heap.size,0,none⟩=some (.int .u8 i.kd)/\w'.cell? ⟨c.heap.size,1,none⟩=some (.int .u64 i.x)/\w'.cell? ⟨c.heap.size,2,none⟩=some (.int .u64 i.y)/\w'.cell? ⟨c.heap.size,3,none⟩=some (.int .u64 i.lv)/\w'.cell? ⟨c.heap.size,4,none⟩=some (.int .u64 i.wn)/\w'.cell? ⟨q,2,none⟩=some (.int .u64 H)) (first | go_keep) (first
     | (go_at_call 137;refine (ci.out _).mono ?_;rintro e d ⟨rfl,j⟩
        have cx:=j.size;have D:=(by first | exact car2 X.out j | exact car1 X.out j | exact eZ X.out j:d.heap[c.heap.size]?=some (oe i l));have bl:=(by first | exact car2 V.out j | exact car1 V.out j | exact eZ V.out j:d.heap[q]?=some (oF R S H blk o T adm));have b7:=ab D 0;have b8:=ab D 1;have b9:=ab D 2;have cb:=ab D 3;have cc:=ab D 4;have ch:=ab bl 2;simp at b7 b8 b9 cb cc ch cx;have dm:d.heap.size≠c.heap.size:=by omega
        have dn:d.heap.size+1≠c.heap.size:=by omega
        have ds:d.heap.size≠q:=by omega
        have dt:d.heap.size+1≠q:=by omega
        first
          | (have g:Below a.drew.heap.size a.drew d:=j;have f:=aa ((Below.refl a.heap.size a).drew.trans g);clear g)
          | (have g:Below (a.alloc (oq)).drew.heap.size (a.alloc (oq)).drew d:=j;have b:=carC g;have f:=aa (bel1 g);have a6:=ab b;have a7:=ag b;have cz:=ce b (oq);have cF:=jG b (oq);have cG:=ce b (og);have cR:=jG b (og);have cU:=ce b (oH E);have cy:=jG b (oH E);have bs:¬a.heap.size=d.heap.size:=(by omega);have bu:¬d.heap.size=a.heap.size:=(by omega);have t:=aa b;clear b g)
          | (have g:Below (a.alloc (og)).drew.heap.size (a.alloc (og)).drew d:=j;have b:=carC g;have f:=aa (bel1 g);have a6:=ab b;have a7:=ag b;have cz:=ce b (oq);have cF:=jG b (oq);have cG:=ce b (og);have cR:=jG b (og);have cU:=ce b (oH E);have cy:=jG b (oH E);have bs:¬a.heap.size=d.heap.size:=(by omega);have bu:¬d.heap.size=a.heap.size:=(by omega);have t:=aa b;clear b g)
          | (have g:Below ((a.alloc (oq)).alloc (og)).drew.heap.size ((a.alloc (oq)).alloc (og)).drew d:=j;obtain⟨b,r⟩:=carD g;have f:=aa (bel2 g);have a6:=ab b;have a7:=ag b;have cV:=ab r;have cX:=ag r;have t:=aa b;have W:=aa r;clear b r g)
          | (have g:Below ((a.alloc (og)).alloc (oq)).drew.heap.size ((a.alloc (og)).alloc (oq)).drew d:=j;obtain⟨b,r⟩:=carD g;have f:=aa (bel2 g);have a6:=ab b;have a7:=ag b;have cV:=ab r;have cX:=ag r;have t:=aa b;have W:=aa r;clear b r g)
        have d1:=ab (aB (af d (oq)) (og));have d2:=ag (aB (af d (oq)) (og));have d3:=ab (aB (af d (og)) (oq));have d4:=ag (aB (af d (og)) (oq));have d5:=ab (af d (og));have d6:=ag (af d (og));have d7:=ab (af d (oq));have d8:=ag (af d (oq));have c0:=aa j;clear j D bl))
   all_goals (go_wp2_with fail;go_meet)
   ·exact⟨_,_,_,rfl,rfl,rfl,aB (af _ _) _,aC (by simp),f.out.size,Nat.le_succ_of_le f.out.size,(f.out.alloc f.out.size _).alloc (by have:=f.out.size;simp;omega) _⟩
   ·exact⟨_,_,_,rfl,rfl,rfl,aC (by simp),aB (af _ _) _,Nat.le_succ_of_le f.out.size,f.out.size,(f.out.alloc f.out.size _).alloc (by have:=f.out.size;simp;omega) _⟩
   ·exact⟨_,_,_,rfl,rfl,rfl,pN (aB t.out _) (af _ _) bs lz f.out.size (f.out.alloc f.out.size _)⟩
   ·exact⟨_,_,_,rfl,rfl,rfl,pN t.out W.out (by omega) (by omega) (by omega) f.out⟩
   ·exact⟨_,_,_,rfl,rfl,rfl,set3 (af _ _) (aB t.out _) bu f.out.size lz (f.out.alloc f.out.size _)⟩
   ·exact⟨_,_,_,rfl,rfl,rfl,pN W.out t.out (by omega) (by omega) (by omega) f.out⟩
  case rest=>
   obtain⟨u,L,z,rfl,rfl,rfl,a8,Z,c8,c6,x⟩:=hcut;have cl:=(x.block _ (am N)).trans N;have P:=(x.block _ (am K)).trans K;have cr:=(x.block _ (am m)).trans m;have cq:=(x.block _ (am y)).trans y;have cn:aH u o A:=ap.kept O (x.block o (ap.lt O));have av:B7 w u:=J.trans (x.mono J.size);have c3:=J.size;have c5:=av.size;have di:=am P;have c7:=am Z;have c9:=am a8;have db:¬w.heap.size+1=z:=by omega
   have dd:¬z=w.heap.size+1:=by omega
   clear N K m y O x J;have c1:=ab Z;have Y:=ab P;have c2:=ag P;have U:=aa av;clear a8 Z cl P cr cq cn av;rcases cp with ad | ad
   ·have a9:(p==2)=false:=by simp [ad]
    go_wp2
    refine bodyPost_ret (v:=(ot p F G)) (by simp [results,results111,go_sem,Y]) rfl ⟨rfl,?_⟩
    repeat (refine Below.setCell ?_ (by simp <;> omega) _)
    exact U.out
   ·subst ad;by_cases ao:p=2
    ·have a9:(p==2)=true:=by simp [ao]
     go_wp2
     refine bodyPost_ret (v:=(ot p F G)) (by simp [results,results111,go_sem,Y,ao]) rfl ⟨rfl,?_⟩
     repeat (refine Below.setCell ?_ (by simp <;> omega) _)
     exact U.out
    ·have a9:(p==2)=false:=by simp [ao]
     go_wp2
     refine bodyPost_ret (v:=(ot p F G)) (by simp [results,results111,go_sem,Y]) rfl ⟨rfl,?_⟩
     repeat (refine Below.setCell ?_ (by simp <;> omega) _)
     exact U.out
def de.ld (c:de):Ld:=⟨c.time,c.adm,stands c.es⟩
theorem Qt.ok.fit {q:Qt}(a:q.ok):q.fit:=⟨by rcases a.kd with ⟨a,_⟩ | ⟨a,_⟩ <;> omega,a.x,a.y,a.lv,a.wn⟩
theorem lC {a:Es}{p:Ky×Qt}(b:p∈stands a):∃ x∈a,p=(x.1,x.2.1):=by
 unfold stands at b;obtain⟨x,d,c⟩:=List.mem_map.1 b;exact⟨x,d,c.symm⟩
theorem de.ok.ld {c:de}(a:c.ok):c.ld.ok:=by
 refine⟨a.time,a.adm,fun f b=>?_,fun f b=>?_,?_,?_⟩
 ·obtain⟨e,d,rfl⟩:=lC b;exact a.key e d
 ·obtain⟨e,d,rfl⟩:=lC b;exact a.qt e d
 ·show ((stands c.es).map Prod.fst).Nodup;rw [lU];exact a.nd
 ·show (stands c.es).length<=12;rw [dF];exact a.len
theorem dP (t:Int):0<=au t/\au t<=18446744073709551615:=by unfold au;omega
theorem Kept.ok {c d:de}{b:Es}(g:Kept c d b)(a:c.ok)(l:(b.map Prod.fst).Nodup)(j:∀ p∈b,p.1.ok)(m:∀ p∈b,p.2.1.ok)(f:∀ p∈b,p.2.2.fit)(k:b.length<=12)(n:∀ p∈b,gL c.blk p.2.1 p.2.2)(o:∀ p∈b,p.2.2.kd=2->p.2.2.wn<=c.time / p.2.2.y):d.ok:=by
 obtain⟨r,e,q,i,rfl⟩:=g;exact⟨a.time,a.adm,a.blk,dP _,l,j,m,f,k,(a.dur.keep a.turn a.time a.nd a.key a.len n o i e).less a.time.1⟩
theorem Kept.has {c d:de}{b:Es}(f:Kept c d b)(a:c.ok)(i:∀ p∈b,gL c.blk p.2.1 p.2.2)(j:∀ p∈b,p.2.2.kd=2->p.2.2.wn<=c.time / p.2.2.y):d.has c.time:=by
 obtain⟨l,e,k,g,rfl⟩:=f;exact a.dur.keep a.turn a.time a.nd a.key a.len i j g e
theorem de.has.le {c:de}{D:Int}(a:c.has D)(d:c.ok):D<=c.time:=by
 rcases a.img with ⟨_,_,b,_⟩ | ⟨f,_,_,_,e,b,_⟩
 ·have:=d.time.1;omega
 ·omega
theorem Kept.ld {c a:de}{b:Es}(d:Kept c a b):a.ld=⟨c.time,c.adm,stands b⟩:=by
 obtain⟨g,e,f,_,rfl⟩:=d;rfl
theorem Kept.blk {c a:de}{b:Es}(d:Kept c a b):a.blk=c.blk:=by
 obtain⟨g,e,f,_,rfl⟩:=d;rfl
def Sm (fsD fsN:Fs):Prop:=∀ a,(ar a fsN).map Prod.snd=(ar a fsD).map Prod.snd
theorem Sm.put {fsD fsN:Fs}(e:Sm fsD fsN)(x:Bool)(a d:Nat)(s:ByteArray):Sm (aJ x (a,s) fsD) (aJ x (d,s) fsN):=fun c=>by
 by_cases b:c=x
 ·rw [b,bm,bm];rfl
 ·rw [be _ _ b,be _ _ b];exact e c
theorem Sm.del {fsD fsN:Fs}(c:Sm fsD fsN)(x:Bool)(d:(fsD.map Prod.fst).Nodup)(e:(fsN.map Prod.fst).Nodup):Sm (br x fsD) (br x fsN):=fun b=>by
 by_cases a:b=x
 ·rw [a,ca d,ca e]
 ·rw [bt a,bt a];exact c b
theorem Kept.all {c a:de}{e:Es}(d:Kept c a e)(g:c.ok)(l:∀ p∈e,gL c.blk p.2.1 p.2.2)(m:∀ p∈e,p.2.2.kd=2->p.2.2.wn<=c.time / p.2.2.y)(b:Bool):(∀ D,(c.has D\/some b=some true/\D=c.time)->a.has D)/\(some b=none->a=c)/\(Sm c.fsD c.fsN->Sm a.fsD a.fsN):=⟨fun D j=>by
  have f:=d.has g l m;rcases j with i | ⟨_,rfl⟩
  · exact fE.less f (i.le g)
  · exact f,(fun d=>absurd d (by simp)),fun k=>by
  obtain⟨r,n,o,q,rfl⟩:=d;exact k.put _ _ _ _⟩
def oneB (a:Rp):Bool:=decide (a.c=1)
theorem ee {k:Ky}{a:Es}(b:aZ k (stands a)=none):ar k a=none:=by
 rw [bD] at b;cases c:ar k a with
 | none=>rfl
 | some d=>rw [c] at b;cases b
theorem cj {k:Ky}{b:Es}{z:Qt}(a:aZ k (stands b)=some z):∃ f,ar k b=some (z,f):=by
 rw [bD] at a;cases c:ar k b with
 | none=>rw [c] at a;cases a
 | some d=>
  rw [c] at a;obtain⟨g,e⟩:=d;injection a with a;exact⟨e,by rw [<-a]⟩
structure PP (Post:World->(NP)->Prop):Prop where
 kept:∀ {w w':World}{F':NP},Post w F'->w.heap.size<=w'.heap.size->(∀ b,F' b->w'.heap[b]?=w.heap[b]?)->Post w' F'
 lt:∀ {w:World}{F':NP},Post w F'->∀ b,F' b->b<w.heap.size
def cB (w:World)(c:NP)(w':World)(d:World->(NP)->Prop):Prop:=∃ b,d w' b/\ae c w w'/\∀ a,b a->c a\/w.heap.size<=a
theorem jga {g:World->(NP)->Prop}(C:PP g){w a:World}{R c:Nat}{f e:NP}(r p q:Int)(H:a.heap[R]?=some (og))(I:a.heap[c]?=some (og)){o d:Nat}{t u:Obj}(G:a.heap[o]?=some t)(K:a.heap[d]?=some u)(B:g a e)(F:ae f w a)(A:∀ b,e b->f b\/c<b)(D:¬e R)(k:c≠R)(l:w.heap.size<=R)(n:o≠R)(J:d<R) :
  ∃ (X:World) (i:Nat) (s:NP),X=((a.setCell ⟨R,0,none⟩ (.int .u8 r)).setCell ⟨R,1,none⟩ (.int .u64 p)).setCell ⟨R,2,none⟩ (.int .u64 q)/\Value.pointer (some ⟨R,0,none⟩)=.pointer (some ⟨i,0,none⟩)/\X.heap[i]?=some (oI r p q)/\X.heap[c]?=some (og)/\(X.heap[o]?=some t/\X.heap[d]?=some u)/\g X s/\d<i/\ae f w X/\(∀ b,s b->f b\/c<b):=by
 refine⟨_,R,e,rfl,rfl,?_,?_,⟨?_,?_⟩,C.kept B (by simp) (fun b E=>?_),J,((F.set (ir l) _ _).set (ir l) _ _).set (ir l) _ _,A⟩
 ·have x:=ai H 0 (.int .u8 r);have y:=ai x 1 (.int .u64 p);have z:=ai y 2 (.int .u64 q);simpa using z
 ·rw [ac k,ac k,ac k];exact I
 ·rw [ac n,ac n,ac n];exact G
 ·have j:d≠R:=by omega
  rw [ac j,ac j,ac j];exact K
 ·have m:b≠R:=fun v=>D (v▸E);rw [ac m,ac m,ac m]
theorem jf9 {f:World->(NP)->Prop}(v:PP f){w a:World}{R c:Nat}{e d:NP}(m k l:Int)(A:a.heap[R]?=some (og))(B:a.heap[c]?=some (og))(u:f a d)(z:ae e w a)(t:∀ b,d b->e b\/c<b)(x:¬d R)(g:c≠R)(i:w.heap.size<=R) :
  ∃ (X:World) (o:Nat) (n:NP),X=((a.setCell ⟨R,0,none⟩ (.int .u8 m)).setCell ⟨R,1,none⟩ (.int .u64 k)).setCell ⟨R,2,none⟩ (.int .u64 l)/\Value.pointer (some ⟨R,0,none⟩)=.pointer (some ⟨o,0,none⟩)/\X.heap[o]?=some (oI m k l)/\X.heap[c]?=some (og)/\f X n/\ae e w X/\(∀ b,n b->e b\/c<b):=by
 refine⟨_,R,d,rfl,rfl,?_,?_,v.kept u (by simp) (fun b y=>?_),((z.set (ir i) _ _).set (ir i) _ _).set (ir i) _ _,t⟩
 ·have q:=ai A 0 (.int .u8 m);have r:=ai q 1 (.int .u64 k);have s:=ai r 2 (.int .u64 l);simpa using s
 ·rw [ac g,ac g,ac g];exact B
 ·have j:b≠R:=fun p=>x (p▸y);rw [ac j,ac j,ac j]
theorem fF {e:World->(NP)->Prop}(n:PP e){w X:World}{a:Nat}{c d:NP}(r p q:Int)(m:e X d)(o:ae c w X)(l:∀ b,c b->b<w.heap.size)(g:w.heap.size<=a)(k:∀ b,d b->c b\/a<b) :
  cB w c (((X.setCell ⟨a,0,none⟩ (.int .u8 r)).setCell ⟨a,1,none⟩ (.int .u64 p)).setCell ⟨a,2,none⟩ (.int .u64 q)) e:=by
 refine⟨d,n.kept m (by simp) (fun b i=>?_),((o.set (ir g) _ _).set (ir g) _ _).set (ir g) _ _,fun b i=>(k b i).imp_right (fun f=>by omega)⟩
 have j:b≠a:=fun s=>(k b i).elim (fun f=>by have:=l b f;omega) (fun f=>by omega);rw [ac j,ac j,ac j]
end Go.Proofs.YtnlgndpcddngoaaGreatDoor
