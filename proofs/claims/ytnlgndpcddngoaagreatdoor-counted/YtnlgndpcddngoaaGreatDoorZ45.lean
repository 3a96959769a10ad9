import Derived.Test.YtnlgndpcddngoaaGreatDoorZ44
import Derived.Deep.RegionHeld3
import Derived.Test.YtnlgndpcddngoaaGreatDoorZ38
set_option linter.all false
set_option maxRecDepth 100000
set_option maxHeartbeats 8000000
namespace Go.Proofs.YtnlgndpcddngoaaGreatDoor
open Go.Proofs.Tryz Go.RowKit Go.Maps
variable [dK] [iK]
def UX (dn:Bool)(w0 w:World)(c:Nat)(blk:Int)(S:Xs)(B:Nat)(G:NP):Prop:=if dn then ∃ a b,bQ w0 w c blk a b B G/\DnX blk S a b else mL w c blk S B G
theorem UX.lt {dn:Bool}{w0 w:World}{d:Nat}{blk:Int}{S:Xs}{B:Nat}{G:NP}(f:UX dn w0 w d blk S B G){b:Nat}(e:G b):B<=b/\b<w.heap.size:=by
 cases dn
 ·obtain⟨_,_,_,_,_,_,_,_,_,_,g⟩:=(f:mL w d blk S B G);exact g b e
 ·obtain⟨a,c,⟨m,k,t,i,l,u,nb,n,o,p,q,r,g,s,j⟩,_⟩:=(f:∃ a c,bQ w0 w d blk a c B G/\DnX blk S a c);exact⟨(i b e).1,ll (i b e).2 j.size⟩
theorem UX.below {dn:Bool}{w0 w w':World}{d:Nat}{blk:Int}{S:Xs}{B:Nat}{G:NP}(a:UX dn w0 w d blk S B G)(c:B7 w w'):UX dn w0 w' d blk S B G:=by
 cases dn
 ·obtain⟨i,q,l,m,k,r,s,t,u,j,g⟩:=(a:mL w d blk S B G);exact⟨i,q,l,m,(c.block d (am k)).trans k,r,s.kept c.size (fun b a=>c.block b (g b (j.2.2 b a)).2),t,(c.cell (p:=⟨i,5,none⟩) (g i j.2.1).2).trans u,j,fun b a=>⟨(g b a).1,ll (g b a).2 c.size⟩⟩
 ·obtain⟨e,f,n,o⟩:=(a:∃ e f,bQ w0 w d blk e f B G/\DnX blk S e f);exact⟨e,f,iO n c,o⟩
def RcX (blk:Int)(S:Xs)(c:Ld):Prop:=∃ a b,DnX blk S a b/\Rc blk a b c
theorem DnX.ok {blk:Int}{S:Xs}{D:Dx}{b:Ld}(d:DnX blk S D b)(a:S.L.ok):(D.t=S.D.t/\b.time=S.L.time)/\b.ok:=by
 rcases d with ⟨_,rfl,rfl⟩ | ⟨rfl,q,k,l,m,p,n,o,c,e⟩
 ·exact⟨⟨rfl,rfl⟩,a⟩
 ·rcases e with rfl | rfl
  ·exact⟨⟨rfl,rfl⟩,a⟩
  ·obtain⟨f,g,i,j⟩:=(c.eo.vir (blk:=blk) c.v).st;exact⟨⟨rfl,rfl⟩,a.time,a.adm,g,i,f,j⟩
theorem RcX.use {blk:Int}{S:Xs}{a:Ld}{B:Bk}{f:Rq}{g i:Int}(j:RcX blk S a)(c:gT S.D.t S.L B)(k:a.ok)(m:HgOk S.ill f g i)(l:0<=blk):(a.time<=B.time/\S.D.t<=a.time/\a.adm=0)/\∃ d,Rcv S.ill.isSome f g i blk a B d/\gT a.time a ⟨a.time,bZ a.time a.ks d.ls⟩:=by
 obtain⟨n,o,e,b⟩:=j;obtain⟨⟨p,q⟩,_⟩:=e.ok c.lok;refine⟨⟨?_,?_,b.adm⟩,jfD c e b k m l⟩
 ·have:=b.time;have:=c.time;omega
 ·have:=b.dt;omega
theorem tI (T:Int)(ks:List (Ky×Qt))(c:List Ln):bZ T ks (bZ T ks c)=bZ T ks c:=by
 induction c with
 | nil=>rfl
 | cons a g b=>
  unfold bZ at b ⊢;rw [List.filterMap_cons];cases e:aZ a.k ks with
  | none=>exact b
  | some f=>
   simp only [Option.map_some];rw [List.filterMap_cons];have d:(lnR T (a.k,f) a).k=a.k:=rfl;rw [d,e];simp only [Option.map_some];rw [b];rfl
theorem jaF {L:Ld}{b:Bk}{j:List Ln}(k:Rq)(l m:Int)(a:gT L.time L b)(e:b=⟨L.time,bZ L.time L.ks j⟩):Rcv false k l m 0 L b b/\(⟨L.time,bZ L.time L.ks b.ls⟩:Bk)=b:=by
 have d:=a.lines;rw [<-a.time] at d;have c:=nE a.lok.qt d;refine⟨⟨(fun a=>by cases a),fun _=>rfl,fun o i=>?_,fun n a=>c.none_ a,a.nd,a.kok,a.bok,(fun a=>by cases a)⟩,by rw [e];dsimp only;rw [tI]⟩
 obtain⟨p,f,g⟩:=c.mem a.lok.nd i;rw [f];exact g
theorem vA {w0 w:World}{d:Nat}{blk:Int}{D:Dx}{L:Ld}{B:Nat}{G:NP}(g:bQ w0 w d blk D L B G)(m:L.ok)(l:B<=w0.heap.size) :
  Calls prog 20 #[pO d 0,.int .i64 (-1),.int .i64 (-1),.int .i64 0,.int .i64 0] w fun e w'=>∃ a c,e=.returned (.int .i64 0)/\bx w' d blk ⟨a.time,true⟩ a B c/\Rc blk D L a/\ae G w w'/\∀ b,c b->G b\/w.heap.size<=b\/iH w b:=by
 refine (jbK g l).mono ?_
 rintro e w' ⟨a,c,rfl,f,i,j,k⟩;obtain⟨n,o,p⟩:=i.rc m f.lok;exact⟨⟨a.time,a.adm,n⟩,c,rfl,f.perm o,p,j,k⟩
theorem jeK {dn:Bool}{w0 w:World}{i:Nat}{blk:Int}{S:Xs}{B:Nat}{G:NP}(n:UX dn w0 w i blk S B G)(o:S.L.ok)(r:B<=w0.heap.size)(s:B<=w.heap.size) :
  Calls prog 20 #[pO i 0,.int .i64 (-1),.int .i64 (-1),.int .i64 0,.int .i64 0] w fun e w'=>∃ d g,e=.returned (.int .i64 0)/\bx w' i blk ⟨d.time,true⟩ d B g/\RcX blk S d/\ae G w w'/\∀ b,g b->G b\/w.heap.size<=b\/iH w b:=by
 cases dn
 ·refine (jaq i blk S B G w n s).mono ?_
  rintro e w' ⟨d,g,rfl,j,f,k,l⟩;obtain⟨c,a,p,t⟩:∃ c a,DnX blk S c a/\rO blk c a d:=by
   rcases f with ⟨q,f⟩ | ⟨a,f,m⟩
   ·exact⟨S.D,S.L,il ⟨q,rfl,rfl⟩,f⟩
   ·exact⟨_,a,ir ⟨rfl,f⟩,m⟩
  obtain⟨v,x,y⟩:=t.rc (p.ok o).2 j.lok;exact⟨⟨d.time,d.adm,v⟩,g,rfl,j.perm x,⟨c,a,p,y⟩,k,fun b u=>(l b u).imp id il⟩
 ·obtain⟨c,a,j,f⟩:=(n:∃ c a,bQ w0 w i blk c a B G/\DnX blk S c a);refine (vA j (f.ok o).2 r).mono ?_
  rintro e w' ⟨d,g,rfl,k,l,m⟩;exact⟨d,g,rfl,k,⟨c,a,f,l⟩,m⟩
def pX (w:World)(G b:NP):Prop:=∀ a,b a->¬G a/\∃ c e d,w.heap[a]?=some (.cells c e d)
theorem pX.lt {w:World}{G a:NP}(d:pX w G a){b:Nat}(e:a b):b<w.heap.size:=by
 obtain⟨_,f,i,g,c⟩:=d b e;exact am c
theorem pX.kept {w w':World}{G c:NP}(d:pX w G c)(k:ae G w w'):pX w' G c/\∀ b,c b->w'.heap[b]?=w.heap[b]?:=by
 have e:∀ b,c b->w'.heap[b]?=w.heap[b]?:=fun b a=>k.block b (d.lt a) (d b a).1;refine⟨fun b a=>?_,e⟩
 obtain⟨j,f,l,i,g⟩:=d b a;exact⟨j,f,l,i,(e b a).trans g⟩
theorem pX.below {w w':World}{G a:NP}(c:pX w G a)(d:B7 w w'):pX w' G a/\∀ b,a b->w'.heap[b]?=w.heap[b]?:=c.kept (ae.of_below d)
theorem pX.well {w w':World}{G d c:NP}(f:pX w G c)(o:ae G w w')(n:∀ b,d b->G b\/w.heap.size<=b\/iH w b):pX w' d c/\∀ b,c b->w'.heap[b]?=w.heap[b]?:=by
 obtain⟨k,q⟩:=f.kept o;refine⟨fun b g=>⟨fun m=>?_,(k b g).2⟩,q⟩
 obtain⟨l,i,p,j,e⟩:=f b g;have r:=am e;rcases n b m with a | a | a
 ·exact l a
 ·omega
 ·exact a i p j e
theorem qU {w:World}{base e j:Nat}{v:Value}{n:Nat}{k:List Value}(d:w.ownsRow base e j v n k){g:Nat}(a:v.ownBlock=some g):∃ c b,w.heap[g]?=some (.cells c e b):=by
 rcases d.2 with ⟨rfl,rfl⟩ | ⟨o,l,m,i,_,f,_⟩
 ·simp [Value.ownBlock] at a
 ·rw [i] at a;simp [Value.ownBlock] at a;subst a;exact⟨_,_,f⟩
theorem jfC {w:World}{G:NP}{g d base f:Nat}{e:Value}{B:Bk}{p:Nat}{q:Bool}{l m u:Value}{v:Rq}{x y blk least:Int}{c:Array Value}{t:TypeId}{i:Nat×Nat}(r:w.heap[g]?=some (fO q p d l m v x y u blk least))(j:an w d base e B)(s:w.heap[f]?=some (.cells c t i))(o:∀ b,RP g d e b\/b=f->¬G b):pX w G (fun b=>RP g d e b\/b=f):=fun b k=>by
 refine⟨o b k,?_⟩
 rcases k with (a | a | a) | a
 ·rw [a];exact⟨_,_,_,r⟩
 ·rw [a];exact⟨_,_,_,j.hb⟩
 ·obtain⟨z,i,n⟩:=qU j.ho a;exact⟨_,_,_,n⟩
 ·rw [a];exact⟨_,_,_,s⟩
theorem op_q {w w':World}{G a:NP}{d:Nat}{C:Value->Array Value}{i:Nat}{v:Value}{p:Nat->Nat}(g:OpI w d C i v p w')(e:pX w G a)(q:a d):pX w' G a/\∀ b,a b->b≠d->w'.heap[b]?=w.heap[b]?:=by
 have j:∀ b,a b->b≠d->w'.heap[b]?=w.heap[b]?:=fun b c n=>g.keep.block b (e.lt c) n;refine⟨fun b c=>⟨(e b c).1,?_⟩,j⟩
 by_cases f:b=d
 ·rw [f];exact⟨_,_,_,g.blk⟩
 ·obtain⟨_,k,o,m,l⟩:=e b c;exact⟨k,o,m,(j b c f).trans l⟩
theorem jch {w w':World}{e b:Nat}{blk:Int}{D:Dx}{L:Ld}{B:Nat}{G:NP}{C:Value->Array Value}{i:Nat}{v:Value}{j:Nat->Nat}(a:OpI w e C i v j w')(H:bx w b blk D L B G)(g:¬G e):bx w' b blk D L B G:=
 H.quiet a.keep.size (fun d c=>a.keep.block d (H.lt d c) (fun f=>g (f▸c)))
theorem bQ.keepG {w0 w:World}{d:Nat}{blk:Int}{D:Dx}{L:Ld}{B:Nat}{G:NP}(a:bQ w0 w d blk D L B G):ae G w0 w:=by
 obtain⟨i,e,b,q,g,r,nb,j,k,l,m,n,o,p,c⟩:=a;exact c.mono (fun f a _=>a.elim (fun a=>a▸b.1) (fun a=>a▸b.2.1))
def Far (a:World)(G:NP)(j d:Nat)(g:Value)(c b:Nat):Prop:=b<a.heap.size/\¬G b/\¬RP j d g b/\(b<c\/∃ e i f,a.heap[b]?=some (.cells e i f))
structure Fr (W a:World)(G Ga:NP)(wb bb:Nat)(lv:Value)(Bh:Nat):Prop where
 os:a.os=W.os
 tape:a.tape=W.tape
 output:a.output=W.output
 size:W.heap.size<=a.heap.size
 un:∀ b,Far W G wb bb lv Bh b->a.heap[b]?=W.heap[b]?/\¬Ga b
theorem Fr.start {a:World}{G:NP}{f c:Nat}{e:Value}{b:Nat}:Fr a a G G f c e b:=⟨rfl,rfl,rfl,lz,fun _ d=>⟨rfl,d.2.1⟩⟩
theorem Fr.step {l a c:World}{G i j:NP}{o m:Nat}{n:Value}{g:Nat}(e:Fr l a G i o m n g)(k:ae (fun b=>i b\/RP o m n b\/l.heap.size<=b) a c)(x:∀ b,j b->i b\/a.heap.size<=b\/iH a b)(y:∀ b,j b->g<=b):Fr l c G j o m n g:=by
 have C:=e.size;refine⟨k.os.trans e.os,k.tape.trans e.tape,k.output.trans e.output,lq e.size k.size,fun b q=>?_⟩
 obtain⟨r,s⟩:=e.un b q;obtain⟨A,B,v,p⟩:=q;refine⟨(k.block b (by omega) (fun d=>?_)).trans r,fun d=>?_⟩
 ·rcases d with d | d | d
  ·exact s d
  ·exact v d
  ·omega
 ·rcases x b d with f | f | f
  ·exact s f
  ·omega
  ·rcases p with p | ⟨t,z,w,u⟩
   ·have:=y b d;omega
   ·exact f t z w (r.trans u)
def sobj (a b c d e f:Value)(left g i j:Int):Obj:=.cells #[a,b,c,d,e,f,.int .i64 left,.int .i64 g,.int .i64 i,.int .i64 j] 69
def ja9 (i:World)(l o g base:Nat)(q:Value)(blk least:Int)(r:Rq)(s t:Int)(n:Nat)(G:NP)(e:Ending)(w':World):Prop:=e=.returned (.bool true)/\∃ (b:Ld) (d:NP) (k p:Value) (c:Nat->Nat) (m:Bk),bx w' o blk ⟨b.time,true⟩ b n d/\b.adm=0/\an w' g base p m/\gT b.time b m/\least<=b.time/\w'.heap[l]?=some (fO false o g k (.bool false) r s t (.int .u64 0) blk least)/\(w'.ownsRow i.heap.size 101 1 k 3 (ge c 3)/\(∀ a,a<3->w'.heap[c a]?=some (uH)/\i.heap.size<=c a/\¬d (c a))/\(∀ a j,a<3->j<3->c a=c j->a=j)/\∀ f,k.ownBlock=some f->¬d f)/\(∀ f,RP l g p f->¬d f)/\Fr i w' G d l g q n
theorem jfJ {g d:Nat}{e f:Value}{n:Nat}(c:∀ b,f.ownBlock=some b->e.ownBlock=some b\/n<=b){b:Nat}(i:RP g d f b):RP g d e b\/n<=b:=by
 rcases i with a | a | a
 ·exact il (il a)
 ·exact il (ir (il a))
 ·exact (c b a).imp (fun c=>ir (ir c)) id
theorem vh (ev dn:Bool)(w0 n:World)(d o g base:Nat)(q:Value)(B:Bk)(blk least:Int)(S:Xs)(b4:Bool)(l:Nat)(G:NP)(R cU dl bs bu bv bw bz bF:Value)(M:Rq)(N O left K z t:Int)(dm:-9223372036854775808<=t)(ds:t<=9223372036854775807)
  (Y:bp t 2=if ev then 0 else 1) (ht:ev=true->dn=true) (c3:UX dn w0 n o blk S l G) (i3:l<=w0.heap.size) (i5:l<=n.heap.size) (hr:base<=n.heap.size) (ct:n.heap[d]?=some (fO b4 o g R cU M N O dl blk least)) (b3:an n g base q B) (hn:gT S.D.t S.L B) (hu:b4=S.ill.isSome/\HgOk S.ill M N O) (k8:least<=S.D.t) (hs:0<=blk) (eN:pX n G (RP d g q)) (e0:n.cell? ⟨0,0,none⟩=some (.iface 236 (.agg #[.pointer (some ⟨5,97,none⟩)]))) (i8:0<l/\¬G 0) :
  Calls prog 26 #[pO d 0,.agg #[bs,bu,bv,bw,bz,bF,.int .i64 left,.int .i64 K,.int .i64 z,.int .i64 t]] n fun e w'=>ja9 n d o g base q blk least M N O l G e w':=by
 have j8:d≠g:=fun e=>by
  have C:=b3.hb;rw [<-e,ct] at C;simp [fO] at C
 have c7:g≠d:=fun e=>j8 e.symm;have h4:Hid (∀ a,q.ownBlock=some a->a≠d/\a≠g):=aa (fun a s=>⟨ax b3.ho s ct (by decide),ax b3.ho s b3.hb (by decide)⟩);have gl:Hid (∀ a,RP d g q a->a<n.heap.size):=aa (fun a s=>eN.lt s);have d4:=aa (fun Z=>pH t 2 Z (by omega) (by omega) dm ds);obtain⟨hD,hy⟩:∃ hD,hD=bp t 2:=⟨_,rfl⟩;rw [<-hy] at d4 Y;obtain⟨r,c4⟩:∃ r,r=n.alloc (sobj bs bu bv bw bz bF left K z t):=⟨_,rfl⟩;obtain⟨j,c9⟩:∃ j,j=n.heap.size:=⟨_,rfl⟩;have dv:r.heap[j]?=some (sobj bs bu bv bw bz bF left K z t):=by rw [c4,c9];exact af _ _
 have bg:B7 n r:=c4▸ba n;have ho:=c3.below bg;obtain⟨hl,fb⟩:=eN.below bg;have j5:¬G j:=fun c=>by
  have:=(c3.lt c).2;omega
 have hf:pX r G (fun a=>RP d g q a\/a=j):=fun a s=>by
  rcases s with c | c
  ·exact hl a c
  ·rw [c];exact⟨j5,_,_,_,dv⟩
 have fm:=(fb d (il rfl)).trans ct;have hT:an r g base q B:=b3.kept (fun i f=>fb i (ir f));have j3:=bT e0;have hU:=(bg.cell (p:=⟨0,0,none⟩) j3).trans e0;have ei:=aa ho;have d5:=aa hf;have em:=aa fm;have im:=aa ct;have gF:=aa hT;have el:=aa dv;have ii:=aa hU;have k3:=aa bg;have e2:∀ a,G a->l<=a:=fun a s=>(c3.lt s).1;have h3:=aa e2;have h0:Hid (Fr n r G G d g q l):=aa (Fr.start.step (ae.of_below bg) (fun a c=>il c) e2);have eb:=aa hn;have f5:=aa hu;have hd:l<=r.heap.size:=lq i5 bg.size;have bo:Hid (∀ Z:World,Z.heap[j]?=some (sobj bs bu bv bw bz bF left K z t)->Z.heap[j]?=some (.cells #[bs,bu,bv,bw,bz,bF,.int .i64 left,.int .i64 K,.int .i64 z,.int .i64 t] 69)):=aa (fun Z c=>c);have u:Hid (∀ (Z:World) (b0:Bool) (R cU dl:Value) (g7:Int),Z.heap[d]?=some (fO b0 o g R cU M N O dl g7 least)->Z.heap[d]?=some (Ol o g R g7 cU b0 M N O least dl)):=aa (fun Z _ _ _ _ _ c=>c);have i0:=ab (bo.out r dv);have eq:=ab (u.out r _ _ _ _ _ fm);clear ho hl fb hf fm hT dv hU bg hn c3 eN ct b3 e0 hy e2 hu;go_enter func26,ntmps26
 go_upto_region 2 with fail
 rw [show n.alloc (.cells #[bs,bu,bv,bw,bz,bF,.int .i64 left,.int .i64 K,.int .i64 z,.int .i64 t] 69)=r from c4.symm,<-c9];have gq:=aa c9;clear c4 c9;go_cut [13] (fun kj H=>kj=.bool ev/\H=r)
 case first=>
  go_wp2_with fail
  refine (d4.out _).mono ?_
  rintro e kp ⟨rfl,cs⟩;rw [cs];clear cs;cases ev with
  | false=>
   rw [if_neg (by simp)] at Y;rw [Y];go_wp2_with fail
   go_meet
   exact⟨rfl,rfl⟩
  | true=>
   rw [if_pos rfl] at Y;rw [Y];go_wp2_with fail
   go_meet
   exact⟨rfl,rfl⟩
 case rest=>
 obtain⟨rfl,hcut⟩:=hcut;rw [hcut];clear hcut;go_upto_if 13 with fail
 go_cut [5] (fun bj H=>∃ bb:Int,bj=.int .i64 bb/\(bb=0\/(bb=4\/bb=5)/\¬(left<0/\K<0))/\UX dn w0 H o blk S l G/\ae G r H)
 case first=>
  cases ev with
  | false=>
   go_wp2_with fail
   go_meet
   exact⟨0,rfl,il rfl,ei.out,ae.refl _ r⟩
  | true=>
   obtain rfl:=ht rfl;obtain⟨dN,V,cq,cr⟩:=(ei.out:∃ b8 V,bQ w0 r o blk b8 V l G/\DnX blk S b8 V);have dR:=aa cr;have hX:=aa (jbJ (iO cq (Below.refl _ r).drew) left K z t dm ds ii.out i8.1);clear cq cr;go_upto_region 3 with fail
   have bk:Hid (∀ m:World,ae G r.drew m->m.cell? ⟨d,0,none⟩=some (.pointer (some ⟨o,0,none⟩))/\m.cell? ⟨j,6,none⟩=some (.int .i64 left)/\m.cell? ⟨j,7,none⟩=some (.int .i64 K)/\m.cell? ⟨j,8,none⟩=some (.int .i64 z)/\m.cell? ⟨j,9,none⟩=some (.int .i64 t)):=aa (fun m f=>by
     have k:=(d5.out.kept ((ae.of_below (Below.refl _ r).drew).trans f)).2;have Q:=ab (bo.out m ((k j (ir rfl)).trans el.out));have R:=ab (u.out m _ _ _ _ _ ((k d (il (il rfl))).trans em.out));exact⟨(R 0).trans rfl,(Q 6).trans rfl,(Q 7).trans rfl,(Q 8).trans rfl,(Q 9).trans rfl⟩)
   go_region_held3 (fun w'=>w'.cell? ⟨d,0,none⟩=some (.pointer (some ⟨o,0,none⟩))/\w'.cell? ⟨j,6,none⟩=some (.int .i64 left)/\w'.cell? ⟨j,7,none⟩=some (.int .i64 K)/\w'.cell? ⟨j,8,none⟩=some (.int .i64 z)/\w'.cell? ⟨j,9,none⟩=some (.int .i64 t)) (first | go_keep | (exact cp))
    (first | (go_at_call 20;refine hX.out.mono ?_;rintro e m ⟨bb,rfl,c8,av,f⟩;have cp:=bk.out m f))
   all_goals (go_wp2_with fail;go_meet)
   all_goals exact⟨bb,rfl,c8,⟨dN,V,av,dR.out⟩,(ae.of_below (Below.refl _ r).drew).trans f⟩
 case rest=>
  obtain⟨bb,rfl,c8,hM,e3⟩:=hcut;obtain⟨a5,rfl⟩:∃ a5,a5=wc:=⟨_,rfl⟩;obtain⟨hg,k⟩:=d5.out.kept e3;have e7:=(k j (ir rfl)).trans el.out;have fd:=(k d (il (il rfl))).trans em.out;have g0:an a5 g base q B:=gF.out.kept (fun i f=>k i (il (ir f)));have eg:=aa hM;have d6:=aa hg;have ef:=aa e7;have ej:=aa fd;have fn:=aa g0;have f8:=aa e3;have kv:=ab (bo.out a5 e7);have kw:=ab (u.out a5 _ _ _ _ _ fd);clear hM e3 hg k e7 fd g0 i0 eq ei d5 em gF el;go_upto_region 4 with fail
  go_cut [50] (fun kk H=>kk=.bool false/\H=a5)
  case first=>
   rcases c8 with rfl | ⟨j0,hw⟩
   ·go_wp2_with (go_quiet (fail))
    go_meet
    exact⟨rfl,rfl⟩
   ·rcases j0 with rfl | rfl
    ·by_cases e1:left<0
     ·have j1:¬K<0:=fun c=>hw ⟨e1,c⟩;go_wp2_with (go_quiet (fail))
      go_meet
      exact⟨rfl,rfl⟩
     ·go_wp2_with (go_quiet (fail))
      go_meet
      exact⟨rfl,rfl⟩
    ·by_cases e1:left<0
     ·have j1:¬K<0:=fun c=>hw ⟨e1,c⟩;go_wp2_with (go_quiet (fail))
      go_meet
      exact⟨rfl,rfl⟩
     ·go_wp2_with (go_quiet (fail))
      go_meet
      exact⟨rfl,rfl⟩
  case rest=>
   obtain⟨rfl,hcut⟩:=hcut;rw [hcut];clear hcut;obtain⟨W,rfl⟩:∃ W,W=a5:=⟨_,rfl⟩;clear c8;go_upto_region 6 with fail
   go_cut [54] (fun kl H=>kl=.bool ev/\H=W)
   case first=>
    go_wp2_with fail
    refine (d4.out _).mono ?_
    rintro e kp ⟨rfl,cs⟩;rw [cs];clear cs;cases ev with
    | false=>
     rw [if_neg (by simp)] at Y;rw [Y];go_wp2_with fail
     go_meet
     exact⟨rfl,rfl⟩
    | true=>
     rw [if_pos rfl] at Y;rw [Y];go_wp2_with fail
     go_meet
     exact⟨rfl,rfl⟩
   case rest=>
   obtain⟨rfl,hcut⟩:=hcut;rw [hcut];clear hcut;go_upto_if 54 with fail
   go_cut [] (fun H=>UX dn w0 H o blk S l G/\ae G W H)
   case first=>
    cases ev with
    | false=>
     go_wp2_with fail
     go_meet
     exact⟨eg.out,ae.refl _ _⟩
    | true=>
     obtain rfl:=ht rfl;obtain⟨dN,V,cq,cr⟩:=(eg.out:∃ b8 V,bQ w0 W o blk b8 V l G/\DnX blk S b8 V);have dR:=aa cr;have cz:=aa (jbI (iO cq (Below.refl _ W).drew) z t dm ds);clear cq cr;go_upto_region 7 with fail
     have bk:Hid (∀ m:World,ae G W.drew m->m.cell? ⟨d,0,none⟩=some (.pointer (some ⟨o,0,none⟩))/\m.cell? ⟨j,8,none⟩=some (.int .i64 z)/\m.cell? ⟨j,9,none⟩=some (.int .i64 t)):=aa (fun m f=>by
       have k:=(d6.out.kept ((ae.of_below (Below.refl _ W).drew).trans f)).2;have Q:=ab (bo.out m ((k j (ir rfl)).trans ef.out));have R:=ab (u.out m _ _ _ _ _ ((k d (il (il rfl))).trans ej.out));exact⟨(R 0).trans rfl,(Q 8).trans rfl,(Q 9).trans rfl⟩)
     go_region_held3 (fun w'=>w'.cell? ⟨d,0,none⟩=some (.pointer (some ⟨o,0,none⟩))/\w'.cell? ⟨j,8,none⟩=some (.int .i64 z)/\w'.cell? ⟨j,9,none⟩=some (.int .i64 t)) (first | go_keep | (exact cp))
      (first | (go_at_call 25;refine cz.out.mono ?_;rintro e m ⟨rfl,av,f⟩;have cp:=bk.out m f))
     all_goals (go_wp2_with fail;go_meet)
     all_goals exact⟨⟨dN,V,av,dR.out⟩,(ae.of_below (Below.refl _ W).drew).trans f⟩
   case rest=>
    obtain⟨hN,e4⟩:=hcut;obtain⟨a7,rfl⟩:∃ a7,a7=wc:=⟨_,rfl⟩;obtain⟨hh,k⟩:=d6.out.kept e4;have hJ:=(k j (ir rfl)).trans ef.out;have ff:=(k d (il (il rfl))).trans ej.out;have g2:an a7 g base q B:=fn.out.kept (fun i f=>k i (il (ir f)));have cF:Hid (ae G r a7):=aa (f8.out.trans e4);have f0:Hid (Fr n a7 G G d g q l):=aa (h0.out.step (cF.out.mono (fun a c _=>il c)) (fun a c=>il c) h3.out);have i6:l<=a7.heap.size:=lq hd cF.out.size;have cc:=aa (jeK hN eb.out.lok i3 i6);have gc:=aa hh;have go:=aa hJ;have gs:=aa ff;have fo:=aa g2;have kK:=ab (u.out a7 _ _ _ _ _ ff);clear hN e4 hh k hJ ff g2 kv kw d6 ef ej fn f8 eg;go_wp2_with fail
    refine cc.out.mono ?_
    rintro e ch ⟨I,cy,rfl,b2,hF,dd,es⟩;obtain⟨hi,k⟩:=gc.out.well dd es;have hK:=(k j (ir rfl)).trans go.out;have hQ:=(k d (il (il rfl))).trans gs.out;have g3:an ch g base q B:=fo.out.kept (fun i f=>k i (il (ir f)));have f9:Hid (ae G r ch):=aa (cF.out.trans dd);have hx:=b2.lok;have b9:=aa (tj d _ _ _ _ _ _ _ _ _ _ _ _ _ _ _ _ _ _ _ _ _ _ _ ch (u.out ch _ _ _ _ _ hQ));have f6:=aa b2;have h7:=aa hF;have d7:=aa hi;have gp:=aa hK;have fr:=aa g3;have d3:=aa hx;have d0:Hid (Fr n ch G cy d g q l):=aa (f0.out.step (dd.mono (fun a c _=>il c)) es (fun a c=>b2.lo a c));clear b2 hF dd es f0 hi k hK hQ g3 hx kK cc gc go gs fo cF;go_wp2_with fail
    refine b9.out.mono ?_
    rintro e a8 ⟨rfl,hO,lb,a3⟩;obtain⟨hj,k⟩:=op_q a3 d7.out (il (il rfl));have eF:∀ a,RP d g q a->¬cy a:=fun a s=>(d7.out a (il s)).1;have bd:=jch a3 f6.out (eF d (il rfl));have hR:a8.heap[d]?=some (fO b4 o g hO (.bool false) M N O (.int .u64 0) blk least):=a3.blk;have e8:=(k j (ir rfl) (fun e=>by have:=am im.out;have:=gq.out;omega)).trans gp.out;have g4:an a8 g base q B:=fr.out.kept (fun i f=>k i (il (ir f)) (by
      rcases f with c | c
      · rw [c];exact c7
      · exact (h4.out i c).1))
    have hb:l<=a8.heap.size:=lq hd (lq f9.out.size a3.keep.size);obtain⟨⟨kd,la,hH⟩,gN,eV,eX⟩:=h7.out.use eb.out d3.out f5.out.2 hs;rw [<-f5.out.1] at eV;have k4:j<a8.heap.size:=am e8;have hp:n.heap.size<=a8.heap.size:=lq d0.out.size a3.keep.size;have a2:=aa (jR b4 d o g base q B gN blk blk least ⟨I.time,true⟩ I l cy hO (.bool false) (.int .u64 0) M N O a8 d3.out.time.1 bd hb hR g4 eb.out.bok eF (lq hr hp) kd (by omega) hs eV);obtain⟨x,eD⟩:∃ x:Bk,x=⟨I.time,bZ I.time I.ks gN.ls⟩:=⟨_,rfl⟩;rw [<-eD] at a2 eX;have bl:=aa eX;have hW:=aa eD;clear eV eX eD;have cG:=aa e8;have d8:=aa hj;have f1:Hid (Fr n a8 G cy d g q l):=aa (d0.out.step (a3.keep.mono (fun a c _=>ir (il (il c)))) (fun a c=>il c) (fun a c=>bd.lo a c));clear a3 k bd hR e8 g4 hj d7 gp fr b9 f6 f9 d0;go_wp2_with fail
    refine a2.out.mono ?_
    rintro e E ⟨rfl,L,⟨a1,ez,df,et,hE⟩,bK,hC,b7⟩;have h6:Hid (∀ a,L.ownBlock=some a->q.ownBlock=some a\/n.heap.size<=a):=aa (fun a c=>(hC a c).imp id (fun c=>lq hp c));have gb:Hid (∀ a,L.ownBlock=some a->a≠d/\a≠g):=aa (fun a s=>⟨ax bK.ho s b7 (by decide),ax bK.ho s bK.hb (by decide)⟩);have j7:¬RP d g q j:=fun c=>by have:=gl.out j c;have:=gq.out;omega
    have bj:=(df.block j (am cG.out) (fun c=>c.elim (d8.out j (ir rfl)).1 j7)).trans cG.out;have he:∀ a,RP d g L a\/a=j->¬a1 a:=fun a s eE=>by
     rcases s with c | c
     ·exact hE a c eE
     ·rw [c] at eE;rcases et j eE with g9 | g9
      ·exact (d8.out j (ir rfl)).1 g9
      ·have:=am cG.out;omega
    have eQ:=jfC b7 bK bj he;have f2:Hid (Fr n E G a1 d g q l):=aa (f1.out.step (df.mono (fun a c _=>c.imp id il)) (fun a c=>(et a c).imp id il) (fun a c=>ez.lo a c));have hc:l<=E.heap.size:=lq hb df.size;have cz:=aa (jdF o blk ⟨I.time,true⟩ I l a1 z t E.drew (bx.up (w:=E.drew) (ez.quiet lz (fun _ _=>rfl))) dm ds);have bk:Hid (∀ m:World,bQ E.drew m o blk ⟨I.time,true⟩ I l a1->m.cell? ⟨d,0,none⟩=some (.pointer (some ⟨o,0,none⟩))/\m.cell? ⟨j,8,none⟩=some (.int .i64 z)/\m.cell? ⟨j,9,none⟩=some (.int .i64 t)):=aa (fun m av=>by
      have k:=(eQ.kept ((ae.of_below (Below.refl _ E).drew).trans av.keepG)).2;have Q:=ab (bo.out m ((k j (ir rfl)).trans bj));have R:=ab (u.out m _ _ _ _ _ ((k d (il (il rfl))).trans b7));exact⟨(R 0).trans rfl,(Q 8).trans rfl,(Q 9).trans rfl⟩)
    have gd:=aa eQ;have h9:=aa bj;have gt:=aa b7;have fs:=aa bK;have kY:=ab (u.out E _ _ _ _ _ b7);have ks:=ab (bo.out E bj);clear ez df et hE bK hC b7 bj eQ he eF a2 cG d8 f1;go_upto_region 15 with fail
    go_cut [] (fun H=>bQ E.drew H o blk ⟨I.time,true⟩ I l a1)
    case first=>
     go_region_held3 (fun w'=>w'.cell? ⟨d,0,none⟩=some (.pointer (some ⟨o,0,none⟩))/\w'.cell? ⟨j,8,none⟩=some (.int .i64 z)/\w'.cell? ⟨j,9,none⟩=some (.int .i64 t)) (first | go_keep | (exact cp))
      (first | (go_at_call 25;refine cz.out.mono ?_;rintro e m ⟨rfl,av⟩;have cp:=bk.out m av))
     all_goals (go_wp2_with fail;go_meet)
     all_goals exact av
    case rest=>
     obtain⟨ao,rfl⟩:∃ ao,ao=wc:=⟨_,rfl⟩;have cV:=hcut;have di:ae a1 E ao:=(ae.of_below (Below.refl _ E).drew).trans cV.keepG;obtain⟨hk,k⟩:=gd.out.kept di;have fi:=(k d (il (il rfl))).trans gt.out;have g5:an ao g base L x:=fs.out.kept (fun i f=>k i (il (ir f)));have cc:=aa (vA (w0:=E.drew) (w:=ao) cV d3.out (show l<=E.drew.heap.size from hc));have f3:Hid (Fr n ao G a1 d g q l):=aa (f2.out.step (di.mono (fun a c _=>il c)) (fun a c=>il c) (fun a c=>by
       obtain⟨k5,k2,k6,j4,_⟩:=cV;exact (j4 a c).1))
     have gg:=aa hk;have gv:=aa fi;have fv:=aa g5;have i7:l<=ao.heap.size:=lq hc di.size;have kZ:=ab (u.out ao _ _ _ _ _ fi);clear hcut cV di hk k fi g5 kY ks cz bk gd h9 gt fs f2;go_wp2_with fail
     refine cc.out.mono ?_
     rintro e F ⟨J,ad,rfl,eA,hG,dk,ey⟩;obtain rfl:J=I:=by rw [hG.same,<-hH]
     obtain⟨eS,k⟩:=gg.out.well dk ey;have hS:=(k d (il (il rfl))).trans gv.out;have g6:an F g base L x:=fv.out.kept (fun i f=>k i (il (ir f)));have d1:Hid (Fr n F G ad d g q l):=aa (f3.out.step (dk.mono (fun a c _=>il c)) ey (fun a c=>eA.lo a c));have b9:=aa (tj d _ _ _ _ _ _ _ _ _ _ _ _ _ _ _ _ _ _ _ _ _ _ _ F (u.out F _ _ _ _ _ hS));have f7:=aa eA;have d9:=aa eS;have h8:Hid (∀ a,RP d g L a->a<F.heap.size):=aa (fun a c=>eS.lt (il c));have fz:=aa g6;have j6:=dk.size;clear eA hG dk ey eS k hS g6 kZ cc gg gv fv f3;go_wp2_with fail
     refine b9.out.mono ?_
     rintro e A ⟨rfl,cw,ko,a4⟩;obtain⟨i9,k⟩:=op_q a4 d9.out (il (il rfl));have eL:∀ a,RP d g L a->¬ad a:=fun a s=>(d9.out a (il s)).1;have eB:=jch a4 f7.out (eL d (il rfl));have fl:A.heap[d]?=some (fO false o g cw (.bool false) M N O (.int .u64 0) blk least):=a4.blk;have en:an A g base L x:=fz.out.kept (fun i f=>k i (il (ir f)) (by
       rcases f with c | c
       · rw [c];exact c7
       · exact (gb.out i c).1))
     have f4:Hid (Fr n A G ad d g q l):=aa (d1.out.step (a4.keep.mono (fun a c _=>ir (il (il c)))) (fun a c=>il c) (fun a c=>eB.lo a c));have hv:x.ls.length<=12:=bl.out.bok.len;have fN:=aa (jp g base L x A en hv);have h2:=aa a4;have d2:=aa eB;have ek:=aa fl;have fD:=aa en;have hA:=a4.keep.size;have hq:n.heap.size<=F.heap.size:=d1.out.size;have k0:=ab (u.out A _ _ _ _ _ fl);clear a4 k eB fl en i9 b9 d9 fz d1;go_wp2_with fail
     refine fN.out.mono ?_
     rintro e a9 ⟨eo,hB,rfl,cn,k7,P⟩;have dt:=(P.block d (am ek.out)).trans ek.out;have cR:=fD.out.below P lz;have c2:bx a9 o blk ⟨J.time,true⟩ J l ad:=d2.out.quiet P.size (fun i f=>P.block i (d2.out.lt i f));obtain⟨v,c5⟩:∃ v,v=a9.setCell ⟨d,3,none⟩ (.int .u64 0):=⟨_,rfl⟩;have U:ae (fun a=>a=d) a9 v:=c5▸ae.set (S:=fun a=>a=d) (b:=d) (ae.refl _ a9) (il rfl) _ _;have hP:v.heap[d]?=some (fO false o g cw (.bool false) M N O (.int .u64 0) 0 least):=by
      rw [c5];simpa [fO] using ai (u.out a9 _ _ _ _ _ dt) 3 (.int .u64 0)
     have c0:bx v o blk ⟨J.time,true⟩ J l ad:=c2.quiet U.size (fun i f=>U.block i (c2.lt i f) (fun e=>eL d (il rfl) (e▸f)));have g1:an v g base L x:=cR.kept (fun i f=>U.block i (by
       rcases f with c | c
       · rw [c];exact am cR.hb
       · exact (aj cR.ho c).2) (by
       rcases f with c | c
       · rw [c];exact c7
       · exact (gb.out i c).1))
     have k9:d<n.heap.size:=gl.out d (il rfl);have gR:an v eo A.heap.size hB x:=cn.kept (fun i f=>U.block i (by
       rcases f with c | c
       · rw [c];exact am cn.hb
       · exact (aj cn.ho c).2) (by
       rcases f with c | c
       · omega
       · have:=(aj cn.ho c).1;omega))
     have i4:l<=v.heap.size:=lq i7 (lq j6 (lq hA (lq P.size U.size)));obtain⟨jb,i2⟩:=jaF M N O bl.out hW.out;have js:base<=v.heap.size:=lq hr (lq hq (lq hA (lq P.size U.size)));have a2:=aa (jR false d o g base L x x 0 blk least ⟨J.time,true⟩ J l ad cw (.bool false) (.int .u64 0) M N O v bl.out.lok.time.1 c0 i4 hP g1 bl.out.bok eL js (by have:=bl.out.time;omega) (by omega) (Int.le_refl _) jb);rw [i2] at a2;have fU:Hid (Fr n v G ad d g q l):=aa ((f4.out.step (ae.of_below P) (fun a c=>il c) (fun a c=>c2.lo a c)).step (U.mono (fun a c _=>ir (il (il c)))) (fun a c=>il c) (fun a c=>c0.lo a c));have gr:Hid (∀ a,F.heap.size<=a->a<A.heap.size->v.heap[a]?=A.heap[a]?):=aa (fun a C D=>(U.block a (ll D P.size) (fun e=>by omega)).trans (P.block a D));have cb:=aa gR;have h1:=aa c0;have hz:A.heap.size<=v.heap.size:=lq P.size U.size;have k1:=ab (u.out a9 _ _ _ _ _ dt);have kt:=ag (u.out a9 _ _ _ _ _ dt);clear dt cR c2 U hP c0 g1 gR cn P k0 fN ek fD f4 d2;go_upto_region 23 with fail
     rw [<-c5];clear c5 k1 kt;go_wp2_with fail
     refine a2.out.mono ?_
     rintro e a6 ⟨rfl,e6,⟨a0,c1,db,er,cv⟩,ci,kb,cx⟩;have h5:Hid (∀ a,e6.ownBlock=some a->a≠d):=aa (fun a s=>ax ci.ho s cx (by decide));have hm:∀ a,RP d g L a->a<F.heap.size:=h8.out;have e5:∀ a,ad a->a<F.heap.size:=fun a c=>f7.out.lt a c;have X:∀ a,F.heap.size<=a->a<v.heap.size->a6.heap[a]?=v.heap[a]?/\¬a0 a:=fun a C D=>⟨db.block a D (fun c=>by
       rcases c with c | c
       · have:=e5 a c;omega
       · have:=hm a c;omega),fun c=>by
       rcases er a c with c | c
       · have:=e5 a c;omega
       · omega⟩
     obtain⟨y,c6⟩:∃ y,y=a6.setCell ⟨d,3,none⟩ (.int .u64 blk):=⟨_,rfl⟩;have b5:ae (fun a=>a=d) a6 y:=c6▸ae.set (S:=fun a=>a=d) (b:=d) (ae.refl _ a6) (il rfl) _ _;have b6:y.heap[d]?=some (fO false o g cw (.bool false) M N O (.int .u64 0) blk least):=by
      rw [c6];simpa [fO] using ai (u.out a6 _ _ _ _ _ cx) 3 (.int .u64 blk)
     have b1:bx y o blk ⟨J.time,true⟩ J l a0:=c1.quiet b5.size (fun i f=>b5.block i (c1.lt i f) (fun e=>cv d (il rfl) (e▸f)));have ck:an y g base e6 x:=ci.kept (fun i f=>b5.block i (by
       rcases f with c | c
       · rw [c];exact am ci.hb
       · exact (aj ci.ho c).2) (by
       rcases f with c | c
       · rw [c];exact c7
       · exact h5.out i c))
     have cX:∀ a,F.heap.size<=a->a<v.heap.size->y.heap[a]?=v.heap[a]?/\¬a0 a:=fun a C D=>⟨(b5.block a (ll D db.size) (fun e=>by omega)).trans (X a C D).1,(X a C D).2⟩;have gV:an y eo A.heap.size hB x:=cb.out.kept (fun i f=>(cX i (by
       rcases f with c | c
       · omega
       · have:=(aj cb.out.ho c).1;omega) (by
       rcases f with c | c
       · rw [c];exact am cb.out.hb
       · exact (aj cb.out.ho c).2)).1)
     have ih:=aa (jaV eo g _ _ _ _ x y gV ck hv);have fV:Hid (Fr n y G a0 d g q l):=aa ((fU.out.step (db.mono (fun a c _=>c.imp id (fun c=>jfJ h6.out c))) (fun a c=>(er a c).imp id il) (fun a c=>c1.lo a c)).step (b5.mono (fun a c _=>ir (il (il c)))) (fun a c=>il c) (fun a c=>b1.lo a c));have hZ:Hid (∀ a,F.heap.size<=a->a<A.heap.size->y.heap[a]?=A.heap[a]?/\¬a0 a):=aa (fun a C D=>⟨(cX a C (ll D hz)).1.trans (gr.out a C D),(cX a C (ll D hz)).2⟩);have hY:=aa (aN b1 (aN ck (aN b6 cv)));have kz:=ab (u.out a6 _ _ _ _ _ cx);have kq:=ag (u.out a6 _ _ _ _ _ cx);have iN:=ab (u.out y _ _ _ _ _ b6);clear c1 db er cv ci kb cx X hm b5 b6 b1 ck cX gV e5 a2 fU gr cb h1;go_upto_region 25 with fail
     rw [<-c6];clear c6 kz kq;go_wp2_with fail
     refine ih.out.mono ?_
     rintro e it ⟨rfl,T⟩;have hV:=aa T;clear T iN;go_wp2
     go_ret
     obtain⟨b1,ck,b6,cv⟩:=hY.out;have T:=hV.out;have X:=hZ.out;have ha:bx it o blk ⟨J.time,true⟩ J l a0:=b1.quiet T.size (fun i f=>T.block i (b1.lt i f));have cl:=h2.out;have hI:∀ a,a<A.heap.size->F.heap.size<=a->a<y.heap.size:=fun a C D=>by
      have:=fV.out.size;have b2:=(X a D C).1;rcases Nat.lt_or_ge a y.heap.size with bd | bd
      ·exact bd
      ·have eq:y.heap[a]?=none:=by simp [bd]
       have i1:A.heap[a]?≠none:=by simp [C]
       exact absurd (b2.symm.trans eq) i1
     refine⟨rfl,J,a0,cw,e6,ko,x,ha,hH,ck.below T lz,bl.out,by omega,(T.block d (am b6)).trans b6,⟨?_,fun ka j2=>?_,cl.inj,fun a s=>?_⟩,cv,fV.out.step (ae.of_below T) (fun a c=>il c) (fun a c=>ha.lo a c)⟩
     ·refine iY (aq cl.own (fun b0 b4=>?_)) hq
      have bi:=aj cl.own b4;exact (T.block b0 (hI b0 bi.2 bi.1)).trans (X b0 bi.1 bi.2).1
     ·obtain⟨hL,e9⟩:=cl.st ka j2;have fa:=am hL;exact⟨(T.block _ (hI _ fa e9)).trans ((X _ e9 fa).1.trans hL),by omega,(X _ e9 fa).2⟩
     ·have bi:=aj cl.own s;exact (X a bi.1 bi.2).2
theorem jb7 {w:World}{base m g d i kc:Nat}{blk:Int}{k:Nat->Nat}{j:Nat->Value}{f:Value}{sk:Bool}{S:Xs}{B:Bk}{c:Nat->Cn}{G:NP}(H:eK w base m g d i kc blk k j f sk S B c)(e:∀ b,LG g d i k j f c b->¬G b):pX w G (RP g d f):=fun b n=>by
 obtain⟨r,⟨s,t,u,o,_⟩,_⟩:=H.blk;rcases n with a | a | a
 ·exact⟨e b (il a),by rw [a];exact⟨_,_,_,o⟩⟩
 ·exact⟨e b (ir (il a)),by rw [a];exact⟨_,_,_,H.book.hb⟩⟩
 ·obtain⟨p,q,l⟩:=qU H.book.ho a;exact⟨e b (ir (ir (ir (il a)))),_,_,_,l⟩
theorem jeP {X w':World}{base k l j a0 kc:Nat}{blk least:Int}{a8:Nat->Nat}{a6:Nat->Value}{w:Value}{sk:Bool}{S:Xs}{B:Bk}{A:Nat->Cn}{G:NP}{q:Rq}{r s:Int}{e:Ending}(f:eK X base k l j a0 kc blk a8 a6 w sk S B A)(Y:∀ b,G b->base<=b)(y:ja9 X l k j base w blk least q r s base G e w'):e=.returned (.bool true)/\JX base blk k l w'/\Below base X w':=by
 obtain⟨W,i,a9,bv,a3,a7,z,K,M,N,n,O,P,⟨o,p,Q,L⟩,m,g⟩:=y;have U:=f.bs;have T:Below base X w':=⟨g.os,g.tape,g.output,g.size,fun b R=>(g.un b ⟨by omega,fun a=>by have:=Y b a;omega,fun a=>by
   rcases a with a | a | a
   · have:=f.lo.1;omega
   · have:=f.lo.2.1;omega
   · have:=(aj f.book.ho a).1;omega,il R⟩).1⟩
 refine⟨W,?_,T⟩
 obtain⟨v,nb,x,a5,t,F,a4,D,Z,u,rfl⟩:=K;obtain⟨a1,a2,ao,bi,bj⟩:=o.form (by decide);subst ao;obtain⟨bo,bs,bl,bd,V⟩:=aU.dsk (u.hs:aU v blk ⟨i.time,true⟩ (bu 0) w' 0 x i t);refine⟨v,nb,x,j,a1,a2,a5,a7,fun _=>.slice none 0 0,a3,false,⟨i,⟨i.time,true⟩,none,bu 0⟩,t,F,a4,D,fun _=>⟨[],false⟩,z,Z,fun _ _=>rfl,⟨u.x,⟨⟨least,⟨q,r,s,?_,(fun bz a=>by cases a)⟩,O⟩,N,n,Int.le_refl _,?_,fun d c=>(p d c).1,fun d c=>il ⟨rfl,il rfl⟩,Q,fun d c a=>absurd rfl a,⟨f.lo.1,f.lo.2.1,fun d c=>by have:=(p d c).2.1;omega⟩,fun d c=>⟨fun bw av=>(by cases av),by simp,fun _=>rfl⟩,lq U g.size⟩,fun b a=>?_,fun b a bk bg ad=>absurd rfl ad⟩,⟨⟨n.lok,n.lok.time.1⟩,fun a=>absurd rfl a,il rfl⟩,(ab V 5).trans rfl⟩
 ·show w'.heap[l]?=some (fO false k j _ (.bool false) q r s (.int .u64 i.adm) blk least);rw [M];exact P
 ·refine⟨o.1,?_⟩
  rcases o.2 with a | ⟨J,C,E,H,bb,I⟩
  ·exact il a
  ·exact ir ⟨J,C,E,H,by omega,I⟩
 ·rcases a with a | a | a | a | ⟨d,c,a⟩ | ⟨d,c,a,_⟩
  ·exact m b (il a)
  ·exact m b (ir (il a))
  ·exact L b (by rw [a];rfl)
  ·exact m b (ir (ir a))
  ·rw [a];exact (p d c).2.2
  ·exact absurd rfl a
theorem jgk (k:Int):bp k 2=0\/bp k 2=1:=by
 unfold bp;split <;> omega
theorem ag_c (base:Nat)(blk:Int)(B:0<=blk)(z:0<base):AgC base blk:=fun i F g c Z a C j=>by
 rcases a with ⟨E,n,Q,kc,U,S,t,T,e,G,I,m,J,l,x,y,d,o,W,O⟩ | ⟨⟨M,nb,Y,n,Q,kc,X,U,S,t,T,e,H,L,R,K,J,l,x,y,b,d,o⟩,P⟩
 ·obtain⟨s,⟨u,v,w,r,p⟩,q⟩:=d.blk;have A:UX true E g i blk e base m:=⟨G,I,x,o⟩;have D:∀ f,m f->base<=f:=fun f a=>(A.lt a).1;refine (vh (decide (bp c.part 2=0)) true E g F i n base t l blk s e e.ill.isSome base m _ _ _ _ _ _ _ _ _ u v w c.left c.full c.kept c.part j.part.1 j.part.2 ?_ (fun _=>rfl) A y d.bs d.bs r d.book d.sim ⟨rfl,p⟩ q B (jb7 d O) C ⟨z,fun a=>by have:=D _ a;omega⟩).mono ?_
  ·rcases jgk c.part with a | a <;> rw [a] <;> simp
  ·exact fun N V k=>jeP d D k
 ·obtain⟨s,⟨u,v,w,r,p⟩,q⟩:=b.law.blk;refine (vh false false g g F i n base t l blk s e e.ill.isSome base (HG i M H L R K) _ _ _ _ _ _ _ _ _ u v w c.left c.full c.kept c.part j.part.1 j.part.2 P (fun a=>by cases a) (b.host.up o) b.law.bs b.law.bs b.law.bs r b.law.book b.law.sim ⟨rfl,p⟩ q B (jb7 b.law b.dis) C ⟨z,fun a=>by have:=b.host.lo _ a;omega⟩).mono ?_
  exact fun N V k=>jeP b.law (fun f a=>b.host.lo f a) k
theorem gf.of_own {w:World}{base:Nat}{v:Value}{qs:List Rq}(b:w.ownsRow base 65 13 v qs.length (fg qs)):gf w v qs:=by
 rcases b.2 with ⟨rfl,g⟩ | ⟨a,f,n,c,o,j,i,_⟩
 ·exact⟨none,0,by rw [g],by omega,fun m=>by omega⟩
 ·refine⟨some ⟨a,0,none⟩,f,c,i,fun m=>⟨a,0,rfl,am j,fun d k e l=>?_⟩⟩
  subst c;rw [Nat.zero_add,b.cellAt (d * 13+e) (by omega)];exact lP e l qs d k
theorem jd2 {w:World}{base e l:Nat}{v:Value}{n:Nat}{m:List Value}(d:w.ownsRow base e l v n m):∃ a c,v=.slice a n c/\n<=c/\(0<n->∃ g,a=some ⟨g,0,none⟩/\g<w.heap.size):=by
 rcases d.2 with ⟨rfl,f⟩ | ⟨g,b,o,k,p,j,i,_⟩
 ·exact⟨none,0,by rw [f],by omega,fun q=>by omega⟩
 ·exact⟨_,b,k,i,fun _=>⟨g,rfl,am j⟩⟩
def noS (p:Sp):Sp:={ p with qs:=fq p.qs }
theorem jfy (p:Sp)(a:p.ok):(noS p).ok:=⟨a.conn,a.now,a.cut,a.part,fun c b=>a.qs c (List.mem_filter.1 b).1,a.left,a.full⟩
theorem jcY {w:World}{base a c:Nat}{d:List Sp}{e:List Value}{b:Nat}(l:b<=d.length)(k:e.length=b)(f:w.ownsRow base 69 10 (.slice (some ⟨a,0,none⟩) b c) b (jD (d.take b) e))(i:Nat)(j:i<b)(x:Nat)(g:x<10):w.cell? ⟨a,0+i * 10+x,none⟩=(kr d[i] e[i])[x]?:=by
 rw [Nat.zero_add,f.cellAt (i * 10+x) (by omega),rF x g _ _ i (by rw [List.length_take];omega) (by omega)];simp only [List.getElem_take]
end Go.Proofs.YtnlgndpcddngoaaGreatDoor
