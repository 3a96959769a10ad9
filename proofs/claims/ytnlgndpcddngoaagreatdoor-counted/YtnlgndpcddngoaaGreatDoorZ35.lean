import Derived.Test.YtnlgndpcddngoaaGreatDoorZ25
import Derived.Deep.RegionLaw
import Derived.Deep.AppendLies
set_option linter.all false
set_option maxRecDepth 100000
set_option maxHeartbeats 4000000
namespace Go.Proofs.YtnlgndpcddngoaaGreatDoor
open Go.Proofs.Tryz Go.RowKit Go.Maps
variable [dK] [iK]
theorem bH.sick {db:Nat}{blk:Int}{w:World}{c:Int}{b:Nat}{X:Xs}{F:NP}(a:bH db blk w c b X F){g nb:Nat}{i:Value}{l f:Int}(d:w.heap[db]?=some (.cells #[.map (some g),.map (some nb),i,.int .i64 l,.int .i64 f,.bool true] 88)):∃ L D φ k,X=⟨L,D,some φ,k⟩/\da db blk w c b L D φ k F:=by
 obtain⟨L,D,e,k⟩:=X;cases e with
 | none=>
  obtain⟨_,_,_,_,a⟩:=aU.dsk a;rw [d] at a;simp at a
 | some φ=>exact⟨L,D,φ,k,rfl,a⟩
theorem jaC {w:World}{d db nb f:Nat}{e:Option Nat}{blk:Int}{X:Xs}{F:NP}{B b kc:Nat}{a:Nat->Nat}{c:Nat->Cn}(H:bc w d db nb f e blk X F B (.slice (some ⟨b,0,none⟩) 3 kc) 3 a c)(i:Nat)(g:i<3):w.cell? ⟨b,i,none⟩=some (.pointer (some ⟨a i,0,none⟩)):=by
 rw [H.ho.cellAt i (by omega)];unfold ge;rw [List.getElem?_map,List.getElem?_range (by omega)];rfl
theorem bc.more_wait {wr j w4:World}{d db nb r:Nat}{R:Option Nat}{blk:Int}{X:Xs}{F:NP}{B:Nat}{e m:Value}{f:Nat}{k:Nat->Nat}{c:Nat->Cn}{N:Nat}{n:Obj}(H:bc wr d db nb r R blk X F B e f k c)(Y:∀ i,c i=⟨[],false⟩)(q:N=wr.heap.size)(U:B<=N)
  (G:j.heap[N]?=some (OT r)) (O:j.heap.size=N+1) (J:Below N wr j)
  (W:w4.ownsRow B 83 1 m (f+1) (ge k f ++ [.pointer (some ⟨N,0,none⟩)])) (s:(j.alloc n).grownBy w4 e.ownBlock) (V:m.ownBlock=e.ownBlock\/m.ownBlock=some (j.alloc n).heap.size) :
  ∀ g,bE wr r f k c g->bE (w4.setCell ⟨d,2,none⟩ m) r (f+1) (fun i=>if i=f then N else k i) c g:=by
 have Q:d<N:=q▸am H.hh;have a1:db<N:=q▸H.hs.lt db H.hd;have a3:db≠d:=fun a=>H.hF d (il rfl) (a▸H.hd);have T:e.ownBlock≠some d:=fun a=>ax H.ho a H.hh (by decide) rfl;have a2:e.ownBlock≠some db:=fun a=>H.hF db (ir (ir a)) H.hd;have S:e.ownBlock≠some N:=fun a=>by have:=(aj H.ho a).2;omega
 have I:(j.alloc n).heap.size=N+2:=by rw [World.size_alloc,O]
 have w:∀ b,b<N->e.ownBlock≠some b->w4.heap[b]?=wr.heap[b]?:=fun b t u=>
  ((s.block b (by omega) (fun a=>u a.symm)).trans (ah j n (by omega))).trans (J.block b t)
 have X:∀ b,b<N->b≠d->e.ownBlock≠some b->(w4.setCell ⟨d,2,none⟩ m).heap[b]?=wr.heap[b]?:=fun b t E u=>(ac E _ _).trans (w b t u);have ad:=(w d Q T).trans H.hh;have a0:N+2<=w4.heap.size:=I▸s.size;have K:∀ i,i<f->k i<N/\k i≠d/\e.ownBlock≠some (k i):=fun i L=>by
  obtain⟨x,p,_⟩:=(H.hc i L).mem;refine⟨q▸am p,fun a=>?_,fun a=>ax H.ho a p (by decide) rfl⟩
  rw [a,H.hh] at p;simp at p
 have Z:∀ o,F o->o<N:=fun o D=>q▸H.hs.lt o D;have av:wr.heap.size<=(w4.setCell ⟨d,2,none⟩ m).heap.size:=by rw [World.size_setCell];omega
 intro g P v ao M x l;dsimp only at l;by_cases y:v=f
 ·rw [if_pos y,ac (by omega),s.block N (by omega) (fun a=>S a.symm),ah j n (by omega),G] at l;simp at l;rw [<-l.1];simp [Value.ownBlock]
 ·rw [if_neg y] at l;obtain⟨z,A,C⟩:=K v (by omega);exact P v (by omega) M x ((X _ z A C).symm.trans l)
theorem py (c9 bo A y:Int)(d db nb j:Nat)(Q:Option Nat)(blk:Int)(X:Xs)(F:NP)(B:Nat)(v:Value)(o:Nat)(p:Nat->Nat)(c:Nat->Cn)(k Z:Int)(s:ByteArray)(w:World)(gc:pZ X)(g3:X.ill=none\/4<=X.k.l)(gr:-9223372036854775808<=A/\A<=9223372036854775807)(go:-9223372036854775808<=y/\y<=9223372036854775807)(es:-9223372036854775808<=bo/\bo<=9223372036854775807)(H:bc w d db nb j Q blk X F B v o p c)(gs:o<=3)(d6:B<=w.heap.size)(L:o<3->∀ i,c i=⟨[],false⟩)(i:Nat)(g0:bp k 3=(i:Int))(he:-9223372036854775808<=k)(a2:k<=9223372036854775807)(f3:0<=Z)(f4:Z<=18446744073709551615)(gg:Bytes (c i).waits)(gq:(c i).waits.length+(aD s).length<=100000) :
  Calls prog 14 #[pO d 0,.int .i64 k,.int .u64 Z,.string s,.int .i64 A,.int .i64 y,.int .i64 c9,.int .i64 bo] w fun e w'=>∃ X' l,(cI (co (X.at (bud A y)) Z) l X'/\pZ X'/\l.map Prod.fst=jW (c i) (aD s))/\((∃ dl a5 U,e=.returned (.tuple #[.string (strOfNums (bG (mi (c i) (aD s) l))),.bool false])/\bc w' d db nb j Q blk (X'.at (bu 4000000)) dl B a5 3 U (fun f=>if f=i then gU (c i) (aD s) else c f)/\w'.cell? ⟨db,5,none⟩=some (.bool false)/\ae (HG d db F v o p) w w'/\(∀ b,HG d db dl a5 3 U b->HG d db F v o p b\/w.heap.size<=b)/\∀ g,g<w.heap.size->bE w j o p c g->bE w' j 3 U (fun f=>if f=i then gU (c i) (aD s) else c f) g)\/
    (∃ b0 bw,e=.returned (.tuple #[.string (strOfNums (bG (mi (c i) (aD s) l))),.bool true])/\bQ w' w' d blk ⟨X'.D.t,false⟩ b0 B bw/\(Vir blk X' b0/\X'.k.l<4)/\ae (HG d db F v o p) w w'/\∀ b,bw b->HG d db F v o p b\/w.heap.size<=b)):=by
 have hX:s.size<=100000:=by have:=bN s;omega
 have c3:i<3:=by have:=(gB k 3 (by omega)).2;omega
 have fl:=ab H.hh;obtain⟨g9,c2,g5,g6,g7⟩:=info_parts Tryz.info76;go_enter func14,ntmps14
 go_wp2_with fail
 go_loopw [] (fun wr=>∃ a5 bl U,bl<=3/\B<=wr.heap.size/\bc wr d db nb j Q blk X F B a5 bl U c/\(bl<3->∀ i,c i=⟨[],false⟩)/\ae (HG d db F v o p) w wr/\(∀ b,HG d db F a5 bl U b->HG d db F v o p b\/w.heap.size<=b)/\(∀ g,bE w j o p c g->bE wr j bl U c g)) (fun wr=>3 - (match wr.cell? ⟨d,2,none⟩ with | some hr=>fA hr | none=>0))
 case atStart=>exact⟨v,o,p,gs,d6,H,L,ae.refl _ _,fun b a=>il a,fun _ a=>a⟩
 case round=>
  obtain⟨fv,D,m,gt,a0,u,et,M,b8,ei⟩:=hrel;have d2:=aa ei;clear ei;obtain⟨dk,t,E⟩:∃ fi c,fv=.slice fi D c:=aw u.ho;subst E;have b1:=ab u.hh;have d3:=ag u.hh;clear fl;by_cases c4:D<3
  ·have hU:(D:Int)<3:=by omega
   go_upto_region 4 with fail
   have fm:=b1 1;have fn:=b1 2;have Y:=u.hh;have ad:=aa u;have ds:=aa M;have dn:=aa b8;have cv:=aa (et c4);have e2:=aa L;clear b1 u M b8 et L;go_region_law
    (first | (refine pS (by rfl) _ (by rfl) j (by rfl) ?_;intro eQ em ev x;have dR:=aa ev;clear ev;have b9:=(x.block d (am Y)).trans Y;have hp:=ab b9 2;have c0:=aB b9 (.cells #[.pointer (some ⟨wr.heap.size,0,none⟩)] 83);have hq:=ab c0 2) | (refine aT (by rfl) _ _ 80 83 g9 (.pointer none) 1 8 underlying80 c2 g5 g6 g7 (by rfl) (by decide) (by rfl) B (.slice dk D t) D (ge m D) (by rfl) (aq ad.out.ho (fun bv eB=>(ah _ _ (ll (aj ad.out.ho eB).2 x.size)).trans (x.block bv (aj ad.out.ho eB).2))) ⟨eQ.heap.size,0,none⟩ 1 1 [.pointer (some ⟨wr.heap.size,0,none⟩)] (by rfl) (by rfl) (cell_one_new _ _ _) (by simp [Value.oneCell']) (by omega) (by omega) (lq a0 (lq x.size (Below.size ((Below.refl 0 eQ).alloc (Nat.zero_le _) _)))) ?_;intro ih im c6 cX er;obtain⟨hu,hv,g4⟩:=aw c6;subst g4;have eo:=(cX.block d (am c0) (fun e=>ax ad.out.ho e.symm Y (by decide) rfl)).trans c0;have fz:=ab eo;have fD:=ag eo))
   all_goals have bg:=bc.more ad.out cv.out (N:=wr.heap.size) rfl a0 em dR.out ⟨x.os,x.tape,x.output,x.size,x.block⟩ c6 cX er
   all_goals have gF:=bc.more_wait ad.out cv.out (N:=wr.heap.size) rfl a0 em dR.out ⟨x.os,x.tape,x.output,x.size,x.block⟩ c6 cX er
   all_goals have f8:=ds.out.then bg.2.1 (fun i c2 a=>(dn.out i a).elim id (fun a=>absurd c2 (Nat.not_lt.2 a)))
   all_goals have cV:=ds.out.size
   all_goals have gv:=ab bg.1.hh 2
   all_goals clear fz fD hp hq fm fn d3
   all_goals go_wp2_with fail
   all_goals go_roundw
   all_goals first | (exact⟨_,D+1,_,by omega,lq a0 bg.2.1.size,bg.1,fun _=>cv.out,f8,fun b a=>(bg.2.2 b a).elim (dn.out b) (fun a=>ir (lq cV a)),fun g a=>gF g (d2.out g a)⟩) | skip
   all_goals rw [show (World.setCell _ _ _).cell? ⟨d,2,none⟩=some (.slice hu (D+1) hv) from gv,show wr.cell? ⟨d,2,none⟩=some (.slice dk D t) from ab Y 2]
   all_goals simp only [fA]
   all_goals omega
  ·obtain rfl:D=3:=by omega
   obtain⟨cn,di,hn,h1,d5,fN,a8⟩:=u.hs.dsk;have Y:=u.hh;have hk:¬d=db:=fun e=>u.hF d (il rfl) (e▸u.hd);have h4:¬db=d:=fun e=>hk e.symm;obtain⟨K,O⟩:∃ K,K=((wr.setCell ⟨db,3,none⟩ (.int .i64 A)).setCell ⟨db,4,none⟩ (.int .i64 y)).drew:=⟨_,rfl⟩;have en:K.heap[db]?=some (OF cn di hn A y fN):=by rw [O,aE];simpa using ai (ai a8 3 (.int .i64 A)) 4 (.int .i64 y)
   have cb:∀ k,k≠db->K.heap[k]?=wr.heap[k]?:=fun k e=>by
    rw [O,aE,ac e,ac e]
   have bi:K.heap.size=wr.heap.size:=by rw [O];simp
   have S:bc K d db nb j Q blk (X.at (bud A y)) F B (.slice dk 3 t) 3 m c:=u.refill a8 en (fC.bud gr) (fC.bud go) (g3.imp id il) (Nat.le_of_eq bi.symm) (fun k _=>cb k);have cy:ae (HG d db F v o p) w K:=⟨by rw [O];exact M.os,by rw [O];exact M.tape,by rw [O];exact M.output,by rw [bi];exact M.size,fun k bb b7=>(cb k (fun e=>b7 (ir (il e)))).trans (M.block k bb b7)⟩;have fd:Hid (∀ g,bE w j o p c g->bE K j 3 m c g):=aa (fun g a=>(d2.out g a).kept (fun f C=>cb _ (fun e=>(u.hc f C).nF (e▸u.hd))));have b:=ab Y;have fr:=ab a8;have fs:=ag a8;have e2:=aa L;clear b1 d3 L;go_upto_region 5 with fail
   have fo:=b 0;clear b;go_cut [] (fun bs=>bs=K)
   case first=>
    go_region_held3 (fun w'=>w'.cell? ⟨d,0,none⟩=some (.pointer (some ⟨db,0,none⟩))) (go_keep) (fail)
    all_goals (go_wp2_with fail;go_meet)
    all_goals exact O.symm
   case rest=>
    subst hcut;have fb:=fd;clear O fo fr fs en;have cV:=fun (w:World) (s:ByteArray)=>run_bytes_of_string (P:=prog) w 9 76 5 s underlying9 underlying76 underlying5;obtain⟨z,kc,gp,hS,hT⟩:=S.ho.form (by decide);injection gp with E _ I;subst E I;have f5:B<=wc.heap.size:=by rw [bi];exact a0
    have d7:∀ b,HG d db F (.slice (some ⟨z,0,none⟩) 3 t) 3 m b->HG d db F v o p b\/w.heap.size<=b:=b8;have hA:=aa bi;clear bi u M b8 cb a0 a8 Y gt;go_upto_region 7 with fail
    obtain⟨q,cx⟩:∃ q,q=grownCap wc s.size 0 5:=⟨_,rfl⟩;have f6:s.size<=q:=by rw [cx];simpa using grownCap_ge wc s.size 0 5
    rw [<-cx];obtain⟨n,W⟩:∃ n,n=(wc.alloc (.cells (bytesRow s q) 5 ((bytesRow s q).size,(bytesRow s q).size+1))).drew:=⟨_,rfl⟩;have c7:Sl n (.slice (some ⟨wc.heap.size,0,none⟩) s.size q) (aD s):=W▸Sl.of_bytes wc s q f6;have cU:n.heap[wc.heap.size]?=some (.cells (bytesRow s q) 5 ((bytesRow s q).size,(bytesRow s q).size+1)):=by rw [W];exact af _ _
    have bd:∀ k,k<wc.heap.size->n.heap[k]?=wc.heap[k]?:=fun k bb=>by rw [W];exact ah _ _ bb
    have ch:n.heap.size=wc.heap.size+1:=by rw [W];simp
    have av:bc n d db nb j Q blk (X.at (bud A y)) F B (.slice (some ⟨z,0,none⟩) 3 t) 3 m c:=S.kept (by omega) bd;have d9:ae (HG d db F v o p) w n:=by rw [W];exact (cy.alloc _).drew
    have ci:=cy.size;rw [<-W];obtain⟨r,ez⟩:∃ r,r=wc.heap.size:=⟨_,rfl⟩;have eq:¬HG d db F (.slice (some ⟨z,0,none⟩) 3 t) 3 m r:=fun a=>by
     have:=S.lt r a;omega
    have e9:Hid (bE n.drew j 3 m c r):=aa (fun f C _ hG gl gN=>by
      have hN:=(S.hc f C).waits_lt ((bd _ (am (S.hc f C).mem.choose_spec.1)).symm.trans gl) gN;omega)
    have fa:Hid (∀ g,bE w j o p c g->bE n.drew j 3 m c g):=aa (fun g a=>(fb.out g a).kept (fun f C=>bd _ (am (S.hc f C).mem.choose_spec.1)));have hz:=aa bd;have hB:=aa ch;clear W bd S cy cV;rw [<-ez] at c7 cU ch ci f5 ⊢;have el:=av.lt;have eV:=aa cU;have e8:=aa ci;have cr:=aa d7;have bF:=aa d9;have e3:=aa ch;have hy:=aa el;have ct:=aa eq;have d5:=ab av.hh 2;have cw:n.cell? ⟨z,i,none⟩=some (.pointer (some ⟨m i,0,none⟩)):=jaC av i c3;have b9:=av.hh;have bz:Hid (bc n.drew d db nb j Q blk (X.at (bud A y)) F B (.slice (some ⟨z,0,none⟩) 3 t) 3 m c):=aa (av.kept lz (fun _ _=>rfl));have e4:Hid (bH db blk n.drew 0 j (X.at (bud A y)) F):=aa bz.out.hs;have dm:Hid (B<=n.drew.heap.size):=aa (by show B<=n.heap.size;omega);have d0:Hid (jJ n.drew (.slice (some ⟨r,0,none⟩) s.size q) (aD s)):=aa (c7.src.kept lz (fun _ _ _ _ _ _=>rfl));have d1:Hid (∀ g cp eL d4,Value.slice (some ⟨r,0,none⟩) s.size q=.slice (some ⟨g,cp,none⟩) eL d4->¬F g):=aa (fun g cp eL d4 a f7=>ct.out (by injection a with a _ _;injection a with a;injection a with a _;exact ir (ir (il (a▸f7)))));clear cU ci d7 d9 ch el eq av c7 cx ez;have hQ:(0:Int)<=(i:Int):=by omega
    have hR:(i:Int)<3:=by omega
    have eA:r<n.heap.size:=by rw [e3.out];omega
    go_cut [19] (fun cp bs=>∃ (X':Xs) (l:List (Rq×Rp)) (J:NP),cp=.string (strOfNums (bG (mi (c i) (aD s) l)))/\(cI (co (X.at (bud A y)) Z) l X'/\pZ X'/\l.map Prod.fst=jW (c i) (aD s))/\bc bs d db nb j Q blk X' J B (.slice (some ⟨z,0,none⟩) 3 t) 3 m (fun f=>if f=i then gU (c i) (aD s) else c f)/\ae (HG d db F (.slice (some ⟨z,0,none⟩) 3 t) 3 m) n.drew bs/\(∀ b,HG d db J (.slice (some ⟨z,0,none⟩) 3 t) 3 m b->HG d db F (.slice (some ⟨z,0,none⟩) 3 t) 3 m b\/n.drew.heap.size<=b)/\(∀ g,g<n.drew.heap.size->bE n.drew j 3 m c g->bE bs j 3 m (fun f=>if f=i then gU (c i) (aD s) else c f) g))
    case first=>
     go_region_law
      (first | (refine aO (by rfl) 30 jbr _ _ (by rfl) #[.int .i64 k,.int .i64 3] (by simp only [List.map_toArray,List.map_cons,List.map_nil];rfl) (jd6 k i _ he a2 g0) ?_;rintro e ii ⟨rfl,rfl⟩;refine⟨_,rfl,?_⟩) | (refine aO (by rfl) 31 jbp _ _ (by rfl) #[.pointer (some ⟨m i,0,none⟩),.int .u64 Z,.slice (some ⟨r,0,none⟩) s.size q] (by simp only [List.map_toArray,List.map_cons,List.map_nil];rfl) (jdB db blk j (m i) F (X.at (bud A y)) (c i) _ Z (aD s) n.drew e4.out gc f3 f4 (bz.out.hc i c3) d0.out (fL s) gg gq d1.out) ?_;rintro e R ⟨h8,rfl,f9⟩;refine⟨_,rfl,?_⟩;obtain⟨J,X',l,cc,a3,V,a7,gR,gb⟩:=bc.fed bz.out dm.out i c3 f9;have hO:=gk gR rfl))
     all_goals (go_wp2_with fail;go_meet)
     all_goals exact⟨X',l,J,rfl,cc,a3,V,a7,gb⟩
    case rest=>
     obtain⟨X',l,J,rfl,cc,a3,V,a7,cz⟩:=hcut;have dN:=aa cc;clear cc;have cG:=cz r eA e9.out;have cF:∀ g,g<w.heap.size->bE w j o p c g->bE wc j 3 m (fun f=>if f=i then gU (c i) (aD s) else c f) g:=fun g a9 a=>cz g (ll a9 bF.out.size) (fa.out g a);clear cz;obtain⟨R,ey⟩:∃ R,R=wc:=⟨_,rfl⟩;rw [<-ey] at a3 V cG cF ⊢;have e7:=aa cF;clear cF;clear ey;have hW:n.drew.heap.size=n.heap.size:=rfl;have hV:=V.size;have ef:ae (HG d db F v o p) w R:=bF.out.drew.then V (fun b gd a=>(cr.out b a).elim id (fun a=>absurd gd (Nat.not_lt.2 a)));have d8:∀ b,HG d db J (.slice (some ⟨z,0,none⟩) 3 t) 3 m b->HG d db F v o p b\/w.heap.size<=b:=fun b a=>(a7 b a).elim (cr.out b) (fun a=>ir (lq (bF.out.size) a));have ek:R.heap[r]?=some (.cells (bytesRow s q) 5 ((bytesRow s q).size,(bytesRow s q).size+1)):=(V.block r eA ct.out).trans eV.out;have eg:¬HG d db J (.slice (some ⟨z,0,none⟩) 3 t) 3 m r:=fun a=>(a7 r a).elim ct.out (fun a=>by omega);have ej:Wb R R r s.size:=⟨rfl,rfl,rfl,rfl,fun _ _=>rfl,_,_,ek,gZ s q,gZ s q⟩;obtain⟨eN,c5⟩:∃ eN,eN=strOfNums (bG (mi (c i) (aD s) l)):=⟨_,rfl⟩;rw [<-c5];have dv:=aa c5;have e0:=aa a3;have a4:=aa ef;have cs:=aa d8;have dt:=aa eg;have e5:=aa cG;have e6:=aa ej;have ci:=e8.out;clear c5 a3 ef d8 eg cG ej V a7 d5 cw b9 ek d0 d1 dm bz bF cr;go_wp2_with fail
     go_loopw [77] (fun bv ht=>∃ f:Nat,f<=s.size/\bv=.int .i64 f/\Wb R ht r s.size) (fun bv _=>s.size - (intOf bv).toNat)
     case atStart=>exact⟨0,Nat.zero_le _,rfl,e6.out⟩
     case round=>
      obtain⟨f,C,rfl,LW⟩:=hrel;by_cases c4:f<s.size
      ·obtain⟨⟨h9,hY⟩,hP⟩:=LW.cell f c4;go_wp2
       go_roundw
       case rel=>exact⟨f+1,by omega,by go_num,LW.step f _⟩
       case measure=>simp [intOf];omega
      ·obtain rfl:f=s.size:=by omega
       have T:bc wr d db nb j Q blk X' J B (.slice (some ⟨z,0,none⟩) 3 t) 3 m (fun f=>if f=i then gU (c i) (aD s) else c f):=e0.out.keptE r dt.out e5.out (Nat.le_of_eq LW.size.symm) (fun k _ a=>LW.blk k a);have eb:ae (HG d db F v o p) w wr:=⟨LW.os.trans a4.out.os,LW.tape.trans a4.out.tape,LW.output.trans a4.out.output,by rw [LW.size];exact a4.out.size,fun k bb b7=>(LW.blk k (by omega)).trans (a4.out.block k bb b7)⟩;have ff:Hid (∀ g,g<w.heap.size->bE w j o p c g->bE wr j 3 m (fun f=>if f=i then gU (c i) (aD s) else c f) g):=aa (fun g a9 a=>(e7.out g a9 a).kept (fun f C=>LW.blk _ (fun e=>dt.out (e▸ir (ir (ir (ir ⟨f,C,rfl⟩)))))));have c1:=T.hh;obtain⟨cn,di,ho,hg,cw,fU,a1⟩:=T.hs.dsk;have hE:=ab c1 0;have hF:=ab a1 5;have ao:=aa T;have bK:=aa eb;clear T eb LW;cases fU with
       | false=>
        go_wp2_with fail
        refine (gM d db (some cn) (some di) _ _ _ _ hg cw c9 bo _ c1 a1).mono ?_
        rintro e hs ⟨rfl,E,I⟩;go_wp2
        go_ret2
        refine⟨X',l,dN.out,il ⟨J,_,m,by rw [<-dv.out];rfl,ao.out.refill a1 E (fC.neg (by omega) (by omega) (by decide)) (fC.neg (by omega) (by omega) (by decide)) (ir (ir rfl)) I.size (fun cq L g1=>I.block cq L g1),(ab E 5).trans rfl,bK.out.then I (fun cq _ a=>ir (il a)),cs.out,fun g a9 a=>(ff.out g a9 a).kept (fun f C=>I.block _ (am (ao.out.hc f C).mem.choose_spec.1) (fun e=>(ao.out.hc f C).nF (e▸ao.out.hd)))⟩⟩
       | true=>
        obtain⟨hC,hw,it,hZ,cR,hD,hI,fV,hL,hm,hH,a2,ck,bj,bk,cl⟩:=ao.out.hs.sick a1;obtain⟨h3,hM,hx,D,hh,⟨_,dd⟩,hi,df,hj,_⟩:=cl.mem;obtain⟨h2,h5,h7,h0,hJ,c8,eD,ha,eE,hb,eF,hc,hd⟩:=dd.mem;rw [a1] at c8;simp at c8;obtain⟨rfl,rfl,rfl,rfl,rfl,rfl⟩:=c8;have e1:=aa (aN a2 (aN ck (aN bj (aN (df _ eF) (aN (fun hl gV=>df _ (dd.sD hl gV)) (bk.2 rfl))))));have eS:=aa (je7 d db cn _ _ _ _ _ _ ho fV hm c9 bo _ es.1 es.2 c1 a1 eD eE bj.sz);clear a2 ck bj bk cl D hh dd hi df hj eD ha eE hb eF hc hd;go_wp2_with fail
        refine eS.out.mono ?_
        rintro e hs ⟨rfl,hK,h6,b2,E,I,b3,b4,b5,b6,a6⟩;have eX:=aa (aN b2 (aN E (aN I (aN b3 (aN b4 (aN b5 (aN b6 a6)))))));clear b2 E I b3 b4 b5 b6 a6;go_wp2
        go_ret2
        obtain⟨b2,E,I,b3,b4,b5,b6,a6⟩:=eX.out;obtain⟨a2,ck,bj,bk,cl,hf⟩:=e1.out;have T:=ao.out;obtain⟨b0,bw,f0,f1,f2⟩:=qD (G:=HG d db J (.slice (some ⟨z,0,none⟩) 3 t) 3 m) a2 ck bj ⟨il rfl,ir (il rfl),fun b a=>ir (ir (il a))⟩ (fun b a=>⟨T.lo b a,T.lt b a⟩) (lq d6 bK.out.size) bk cl b2 E I b3 b4 b5 b6 a6.size;have g2:=bK.out.size;refine⟨X',l,dN.out,ir ⟨b0,bw,by rw [<-dv.out];rfl,by rw [cR];exact f0,⟨by rw [cR];exact f1,by rw [cR];exact hf⟩,bK.out.then a6 (fun cq L a=>?_),fun b a=>(f2 b a).elim (cs.out b) (fun a=>ir (lq g2 a))⟩⟩
        rcases a with a | a | a
        ·exact il a
        ·exact ir (il a)
        ·exact (cs.out cq (ir (ir (il (a▸bk))))).elim id (fun a=>absurd L (Nat.not_lt.2 a))
theorem jew:∀ (n:Nat) (bs:List Int),bs.length<=n->(dD bs).1.length<=bs.length:=by
 intro n;induction n with
 | zero=>
  intro bs c;have b:bs=[]:=List.length_eq_zero_iff.1 (by omega);subst b;rw [cA [] (by simp [aF])];exact lz
 | succ n d=>
  intro bs c;by_cases a:aF bs=0
  ·obtain⟨f,g,_,_⟩:=dG bs a;have e:(bs.drop (dT bs).toNat).length=bs.length - (dT bs).toNat:=List.length_drop;have:=d (bs.drop (dT bs).toNat) (by omega);rw [dV bs a];show (dD (bs.drop (dT bs).toNat)).1.length+1<=bs.length;omega
  ·rw [cA bs a];exact Nat.zero_le _
theorem pM (c:Cn)(bs:List Int):(jW c bs).length<=c.waits.length+bs.length:=by
 unfold jW;split
 ·exact Nat.zero_le _
 ·have:=jew _ (c.waits ++ bs) lz;rw [List.length_append] at this;exact this
theorem ea.bud {X X':Xs}{q:Rq}{d:Rp}(b:ea X q X' d):X.k.l<=X'.k.l+4/\X.k.f<=X'.k.f+4:=by
 obtain⟨f,e,c,a⟩:=X;cases c with
 | none=>
  rcases b with ⟨rfl,_⟩ | ⟨_,_,rfl,_⟩
  ·exact⟨by show a.l<=a.l - 4+4;omega,by show a.f<=a.f - 4+4;omega⟩
  ·exact⟨Nat.le_add_right _ _,Nat.le_add_right _ _⟩
 | some g=>
  rcases b with ⟨_,_,rfl⟩ | ⟨rfl,_,_⟩ <;> exact⟨Nat.le_add_right _ _,Nat.le_add_right _ _⟩
theorem cI.bud:∀ {l:List (Rq×Rp)}{X X':Xs},cI X l X'->X.k.l<=X'.k.l+4 * l.length
 | [],X,X',h=>by
  have a:X'=X:=h;rw [a];exact Nat.le_add_right _ _
 | (q,r) :: t,X,X',⟨Y,h1,h2⟩=>by
  have b:=h1.bud;have c:=cI.bud h2;simp only [List.length_cons];omega
theorem cI.well:∀ {l:List (Rq×Rp)}{X X':Xs},cI X l X'->X.ill=none->4 * l.length<=X.k.l->4 * l.length<=X.k.f->X'.ill=none/\X'.L=(doL X.L (l.map Prod.fst)).1/\l.map Prod.snd=(doL X.L (l.map Prod.fst)).2/\X'.D=doDL X.D X.L (l.map Prod.fst)
 | [],X,X',a,hi,_,_=>by
  have c:X'=X:=a;rw [c];exact⟨hi,rfl,rfl,rfl⟩
 | (q,r) :: t,X,X',⟨Y,h1,h2⟩,hi,ha,hb=>by
  have b:=h1.bud;simp only [List.length_cons] at ha hb;obtain⟨j,i,k,m⟩:=X;cases hi
  rcases h1 with ⟨rfl,rfl⟩ | ⟨_,_,_,a⟩
  ·obtain⟨d,e,f,g⟩:=cI.well h2 rfl (by dsimp only at b ha ⊢;omega) (by dsimp only at b hb ⊢;omega);exact⟨d,e,by show _ :: _=_ :: _;rw [f],g⟩
  ·dsimp only at a ha hb;omega
theorem sP {X X':Xs}{k:Bu}{l:List (Rq×Rp)}{c:Cn}{d:Int}{bs:List Int}(n:cI (co (X.at k) d) l X')(r:X.ill=none)(q:l.map Prod.fst=jW c bs)(o:4 * l.length<=k.l)(p:4 * l.length<=k.f):X'.ill=none/\X'.L=(gu X.L c d bs).1/\X'.D=jK X.D X.L c d bs/\mi c bs l=(gu X.L c d bs).2.2/\gU c bs=(gu X.L c d bs).2.1:=by
 obtain⟨g,e,f,b⟩:=cI.well n r o p;rw [q] at e f b;have j:(co (X.at k) d).L=aW X.L d:=rfl;have m:(co (X.at k) d).D=X.D:=rfl;rw [j] at e f b;rw [m] at b;unfold jW at e f b;unfold mi gU;by_cases a:c.bad=true
 ·rw [if_pos a] at e f b;rw [if_pos a,if_pos a,jal _ _ _ _ a,jak _ _ _ _ _ a];exact⟨g,e,b,rfl,rfl⟩
 ·rw [if_neg a] at e f b;have i:c.bad=false:=by simpa using a
  rw [if_neg a,if_neg a,jbP _ _ _ _ i,jbO _ _ _ _ _ i,f];refine⟨g,?_,b,?_,?_⟩
  ·split <;> exact e
  ·split <;> rfl
  ·split <;> rfl
theorem jbW (a:Nat)(blk:Int)(D:Dx)(L n:Ld)(B:Nat)(G:NP)(qs:List Rq)(rs:List Rp)(c:Int)(w:World)(H:bx w a blk D L B G)(R:0<=D.t)(Q:B<=w.heap.size)(Y:∀ q∈qs,q.ok/\q.byt)(a4:qs.length<=1000)(t:U7 c)(l:gu L ⟨[],false⟩ c (bY qs)=(n,⟨[],false⟩,rs))(g C:ByteArray)(Z:g=strOfNums (bY qs))(ad:C=strOfNums (bG rs)) :
  Calls prog 14 #[pO a 0,.int .i64 0,.int .u64 c,.string g,.int .i64 (-1),.int .i64 (-1),.int .i64 0,.int .i64 0] w fun e w'=>∃ i,e=.returned (.tuple #[.string C,.bool false])/\bx w' a blk (jK D L ⟨[],false⟩ c (bY qs)) n B i/\ae G w w'/\∀ b,i b->G b\/w.heap.size<=b:=by
 have V:=H.lok;obtain⟨o,nb,A,y,E,M,ao,J,W,H,rfl⟩:=H;have u:aD g=bY qs:=by rw [Z];exact dh _ (qA _ Y)
 have a3:4 * (jW (⟨[],false⟩:Cn) (bY qs)).length<=4000000:=by
  have:=pM ⟨[],false⟩ (bY qs);have:=gO qs;simp at *;omega
 refine (py 0 0 (-1) (-1) a o nb A y blk ⟨L,D,none,bu 0⟩ E B M ao J (fun _=>⟨[],false⟩) 0 c g w ⟨V,R⟩ (il rfl) (by omega) (by omega) (by omega) H.x W Q (fun _ _=>rfl) 0 (by decide) (by decide) (by decide) t.1 t.2 (by intro b a;simp at a) (by rw [u];have:=gO qs;simp;omega)).mono ?_
 rw [u];rintro e w' ⟨I,x,⟨av,a7,z⟩,f⟩;have s:4 * x.length<=4000000:=by
  have:x.length=(jW (⟨[],false⟩:Cn) (bY qs)).length:=by rw [<-z,List.length_map]
  omega
 obtain⟨j,p,r,O,P⟩:=sP (X:=⟨L,D,none,bu 0⟩) av rfl z (by show _<=4000000;exact s) (by show _<=4000000;exact s);rcases f with ⟨F,N,K,rfl,d,_,U,T,_⟩ | ⟨a2,i,_,_,⟨⟨a8,_,_,_,_,f,_⟩,_⟩,_⟩
 ·obtain⟨a1,a0,a5,a6⟩:=I;dsimp only at j p r;rw [P,l] at d;subst j p r;rw [O,l];have S:(fun v:Nat=>if v=0 then (⟨[],false⟩:Cn) else ⟨[],false⟩)=fun _=>⟨[],false⟩:=by
   funext v
   split <;> rfl
  dsimp only at d;rw [S] at d;have m:=bc.well (k:=bu 4000000) d;rw [l] at m;exact⟨_,by rw [<-ad],⟨o,nb,A,y,F,N,3,K,lz,m,rfl⟩,U,T⟩
 ·rw [j] at f;cases f
theorem mt (a:Array Value)(w:World):Sem.run prog (callFunc 14 a) w=.ok (.enter 14 a) w:=by simp [go_sem]
structure pW (D:Dx)(L:Ld)(q:Rq)(r:Rp):Prop where
 ok:q.ok/\q.byt
 fm:gu L ⟨[],false⟩ 0 (bY [q])=(L,⟨[],false⟩,[r])
 fd:jK D L ⟨[],false⟩ 0 (bY [q])=D
 told:r.told
 dt:0<=D.t
theorem vi (Z l:Nat)(blk:Int)(D:Dx)(L:Ld)(B:Nat)(G:NP)(q:Rq)(a:Rp)(c:World)(H:bx c l blk D L B G)(cb:B<=c.heap.size)(X:c.cell? ⟨Z,0,none⟩=some (.pointer (some ⟨l,0,none⟩)))(T:pW D L q a) :
  Calls prog 60 #[pO Z 0,oj q] c fun e w'=>e=.returned (.tuple #[ot a.c a.a a.b,.bool true])/\∃ t,bx w' l blk D L B t/\ae G c w'/\∀ b,t b->G b\/c.heap.size<=b:=by
 have cF:=fun (cx:World) (ct:ByteArray)=>run_bytes_of_string (P:=prog) cx 9 76 5 ct underlying9 underlying76 underlying5;have cp:=bT X;obtain⟨j,n⟩:∃ j,j=(c.alloc (oh q)).alloc (og):=⟨_,rfl⟩;have bv:j.heap[c.heap.size]?=some (oh q):=n▸aB (af _ _) _;have bw:j.heap[c.heap.size+1]?=some (og):=n▸aC (by simp);have bb:B7 c j:=n▸(ba c).alloc (by simp) _;have Y:j.heap.size=c.heap.size+2:=by rw [n];simp
 have a3:=aa (ru q T.ok.1 j);have b9:=ab bv;have f:=aa T;have I:=aa H;have a0:=aa bb;have a5:=aa Y;have b6:=aa bw;have b7:=aa X;clear T H bb Y bw X bv;go_enter func60,ntmps60
 go_upto_region 1 with fail
 rw [<-n];clear n;go_wp2_with fail
 refine a3.out.mono ?_
 rintro e k ⟨a8,a9,rfl,bo,J⟩;have m:B7 c k:=a0.out.trans (J.mono a0.out.size);have bk:bY [q]=q.enc:=by simp [bY]
 obtain⟨F,V⟩:∃ F,F=strOfNums (bY [q]):=⟨_,rfl⟩;obtain⟨i,W⟩:∃ i,i=strOfNums (bG [a]):=⟨_,rfl⟩;have ch:(convert 76 9 (.slice a8 q.enc.length a9)).run prog k.drew=.ok (.string F) k.drew:=by
  rw [V,bk];exact gk (w:=k.drew) (base:=j.heap.size) (v:=.slice a8 q.enc.length a9) (bs:=q.enc) bo rfl
 have cn:=(m.cell (p:=⟨Z,0,none⟩) cp).trans b7.out;have bd:bx k.drew l blk D L B G:=I.out.quiet m.size (fun o M=>m.block o (I.out.lt o M));have R:=jbW l blk D L L B G [q] [a] 0 k.drew bd f.out.dt (lq cb m.size) (fun cV cq=>by rw [List.mem_singleton.1 cq];exact f.out.ok) (by simp) (by omega) f.out.fm F i V W;rw [f.out.fd] at R;have a1:=aa R;have bF:=(J.block (c.heap.size+1) (by have:=a5.out;omega)).trans b6.out;have a6:=aa bF;have b3:=aa m;have O:=aa W;have Y:=a5.out;have cG:=J.size;clear R bd V W m J bo bF bk b9 a3;go_wp2_with fail
 go_cut [7,8] (fun cv cw bz=>cv=.string i/\cw=.bool false/\∃ t,bx bz l blk D L B t/\ae G k.drew bz/\∀ b,t b->G b\/k.heap.size<=b)
 case first=>
  go_region_law (first | (refine aO (by rfl) 14 mt _ _ (by rfl) #[pO l 0,.int .i64 0,.int .u64 0,.string F,.int .i64 (-1),.int .i64 (-1),.int .i64 0,.int .i64 0] (by simp only [List.map_toArray,List.map_cons,List.map_nil];rfl) a1.out ?_;rintro e cU ⟨b2,rfl,cl⟩;refine⟨_,rfl,?_⟩))
  all_goals (go_wp2_with fail;go_meet)
  all_goals exact⟨rfl,rfl,b2,cl⟩
 case rest=>
  obtain⟨rfl,rfl,ao,C,r,E⟩:=hcut;obtain⟨g,rfl⟩:∃ g,g=wc:=⟨_,rfl⟩;have bK:=(r.block (c.heap.size+1) (am a6.out) (fun d=>by have:=I.out.lt _ d;omega)).trans a6.out;have ck:i.size=18:=by
   rw [O.out,strOfNums_size,eP];rfl
  have bu:∀ N∈[a],N.told:=fun N d=>by rw [List.mem_singleton.1 d];exact f.out.told
  have bl:aD i=bh a.c a.a a.b ++ []:=by
   rw [O.out,dh _ (dE _ bu)];simp [bG]
  obtain⟨x,y,z⟩:=pL a f.out.told.c1 f.out.told.c9 f.out.told.a f.out.told.b [];have b5:=aa (aN C (aN r E));have a7:=aa bK;have a2:=aa bl;have b4:=aa (aN x (aN y z));have cR:=r.size;clear ch cn a1 C r E bK bl x y z bu;have bj:=grownCap_ge g i.size 0 5;have S:=Sl.of_bytes g i (grownCap g i.size 0 5) (by simpa using bj);rw [a2.out,ck] at S;have a4:=aa S;clear bj S;go_wp2_with fail
  obtain⟨x,y,z⟩:=b4.out;have bi:Bytes (bh a.c a.a a.b ++ []):=by
   rw [<-a2.out,O.out,dh _ (dE _ (fun N d=>by rw [List.mem_singleton.1 d];exact f.out.told))];exact dE _ (fun N d=>by rw [List.mem_singleton.1 d];exact f.out.told)
  refine (tF _ (bh a.c a.a a.b ++ []) _ a4.out (by rw [List.length_append];exact (by decide:18+0<=1048576)) bi.getD a z.symm 18 0 y.symm x.symm).mono ?_
  rintro e s ⟨rfl,bg⟩;have K:B7 g s:=(ba g).drew.trans (bg.mono (by simp));have b0:=(K.block (c.heap.size+1) (am a7.out)).trans a7.out;obtain⟨u,A⟩:∃ u,u=s.alloc (oI a.c a.a a.b):=⟨_,rfl⟩;have ad:u.heap[c.heap.size+1]?=_:=A▸aB b0 _;have b1:u.heap[s.heap.size]?=some (oI a.c a.a a.b):=A▸af _ _;have av:=aa (K.trans ((ba s).mono K.size:Below g.heap.size s (s.alloc (oI a.c a.a a.b))));rw [<-A] at av;clear bg K b0 a4 x y z bi;go_upto_region 4 with fail
  rw [<-A];clear A;have b8:=ab ad;have cy:=ag ad;have cz:=ab b1;clear ad b1;go_wp2_with fail
  refine bodyPost_ret (v:=.tuple #[ot a.c a.a a.b,.bool true]) (by simp [results,results60,go_sem,b8]) rfl ⟨rfl,?_⟩
  obtain⟨C,r,E⟩:=b5.out;have ci:¬ao (c.heap.size+1):=fun d=>(E _ d).elim (fun d=>by have:=I.out.lt _ d;omega) (fun d=>by omega);have Q:=av.out;refine⟨ao,?_,?_,fun b cc=>(E b cc).imp id (fun d=>by omega)⟩
  ·refine C.quiet (by simp;exact Q.size) (fun o M=>?_)
   have U:o≠c.heap.size+1:=fun e=>ci (e▸M);rw [ac U,ac U,ac U];exact Q.block o (C.lt o M)
  ·have cr:ae G c g:=(ae.of_below b3.out.drew).trans r;have cs:ae G c u:=cr.trans (ae.of_below Q);exact ((cs.set (ir (Nat.le_succ _)) _ _).set (ir (Nat.le_succ _)) _ _).set (ir (Nat.le_succ _)) _ _
end Go.Proofs.YtnlgndpcddngoaaGreatDoor
