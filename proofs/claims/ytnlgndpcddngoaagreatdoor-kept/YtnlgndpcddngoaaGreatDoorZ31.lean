import Derived.Test.YtnlgndpcddngoaaGreatDoorZ25
set_option linter.all false
set_option maxRecDepth 100000
set_option maxHeartbeats 8000000
namespace Go.Proofs.YtnlgndpcddngoaaGreatDoor
open Go.Proofs.Tryz Go.RowKit Go.Maps
variable [dK] [iK]
theorem ea.told {X X':Xs}{q:Rq}{c:Rp}(e:ea X q X' c)(g:X.L.ok)(i:q.ok):c.told:=by
 have f:(⟨7,0,0⟩:Rp).told:=⟨by decide,by decide,by decide,by decide⟩;obtain⟨a,d,k,b⟩:=X;cases k with
 | none=>
  rcases (e:(X'=⟨(aS a q).1,gm d a q,none,b.dn 4⟩/\c=(aS a q).2)\/(cP a q/\c=⟨7,0,0⟩/\X'=⟨a,⟨d.t,false⟩,some ⟨q,eI a q⟩,b⟩/\(b.l<4\/b.f<4))) with ⟨_,rfl⟩ | ⟨_,rfl,_⟩
  ·exact qy a q g i
  ·exact f
 | some j=>
  rcases (e:(cP a q/\c=⟨7,0,0⟩/\X'=⟨a,d,some j,b⟩)\/(X'=⟨(aS a q).1,d,some j,b⟩/\c=(aS a q).2/\eh q (aS a q).2=false)) with ⟨_,rfl,_⟩ | ⟨_,rfl,_⟩
  ·exact f
  ·exact qy a q g i
theorem ea.lok {X X':Xs}{q:Rq}{c:Rp}(f:ea X q X' c)(e:X.L.ok)(j:q.ok):X'.L.ok:=by
 obtain⟨a,d,k,b⟩:=X;have g:=(pm a q e j).1;cases k with
 | none=>
  rcases (f:(X'=⟨(aS a q).1,gm d a q,none,b.dn 4⟩/\c=(aS a q).2)\/(cP a q/\c=⟨7,0,0⟩/\X'=⟨a,⟨d.t,false⟩,some ⟨q,eI a q⟩,b⟩/\(b.l<4\/b.f<4))) with ⟨rfl,_⟩ | ⟨_,_,rfl,_⟩
  ·exact g
  ·exact e
 | some i=>
  rcases (f:(cP a q/\c=⟨7,0,0⟩/\X'=⟨a,d,some i,b⟩)\/(X'=⟨(aS a q).1,d,some i,b⟩/\c=(aS a q).2/\eh q (aS a q).2=false)) with ⟨_,_,rfl⟩ | ⟨rfl,_,_⟩
  ·exact e
  ·exact g
theorem cI.told:∀ {c:List (Rq×Rp)}{X X':Xs},cI X c X'->X.L.ok->(∀ p∈c,p.1.ok)->∀ b∈c.map Prod.snd,b.told
 | [],_,_,_,_,_,b,a=>by cases a
 | (q,r0) :: t,X,X',⟨Y,h1,h2⟩,hL,hq,b,a=>by
  rcases List.mem_cons.1 a with a | a
  ·exact a▸h1.told hL (hq _ List.mem_cons_self)
  ·exact cI.told h2 (h1.lok hL (hq _ List.mem_cons_self)) (fun p d=>hq p (List.mem_cons_of_mem _ d)) b a
structure FdX (X:World)(wb bb base kb kc gb:Nat)(c0 c3:Value)(sk:Bool)(lv:Value)(pl:List (Rq×Rp))(tail:List Int)(i:Nat)(d:Int)(Y:Xs)(vb:Value)(wr:World):Prop where
 book:∃ lv' B',an wr bb base lv' B'/\gT d Y.L B'/\(∀ g,lv'.ownBlock=some g->lv.ownBlock=some g\/X.heap.size<=g)
 blk:∃ least:Int,jm wr wb bb c0 (.slice (some ⟨kb,0,none⟩) 3 kc) c3 sk Y.ill least Y.L.adm/\least<=Y.D.t
 bytes:Sl wr vb (bG ((pl.drop i).map Prod.snd) ++ tail)
 vbg:∀ g o n c,vb=.slice (some ⟨g,o,none⟩) n c->g=gb
 keep:ae (fun b=>b=bb\/b=wb\/lv.ownBlock=some b) X wr
theorem jm.kept {w w':World}{a b:Nat}{c d e:Value}{sk:Bool}{f:Option jI}{least g:Int}(i:jm w a b c d e sk f least g)(l:w'.heap[a]?=w.heap[a]?):jm w' a b c d e sk f least g:=by
 obtain⟨m,n,o,j,k⟩:=i;exact⟨m,n,o,l.trans j,k⟩
theorem jm.lt {w:World}{a b:Nat}{c d e:Value}{sk:Bool}{i:Option jI}{least j:Int}(f:jm w a b c d e sk i least j):a<w.heap.size:=by
 obtain⟨l,m,n,g,k⟩:=f;exact am g
def jbb (n e base s kc m:Nat)(l q r:Value)(sk:Bool)(d:Int)(b:Xs)(o:Bool)(k:List Int)(w w':World):Prop:=
 ∃ f i j g,an w' e base f i/\(gT d b.L i/\j<=b.D.t)/\jm w' n e q (.slice (some ⟨s,0,none⟩) 3 kc) r sk b.ill j b.L.adm/\w'.heap[m]?=some (uV g o)/\Sl w' g k/\(k≠[]->∀ a u t p,g=.slice (some ⟨a,u,none⟩) t p->w.heap.size<=a/\f.ownBlock≠some a)/\(∀ a,f.ownBlock=some a->l.ownBlock=some a\/w.heap.size<=a)/\ae (fun c=>c=e\/c=n\/l.ownBlock=some c\/c=m) w w'
theorem jbN (j f base z kc r i:Nat)(Z A U V:Value)(sk H:Bool)(least d:Int)(L b8:Xs)(F:List (Rq×Rp))(B:Bk)(k N:Int)(d7:gT d L.L B)(hu:least<=L.D.t)(c4:cI (co L N) F b8)(e1:∀ p∈F,p.2.c=7->(sk || H)=true)(hx:0<=N)(hy:N<=18446744073709551615)(s R:ByteArray)(w:World)(ao:jm w j f U (.slice (some ⟨z,0,none⟩) 3 kc) V sk L.ill least L.L.adm)(a:an w f base A B)
  (hs:bp k 3=(i:Int)) (i3:i<3) (hL:-9223372036854775808<=k) (ef:k<=9223372036854775807) (W:w.cell? ⟨z,i,none⟩=some (.pointer (some ⟨r,0,none⟩))) (fs:z<w.heap.size) (ht:z≠j) (fv:z≠f) (cx cy cz:Bool)
  (b0:w.heap[r]?=some (uV Z cx)) (cr:List Int) (l:List Rq) (d5:F.map Prod.fst=l) (b3:List Int) (bF:Sl w Z cr)
  (eV:∀ u:World,u.heap[r]?=some (uV Z cx)->Sl u Z cr->Calls prog 55 #[pO r 0,.string s] u fun e w'=>∃ ei K,e=.returned (.tuple #[ei,.bool cz])/\w'.ownsRow u.heap.size 65 13 ei l.length (fg l)/\ae (fun b=>b=r) u w'/\w'.heap[r]?=some (uV K cy)/\Sl w' K b3/\(b3≠[]->∀ g o n c,K=.slice (some ⟨g,o,none⟩) n c->u.heap.size<=g))
  (a7:∀ q∈l,q.ok/\q.op∈[1,2,3,4,5,6]) (j1:l.length<=50000) (av:List Int) (f6:av=if cz then bh 6 0 0 else []) (f0:aD R=bG (F.map Prod.snd) ++ av) (f1:cr≠[]->∀ g o n c,Z=.slice (some ⟨g,o,none⟩) n c->g≠f/\g≠j) (i1:base<=w.heap.size) :
  Calls prog 37 #[pO j 0,.int .i64 k,.int .u64 N,.string s,.string R,.bool H] w fun e w'=>e=.returned (.bool true)/\jbb j f base z kc r A U V (sk || H) d b8 cy b3 w w':=by
 obtain⟨ej,en,eq,ao,fU⟩:=ao;have gF:=aa fU;have g2:=aa c4;have gd:=aa e1;have j5:F.length=l.length:=by rw [<-d5];simp
 clear fU c4 e1;have hg:=ab ao;have hw:=am ao;have j0:=am a.hb;have f8:j≠f:=fun e=>by have:=ao.symm.trans (e▸a.hb);simp at this
 have c6:r≠f:=fun e=>by have:=b0.symm.trans (e▸a.hb);simp at this
 have d9:r≠j:=fun e=>by have:=b0.symm.trans (e▸ao);simp at this
 have bz:=am b0;have et:=aa a7;have g7:=aa ao;have g3:=aa bF;have ey:=aa f1;have gb:=aa eV;have df:=aa f6;clear ao bF f1 a7 eV f6;go_enter func37,ntmps37
 go_wp2_with fail
 refine (jfU f base A B N _ a).mono ?_
 rintro e em ⟨rfl,cR,ci⟩;have cn:=(ci.block j hw f8).trans g7.out;have hh:=ab cn;have hi:=ag cn;have hG:=(ci.block r bz c6).trans b0;have hp:em.cell? ⟨z,i,none⟩=some (.pointer (some ⟨r,0,none⟩)):=by rw [World.cell?_of_block (w:=w) (ci.block z fs fv)];exact W
 obtain⟨u,cb⟩:∃ u,u=em.setCell ⟨j,4,none⟩ (.bool (sk || H)):=⟨_,rfl⟩;go_upto_region 2 with fail
 go_cut [] (fun T=>T=u)
 case first=>
  go_wp2_with fail
  all_goals go_meet
  all_goals (rw [cb];simp_all)
 case rest=>
 rw [hcut];clear hcut;go_upto_region 3 with fail
 have a8:ae (fun b=>b=f\/b=j) w u:=cb▸ae.set (S:=fun b=>b=f\/b=j) (b:=j) (ci.mono (fun _ a _=>il a)) (il (ir rfl)) _ _;have eb:u.heap[j]?=some (ux U f z 3 kc V (sk || H) L.ill.isSome ej en eq least L.L.adm):=by rw [cb];simpa using ai cn 4 (.bool (sk || H))
 have f5:u.heap[r]?=some (uV Z cx):=(a8.block r bz (fun e=>e.elim c6 d9)).trans b0;have fl:u.cell? ⟨z,i,none⟩=some (.pointer (some ⟨r,0,none⟩)):=by rw [World.cell?_of_block (w:=w) (a8.block z fs (fun e=>e.elim fv ht))];exact W
 have f3:Sl u Z cr:=Sl.keptN g3.out a8.size (fun a9 g o n c e t=>a8.block g t (fun dm=>dm.elim (ey.out a9 g o n c e).1 (ey.out a9 g o n c e).2));have ff:an u f base A (fW B N):=by
  rw [cb];exact⟨(ac f8.symm _ _).trans cR.hb,aq cR.ho (fun g t=>ac (ax cR.ho t cn (by decide)) _ _)⟩
 have d8:=a8.size;have hj:=ab eb;have ct:=aa ff;have gr:=aa a8;have g9:=aa eb;have eB:Hid (u.drew.heap[r]?=some (uV Z cx)):=aa f5;have g5:Hid (Sl u.drew Z cr):=aa (f3.kept lz (fun _ _ _ _ _ _=>rfl));have i2:(0:Int)<=(i:Int):=by omega
 have i4:(i:Int)<3:=by omega
 clear cb a8 eb f5 f3 ff cn hG hp cR ci b0 W a hg hh hi;go_cut [13,14] (fun hQ hR T=>∃ K,hR=.bool cz/\T.ownsRow u.heap.size 65 13 hQ l.length (fg l)/\ae (fun b=>b=r) u T/\
     T.heap[r]?=some (uV K cy)/\Sl T K b3/\(b3≠[]->∀ g o n c,K=.slice (some ⟨g,o,none⟩) n c->u.heap.size<=g))
 case first=>
  go_region_law (first
    | (refine aO (by rfl) 24 si _ _ (by rfl) #[.int .i64 k,.int .i64 3] (by simp only [List.map_toArray,List.map_cons,List.map_nil];rfl) (jd5 k i _ hL ef hs) ?_;rintro e em ⟨rfl,rfl⟩;refine⟨_,rfl,?_⟩)
    | (refine aO (by rfl) 55 sn _ _ (by rfl) #[pO r 0,.string s] (by simp only [List.map_toArray,List.map_cons,List.map_nil];rfl) (gb.out u.drew eB.out g5.out) ?_;rintro e a0 ⟨ei,K,rfl,J,C,O,Q,Y⟩;refine⟨_,rfl,?_⟩))
  all_goals (go_wp2_with fail;go_meet)
  all_goals exact⟨K,rfl,J,⟨C.os,C.tape,C.output,C.size,C.block⟩,O,Q,Y⟩
 case rest=>
  obtain⟨K,rfl,J,C,O,Q,Y⟩:=hcut;obtain⟨kb,kd,rfl⟩:=aw J;obtain⟨v,e3⟩:∃ v,v=wc:=⟨_,rfl⟩;rw [<-e3] at J C O Q ⊢;clear e3 hj;have c4:=fun (w:World) (s:ByteArray)=>run_bytes_of_string (P:=prog) w 9 76 5 s underlying9 underlying76 underlying5;have eL:=aa J;have cw:=aa C;have hf:=aa O;have eN:=aa Q;have eQ:=aa Y;have dv:=C.size;clear J C O Q Y;have d0:=grownCap_ge v R.size 0 5;go_wp2_with fail
  obtain⟨a1,e2⟩:∃ a1,a1=grownCap v R.size 0 5:=⟨_,rfl⟩;rw [<-e2] at d0 ⊢;obtain⟨G,bs⟩:∃ G,G=(v.alloc (.cells (bytesRow R a1) 5 ((bytesRow R a1).size,(bytesRow R a1).size+1))).drew:=⟨_,rfl⟩;rw [<-bs];have dN:G.heap.size=v.heap.size+1:=by rw [bs];simp
  have cc:∀ c8,c8<v.heap.size->G.heap[c8]?=v.heap[c8]?:=fun c8 hK=>by rw [bs];exact ah _ _ hK
  have e4:Sl G (.slice (some ⟨v.heap.size,0,none⟩) R.size a1) (aD R):=bs▸Sl.of_bytes v R a1 (by simpa using d0);have e6:G.os=v.os/\G.tape=v.tape/\G.output=v.output:=by rw [bs];exact⟨rfl,rfl,rfl⟩
  have c2:∀ g,A.ownBlock=some g->g<u.heap.size:=fun g t=>(aj ct.out.ho t).2;have d4:∀ g,A.ownBlock=some g->g≠r:=fun g t=>ax ct.out.ho t eB.out (by decide);have e7:G.heap[j]?=some (ux U f z 3 kc V (sk || H) L.ill.isSome ej en eq least L.L.adm):=(cc j (by omega)).trans ((cw.out.block j (by omega) (fun e=>d9 e.symm)).trans g9.out);have e5:an G f base A (fW B N):=⟨(cc f (by omega)).trans ((cw.out.block f (by omega) (fun e=>c6 e.symm)).trans ct.out.hb),aq ct.out.ho (fun g t=>(cc g (by have:=c2 g t;omega)).trans (cw.out.block g (c2 g t) (fun e=>d4 g t e)))⟩;have dk:=aa cc;have ha:=aa e4;have hc:=aa e7;have hb:=aa e5;have di:=aa e6;have cv:=aa c2;have gN:=aa d4;have g1:=aa f0;clear bs cc e4 e7 e5 e6 c2 d4 f0 d0 e2 c4;go_loopw [15,16] (fun hS el wr=>∃ (x:Nat) (a2:Xs),x<=l.length/\el=.int .i64 x/\FdX G j f base z kc v.heap.size U V (sk || H) A F av x d a2 hS wr/\cI a2 (F.drop x) b8) (fun _ el _=>l.length - (intOf el).toNat)
  case atStart=>
   refine⟨0,co L N,Nat.zero_le _,rfl,⟨⟨A,fW B N,hb.out,d7.pass N hx hy,fun g t=>il t⟩,⟨least,⟨ej,en,eq,hc.out,gF.out⟩,hu⟩,by rw [List.drop_zero,<-g1.out];exact ha.out,fun g o n c e=>by injection e with e _ _;injection e with e;injection e with e _;exact e.symm,ae.refl _ _⟩,g2.out⟩
  case round=>
   obtain⟨x,a2,i5,rfl,I,ch⟩:=hrel;obtain⟨b4,c9,a6,bK,ck⟩:=I.book;obtain⟨eg,bw,fD⟩:=I.blk;have ev:=aa fD;clear fD;have fr:=I.keep.size;by_cases bz:x<l.length
   ·have d2:x<F.length:=by omega
    obtain⟨⟨q,m⟩,c3⟩:∃ hP,hP=F[x]:=⟨_,rfl⟩;have c0:F.drop x=(q,m) :: F.drop (x+1):=by rw [List.drop_eq_getElem_cons d2,<-c3]
    have d6:q=l[x]:=by
     have M:l[x]?=some q:=by rw [<-d5,List.getElem?_map,List.getElem?_eq_getElem d2,<-c3];rfl
     rw [List.getElem?_eq_getElem bz] at M;exact (Option.some.inj M).symm
    have a7:=et.out q (d6▸List.getElem_mem bz);have e0:m.c=7->(sk || H)=true:=gd.out (q,m) (c3▸List.getElem_mem d2);rw [c0] at ch;obtain⟨bj,c5,d1⟩:=ch;have b1:m.told:=c5.told bK.lok a7.1;have fd:∀ ek∈(F.drop (x+1)).map Prod.snd,ek.told:=cI.told d1 (c5.lok bK.lok a7.1) (fun p cl=>(et.out p.1 (by rw [<-d5];exact List.mem_map_of_mem (List.mem_of_mem_drop cl))).1);obtain⟨ad,cV⟩:∃ ad,ad=bG ((F.drop (x+1)).map Prod.snd) ++ av:=⟨_,rfl⟩;have dR:bG ((F.drop x).map Prod.snd) ++ av=bh m.c m.a m.b ++ ad:=by
     rw [c0,cV,<-List.append_assoc];rfl
    have hH:av.length<=18:=by rw [df.out];split <;> decide
    have f7:Bytes av:=by
     rw [df.out];split
     ·have eX:=dE [⟨6,0,0⟩] (fun m hE=>by rw [List.mem_singleton.1 hE];exact⟨by decide,by decide,by decide,by decide⟩);have hk:bG [⟨6,0,0⟩]=bh 6 0 0:=by unfold bG;simp
      rw [hk] at eX;exact eX
     ·exact fun D cp=>by cases cp
    have bF:=I.bytes;rw [dR] at bF;obtain⟨bk,bl,bo⟩:=pL m b1.c1 b1.c9 b1.a b1.b ad;obtain⟨cq,c1⟩:∃ cq,cq=ad.length:=⟨_,rfl⟩;have cU:(bh m.c m.a m.b ++ ad).length=cq+18:=by rw [List.length_append,c1,Nat.add_comm];rfl
    have j3:cq<=1000000:=by rw [c1,cV,List.length_append,eP,List.length_map,List.length_drop];omega
    have fi:Bytes (bh m.c m.a m.b ++ ad):=by
     rw [<-dR];refine (dE _ (fun ek fV=>?_)).app f7
     rw [c0] at fV;rcases List.mem_cons.1 fV with a | a
     ·exact a▸b1
     ·exact fd ek a
    have f2:=bF;rcases bF with ⟨d3,_⟩ | ⟨cl,g,o,c,b2,cX,t,W⟩
    ·rw [d3] at cU;simp at cU
    rw [cU] at b2 cX W;have hq:g=v.heap.size:=I.vbg g o _ c b2;subst b2;have b9:=tF _ (bh m.c m.a m.b ++ ad) wr f2 (by omega) fi.getD m bo.symm 18 0 bl.symm bk.symm;obtain⟨X,ka,hD,j4,hB⟩:=eL.out.form (by omega);injection hD with hz _ hA;subst hz hA;have fN:wr.heap[X]?=v.heap[X]?:=(I.keep.block X (by omega) (fun e=>by rcases e with e | e | e;omega;omega;have:=cv.out X e;omega)).trans (dk.out X hB);have fz:∀ D,D<13->wr.cell? ⟨X,x * 13+D,none⟩=(tQ q)[D]?:=fun D cp=>by
     rw [World.cell?_of_block (w:=v) fN,eL.out.cellAt (x * 13+D) (by omega),lP D cp l x bz,d6]
    have hC:X<wr.heap.size:=by omega
    have hJ:=bw.lt;have hr:v.heap.size<wr.heap.size:=by omega
    have g6:=aa c5;have gq:=aa e0;have eA:=aa bK;have db:=aa b9;have dn:=aa I;have gt:=aa fz;have gg:=aa bw;have cs:=aa a6;have gp:=aa d1;have gv:=aa c1;have go:=aa W;have gl:=aa cV;have dd:=aa ck;have es:=aa a7;have i9:(x:Int)<(l.length:Int):=by omega
    have i6:(0:Int)<=(x:Int):=by omega
    clear b9 I fz bw a6 d1 c1 d6 c3 c5 e0 W cV dR c0 bK ck bk bl bo f2 fi fN a7 cU cl f7 hH b1 fd;go_wp2_with fail
    subst hq;refine db.out.mono ?_
    rintro e a0 ⟨rfl,a4⟩;have bg:=aa a4;have hF:=a4.size;have eE:=aa dv;have eF:=aa dN;have eD:=aa d8;clear a4 dv dN d8 fr fl d7;go_upto_region 11 with fail
    obtain⟨y,bu⟩:∃ y,y=a0.alloc (oI m.c m.a m.b):=⟨_,rfl⟩;rw [<-bu];have fa:y.heap.size=a0.heap.size+1:=by rw [bu];simp
    have bv:∀ b,b<wr.heap.size->y.heap[b]?=wr.heap[b]?:=fun b a=>by rw [bu];exact (ah _ _ (by omega)).trans (bg.out.block b a)
    have cG:y.heap[a0.heap.size]?=some (oI m.c m.a m.b):=by rw [bu];exact af _ _
    have E:∀ D,D<13->y.cell? ⟨X,x * 13+D,none⟩=(tQ q)[D]?:=fun D cp=>(World.cell?_of_block (w:=wr) (bv X hC)).trans (gt.out D cp);have f9:=E 0 (by omega);have hX:=E 1 (by omega);have h1:=E 2 (by omega);have h2:=E 3 (by omega);have h3:=E 4 (by omega);have h4:=E 5 (by omega);have h5:=E 6 (by omega);have h6:=E 7 (by omega);have h7:=E 8 (by omega);have h8:=E 9 (by omega);have hY:=E 10 (by omega);have hZ:=E 11 (by omega);have h0:=E 12 (by omega);rw [Nat.add_zero] at f9;have hU:=ab cG 0;have hV:=ab cG 1;have hW:=ab cG 2;have dl:Hid (y.os=a0.os/\y.tape=a0.tape/\y.output=a0.output):=aa (by rw [bu];exact⟨rfl,rfl,rfl⟩);have fb:jm y.drew j f U (.slice (some ⟨z,0,none⟩) 3 kc) V (sk || H) a2.ill eg a2.L.adm:=gg.out.kept (bv j hJ);have e8:an y.drew f base b4 c9:=⟨(bv f (am cs.out.hb)).trans cs.out.hb,aq cs.out.ho (fun g t=>bv g (aj cs.out.ho t).2)⟩;have e9:base<=y.drew.heap.size:=by show base<=y.heap.size;have:=eE.out;have:=eF.out;have:=eD.out;have:=dn.out.keep.size;omega
    have gc:=aa (ansX j f base b4 U (.slice (some ⟨z,0,none⟩) 3 kc) V (sk || H) d eg a2 bj c9 q m y.drew fb e8 eA.out eA.out.bok.len es.out.1 es.out.2 e9 g6.out gq.out ev.out);have hd:=aa bv;have he:=aa fa;clear bu E fb e8 e9 bv fa cG;go_cut [20] (fun hT T=>hT=.bool true/\∃ b5 bd b6,an T f base b5 bd/\gT d bj.L bd/\jm T j f U (.slice (some ⟨z,0,none⟩) 3 kc) V (sk || H) bj.ill b6 bj.L.adm/\b6<=bj.D.t/\ae (fun b=>b=f\/b=j\/b4.ownBlock=some b) y.drew T/\(∀ g,b5.ownBlock=some g->b4.ownBlock=some g\/y.drew.heap.size<=g))
    case first=>
     go_region_law (refine aO (by rfl) 57 sq _ _ (by rfl) #[pO j 0,oj q,ot m.c m.a m.b] (by simp only [List.map_toArray,List.map_cons,List.map_nil];rfl) gc.out ?_;rintro e kj ⟨rfl,b5,bd,b6,J,c7,C,Y,O,Q⟩;refine⟨_,rfl,?_⟩)
     all_goals (go_wp2_with fail;go_meet)
     all_goals exact⟨rfl,b5,bd,b6,J,c7,C,Y,O,Q⟩
    case rest=>
     obtain⟨rfl,b5,bd,b6,J,c7,C,Y,O,Q⟩:=hcut;have gs:=aa Y;have g4:=aa c7;clear Y c7;have gR:=aa J;have gV:=aa C;have b7:=aa O;have g0:=aa Q;clear J C O Q f9 hX h1 h2 h3 h4 h5 h6 h7 h8 hY hZ h0 hU hV hW;have j2:(18:Int)<=(cq:Int)+18:=by omega
     go_wp2
     go_roundw
     case rel=>
      have i0:wr.heap.size<=y.drew.heap.size:=by show wr.heap.size<=y.heap.size;have:=he.out;omega
      have ii:=b7.out.size;have jb:=dn.out.keep.size;have iN:=eF.out;have it:=eE.out;have im:=eD.out;have fo:ae (fun b=>b=f\/b=j\/b4.ownBlock=some b) wr wc:=⟨b7.out.os.trans (dl.out.1.trans bg.out.os),b7.out.tape.trans (dl.out.2.1.trans bg.out.tape),b7.out.output.trans (dl.out.2.2.trans bg.out.output),by omega,fun b a3 ds=>(b7.out.block b (by omega) ds).trans (hd.out b a3)⟩;have ho:wc.heap[v.heap.size]?=wr.heap[v.heap.size]?:=fo.block _ hr (fun e=>by
        rcases e with e | e | e
        · omega
        · omega
        · rcases dd.out _ e with a | a
          · have:=cv.out _ a;omega
          · omega)
      refine⟨x+1,bj,by omega,by go_num,⟨⟨b5,bd,gR.out,g4.out,fun g t=>?_⟩,⟨b6,gV.out,gs.out⟩,?_,?_,?_⟩,gp.out⟩
      ·rcases g0.out g t with a | a
       ·exact dd.out g a
       ·exact ir (by omega)
      ·rw [<-gl.out];exact jf8 gv.out cX (by omega) ho go.out rfl
      ·intro ih j8 j7 id fn;split at fn <;> (injection fn with M _ _;injection M with M;injection M with M _;exact M.symm)
      ·refine dn.out.keep.then fo (fun b a3 ds=>?_)
       rcases ds with a | a | a
       ·exact il a
       ·exact ir (il a)
       ·rcases dd.out _ a with a | a
        ·exact ir (ir a)
        ·omega
     case measure=>simp [intOf];omega
   ·have i8:x=l.length:=by omega
    have cF:b8=a2:=by
     rw [List.drop_eq_nil_of_le (by omega)] at ch;exact ch
    have f4:Sl wr u15 av:=by
     have:=I.bytes;rw [List.drop_eq_nil_of_le (by omega)] at this;simpa [bG] using this
    have dt:∀ b,b<v.heap.size->b≠f->b≠j->A.ownBlock≠some b->wr.heap[b]?=v.heap[b]?:=fun b a3 M hm hn=>(I.keep.block b (by omega) (fun e=>by rcases e with e | e | e;exact M e;exact hm e;exact hn e)).trans (dk.out b a3);have fm:∀ eo,B7 wr eo->jbb j f base z kc r A U V (sk || H) d b8 cy b3 w eo:=by
     intro eo a5;have j6:=a5.size;have hv:A.ownBlock≠some r:=fun e=>gN.out r e rfl;refine⟨b4,c9,eg,K,⟨(a5.block f (am a6.hb)).trans a6.hb,aq a6.ho (fun g t=>a5.block g (aj a6.ho t).2)⟩,⟨cF▸bK,cF▸ev.out⟩,cF▸(bw.kept (a5.block j bw.lt)),?_,?_,?_,?_,?_⟩
     ·exact (a5.block r (by omega)).trans ((dt r (by omega) c6 d9 hv).trans hf.out)
     ·refine Sl.keptN eN.out (by omega) (fun a9 g o n c e t=>(a5.block g (by omega)).trans ?_)
      have a:=eQ.out a9 g o n c e;exact dt g t (by omega) (by omega) (fun e=>by have:=cv.out g e;omega)
     ·intro a9 g o n c e;have a:=eQ.out a9 g o n c e;have js:=eN.out.lt a9 e;refine⟨by omega,fun dm=>?_⟩
      rcases ck g dm with eS | eS
      ·have:=cv.out g eS;omega
      ·omega
     ·intro g t;rcases ck g t with a | a
      ·exact il a
      ·exact ir (by omega)
     ·have ef:ae (fun b=>b=f\/b=j\/A.ownBlock=some b\/b=r) w u:=gr.out.mono (fun b a _=>a.elim il (fun a=>ir (il a)));have hM:ae (fun b=>b=f\/b=j\/A.ownBlock=some b\/b=r) u v:=cw.out.mono (fun b a _=>ir (ir (ir a)));have hN:ae (fun b=>b=f\/b=j\/A.ownBlock=some b\/b=r) v G:=⟨di.out.1,di.out.2.1,di.out.2.2,by omega,fun b a3 _=>dk.out b a3⟩;have hO:ae (fun b=>b=f\/b=j\/A.ownBlock=some b\/b=r) G wr:=I.keep.mono (fun b a _=>by rcases a with a | a | a;exact il a;exact ir (il a);exact ir (ir (il a)));exact (((ef.trans hM).trans hN).trans hO).trans (ae.of_below a5)
    have er:=aa fm;have i7:¬(x:Int)<(l.length:Int):=by omega
    have bi:=df.out;have ez:=aa f4;clear fm dt f4 cF ch I a6 bK ck bw dv dN d8 fr fl d7;cases cz with
    | false=>
     rw [if_neg (by decide)] at bi;have bb:=ez.out;rw [bi] at bb;obtain⟨h9,c,hI⟩:=bb.shape;subst hI;clear bb bi;go_wp2
     go_ret
     exact⟨rfl,er.out _ (Below.refl _ _)⟩
    | true=>
     rw [if_pos rfl] at bi;have bb:=ez.out;rw [bi] at bb;obtain⟨bk,bl,bo⟩:=pL ⟨6,0,0⟩ (by decide) (by decide) ⟨by decide,by decide⟩ ⟨by decide,by decide⟩ [];rw [List.append_nil] at bk bl bo;have b9:=tF u15 (bh 6 0 0) wr bb (by decide) (fun D=>Bytes.getD (fun b a3=>by revert b;decide) D) ⟨6,0,0⟩ bo.symm 18 0 bl.symm bk.symm;rcases bb with ⟨d3,_⟩ | ⟨cl,g,o,c,b2,cX,t,W⟩
     ·simp [bh] at d3
     have hl:(bh 6 0 0).length=18:=rfl;rw [hl] at b2 cX;subst b2;have db:=aa b9;clear b9 W cl bi bk bl bo t;go_wp2_with fail
     refine db.out.mono ?_
     rintro e a0 ⟨rfl,a4⟩;have bg:=aa a4;have hF:=a4.size;clear a4;go_wp2
     all_goals go_ret
     all_goals exact⟨rfl,er.out _ (bg.out.alloc (by omega) _)⟩
theorem jbE (L:Ld)(q:Rq):(aS L q).1.time=L.time:=by
 unfold aS;repeat' split
 all_goals rfl
theorem ea.le {X X':Xs}{q:Rq}{c:Rp}(f:ea X q X' c)(e:X.D.t<=X.L.time):X.D.t<=X'.D.t/\X'.D.t<=X'.L.time:=by
 obtain⟨a,d,i,b⟩:=X;cases i with
 | none=>
  rcases (f:(X'=⟨(aS a q).1,gm d a q,none,b.dn 4⟩/\c=(aS a q).2)\/(cP a q/\c=⟨7,0,0⟩/\X'=⟨a,⟨d.t,false⟩,some ⟨q,eI a q⟩,b⟩/\(b.l<4\/b.f<4))) with ⟨rfl,_⟩ | ⟨_,_,rfl,_⟩
  ·have:=jfk (q:=q) e;exact⟨this.1,by show _<=(aS a q).1.time;rw [jbE];exact this.2⟩
  ·exact⟨Int.le_refl _,e⟩
 | some g=>
  rcases (f:(cP a q/\c=⟨7,0,0⟩/\X'=⟨a,d,some g,b⟩)\/(X'=⟨(aS a q).1,d,some g,b⟩/\c=(aS a q).2/\eh q (aS a q).2=false)) with ⟨_,_,rfl⟩ | ⟨rfl,_,_⟩
  ·exact⟨Int.le_refl _,e⟩
  ·exact⟨Int.le_refl _,by show _<=(aS a q).1.time;rw [jbE];exact e⟩
theorem cI.le:∀ {d:List (Rq×Rp)}{X X':Xs},cI X d X'->X.D.t<=X.L.time->X.D.t<=X'.D.t/\X'.D.t<=X'.L.time
 | [],X,X',h,hd=>by
  have c:X'=X:=h;rw [c];exact⟨Int.le_refl _,hd⟩
 | (q,r) :: t,X,X',⟨Y,h1,h2⟩,hd=>by
  have a:=h1.le hd;have b:=cI.le h2 a.2;exact⟨Int.le_trans a.1 b.1,b.2⟩
structure eK (w:World)(base hb wb bb kb kc:Nat)(blk:Int)(tb:Nat->Nat)(rv:Nat->Value)(lv:Value)(sk:Bool)(X:Xs)(B:Bk)(c:Nat->Cn):Prop where
 blk:∃ least:Int,jm w wb bb (.pointer (some ⟨hb,0,none⟩)) (.slice (some ⟨kb,0,none⟩) 3 kc) (.int .u64 blk) sk X.ill least X.L.adm/\least<=X.D.t
 book:an w bb base lv B
 sim:gT X.D.t X.L B
 dl:X.D.t<=X.L.time
 cs:w.ownsRow base 101 1 (.slice (some ⟨kb,0,none⟩) 3 kc) 3 (ge tb 3)
 st:∀ i,i<3->w.heap[tb i]?=some (.cells #[rv i,.bool (c i).bad] 103)
 sl:∀ i,i<3->Sl w (rv i) (c i).waits
 inj:∀ i j,i<3->j<3->tb i=tb j->i=j
 dis:∀ i,i<3->(c i).waits≠[]->∀ g o n d,rv i=.slice (some ⟨g,o,none⟩) n d->base<=g/\g≠bb/\g≠wb/\g≠kb/\lv.ownBlock≠some g/\∀ j,j<3->g≠tb j
 lo:base<=wb/\base<=bb/\∀ i,i<3->base<=tb i
 bw:∀ i,i<3->Bytes (c i).waits/\(c i).waits.length<=26/\((c i).bad=true->(c i).waits=[])
 bs:base<=w.heap.size
theorem eK.kbB {w:World}{base i m e b kc:Nat}{blk:Int}{l:Nat->Nat}{k:Nat->Value}{j:Value}{sk:Bool}{X:Xs}{B:Bk}{c:Nat->Cn}(H:eK w base i m e b kc blk l k j sk X B c):base<=b/\b<w.heap.size/\∃ a f,w.heap[b]?=some (.cells a 101 f):=by
 have d:=aj H.cs (g:=b) rfl;exact⟨d.1,d.2,qW H.cs rfl⟩
theorem eK.low {w:World}{base n m f i kc:Nat}{blk:Int}{l:Nat->Nat}{k:Nat->Value}{j:Value}{sk:Bool}{X:Xs}{B:Bk}{c:Nat->Cn}(H:eK w base n m f i kc blk l k j sk X B c)(b:Nat)(a:LG m f i l k j c b):base<=b/\b<w.heap.size:=by
 obtain⟨r,o,q⟩:=H.blk;rcases a with rfl | rfl | rfl | a | ⟨e,d,rfl⟩ | ⟨e,d,g,t,s,p,a⟩
 ·exact⟨H.lo.1,o.lt⟩
 ·exact⟨H.lo.2.1,am H.book.hb⟩
 ·exact⟨H.kbB.1,H.kbB.2.1⟩
 ·exact aj H.book.ho a
 ·exact⟨H.lo.2.2 e d,am (H.st e d)⟩
 ·exact⟨(H.dis e d g _ _ _ _ a).1,(H.sl e d).lt g a⟩
theorem eK.kept {w w':World}{base o j g k kc:Nat}{blk:Int}{n:Nat->Nat}{m:Nat->Value}{l:Value}{sk:Bool}{X:Xs}{B:Bk}{c:Nat->Cn}(H:eK w base o j g k kc blk n m l sk X B c)(p:w.heap.size<=w'.heap.size)(a:∀ b,LG j g k n m l c b->w'.heap[b]?=w.heap[b]?):eK w' base o j g k kc blk n m l sk X B c:=by
 obtain⟨v,u,s⟩:=H.blk;refine⟨⟨v,u.kept (a j (il rfl)),s⟩,⟨(a g (ir (il rfl))).trans H.book.hb,aq H.book.ho (fun d i=>a d (ir (ir (ir (il i)))))⟩,H.sim,H.dl,aq H.cs (fun d i=>a d (by simp [Value.ownBlock] at i;subst i;exact ir (ir (il rfl)))),fun f e=>(a _ (ir (ir (ir (ir (il ⟨f,e,rfl⟩)))))).trans (H.st f e),fun f e=>(H.sl f e).keptN p (fun t d y x q r _=>a d (ir (ir (ir (ir (ir ⟨f,e,t,y,x,q,r⟩)))))),H.inj,H.dis,H.lo,H.bw,lq H.bs p⟩
theorem eK.fed {w w':World}{base N r m l kc:Nat}{blk:Int}{j:Nat->Nat}{F:Nat->Value}{v:Value}{sk W:Bool}{X x:Xs}{B:Bk}{c:Nat->Cn}(H:eK w base N r m l kc blk j F v sk X B c){i:Nat}(C:i<3){A:Bool}{u:List Int}(ao:X.D.t<=x.D.t)(av:x.D.t<=x.L.time)(a0:Bytes u)(a1:u.length<=26)(ad:A=true->u=[])
  (P:jbb r m base l kc (j i) v (.pointer (some ⟨N,0,none⟩)) (.int .u64 blk) W X.D.t x A u w w') :
  ∃ E I G,eK w' base N r m l kc blk j (fun d=>if d=i then G else F d) E W x I (fun d=>if d=i then ⟨u,A⟩ else c d)/\ae (LW r m j v) w w'/\∀ b,LG r m l j (fun d=>if d=i then G else F d) E (fun d=>if d=i then ⟨u,A⟩ else c d) b->LG r m l j F v c b\/w.heap.size<=b:=by
 obtain⟨E,I,a8,G,a9,T,bb,bd,bg,U,V,z⟩:=P;obtain⟨bv,a5,bk⟩:=H.blk;obtain⟨bw,bF,bK,O,bl⟩:=a5;obtain⟨bu,a7,bo,bs,s⟩:=H.kbB;have a4:=z.size;have D:l≠m/\l≠r/\v.ownBlock≠some l/\∀ d,d<3->l≠j d:=by
  refine⟨fun a=>?_,fun a=>?_,fun a=>ax H.book.ho a s (by decide) rfl,fun d f a=>?_⟩
  ·rw [a,H.book.hb] at s;simp at s
  ·rw [a,O] at s;simp at s
  ·rw [a,H.st d f] at s;simp at s
 have a2:∀ d,d<3->j d≠m/\j d≠r/\v.ownBlock≠some (j d):=fun d f=>by
  refine⟨fun a=>?_,fun a=>?_,fun a=>ax H.book.ho a (H.st d f) (by decide) rfl⟩
  ·have:=H.st d f;rw [a,H.book.hb] at this;simp at this
  ·have:=H.st d f;rw [a,O] at this;simp at this
 have a3:∀ d,d<3->d≠i->w'.heap[j d]?=w.heap[j d]?:=fun d f g=>z.block _ (am (H.st d f)) (fun a=>by
   obtain⟨Q,R,S⟩:=a2 d f;rcases a with a | a | a | a
   · exact Q a
   · exact R a
   · exact S a
   · exact g (H.inj d i f C a))
 refine⟨E,I,G,⟨⟨a8,bb,T.2⟩,a9,T.1.raise ao,av,aq H.cs (fun o y=>?_),fun d f=>?_,fun d f=>?_,H.inj,fun d f=>?_,H.lo,fun d f=>?_,by have:=H.bs;omega⟩,z.mono (fun b e _=>?_),fun b e=>?_⟩
 ·simp [Value.ownBlock] at y;subst y;exact z.block _ a7 (fun a=>by
    rcases a with a | a | a | a
    · exact D.1 a
    · exact D.2.1 a
    · exact D.2.2.1 a
    · exact D.2.2.2 i C a)
 ·by_cases a:d=i
  ·rw [if_pos a,if_pos a,a];exact bd
  ·rw [if_neg a,if_neg a];exact (a3 d f a).trans (H.st d f)
 ·by_cases a:d=i
  ·rw [if_pos a,if_pos a];exact bg
  ·rw [if_neg a,if_neg a];refine (H.sl d f).keptN a4 (fun g o q p n t y=>z.block o y (fun k=>?_))
   obtain⟨_,J,K,_,L,M⟩:=H.dis d f g o q p n t;rcases k with k | k | k | k
   ·exact J k
   ·exact K k
   ·exact L k
   ·exact M i C k
 ·by_cases a:d=i
  ·rw [if_pos a,if_pos a];intro g o q p n t;obtain⟨bz,bi⟩:=U g o q p n t;have Q:=am O;have R:=am H.book.hb;have S:=H.bs;exact⟨by omega,by omega,by omega,by omega,bi,fun bj a6=>by have:=am (H.st bj a6);omega⟩
  ·rw [if_neg a,if_neg a];intro g o q p n t;obtain⟨Y,J,K,Z,L,M⟩:=H.dis d f g o q p n t;refine⟨Y,J,K,Z,fun k=>?_,M⟩
   have y:=(H.sl d f).lt g t;rcases V o k with e | e
   ·exact L e
   ·omega
 ·by_cases a:d=i
  ·rw [if_pos a];exact⟨a0,a1,ad⟩
  ·rw [if_neg a];exact H.bw d f
 ·rcases e with e | e | e | e
  ·exact il e
  ·exact ir (il e)
  ·exact ir (ir (il e))
  ·exact ir (ir (ir ⟨i,C,e⟩))
 ·rcases e with e | e | e | e | e | ⟨d,f,g,q,p,n,e⟩
  ·exact il (il e)
  ·exact il (ir (il e))
  ·exact il (ir (ir (il e)))
  ·rcases V b e with e | e
   ·exact il (ir (ir (ir (il e))))
   ·exact ir e
  ·exact il (ir (ir (ir (ir (il e)))))
  ·dsimp only at g e;by_cases a:d=i
   ·rw [if_pos a] at g e;exact ir (U g b q p n e).1
   ·rw [if_neg a] at g e;exact il (ir (ir (ir (ir (ir ⟨d,f,g,q,p,n,e⟩)))))
theorem mZ (base bd q r t kc:Nat)(blk:Int)(o:Nat->Nat)(l:Nat->Value)(O:Value)(sk M:Bool)(X Q:Xs)(n:List (Rq×Rp))(B:Bk)(c:Nat->Cn)(k x:Int)(i:Nat)(s:ByteArray)(w:World)(H:eK w base bd q r t kc blk o l O sk X B c)(bs:bp k 3=(i:Int))(g:i<3)(b0:-9223372036854775808<=k)(b1:k<=9223372036854775807)(a1:0<=x)(a2:x<=18446744073709551615)(cF:s.size<=60000)
  (W:cI (co X x) n Q) (a3:n.map Prod.fst=jW (c i) (aD s)) (bb:∀ p∈n,p.2.c=7->(sk || M)=true) (K:ByteArray) (a4:K=strOfNums (bG (mi (c i) (aD s) n))) :
  Calls prog 37 #[pO q 0,.int .i64 k,.int .u64 x,.string s,.string K,.bool M] w fun e w'=>e=.returned (.bool true)/\∃ G L y,eK w' base bd q r t kc blk o (fun j=>if j=i then y else l j) G (sk || M) Q L (fun j=>if j=i then gU (c i) (aD s) else c j)/\ae (LW q r o O) w w'/\∀ b,LG q r t o (fun j=>if j=i then y else l j) G (fun j=>if j=i then gU (c i) (aD s) else c j) b->LG q r t o l O c b\/w.heap.size<=b:=by
 obtain⟨b3,a6,bw⟩:=H.blk;obtain⟨c0,c2,c3,cs,cG⟩:=id a6;have V:=W.le (Int.le_trans H.dl (jaA X.L x));obtain⟨cX,b2,cU,cV,T⟩:=H.kbB;obtain⟨bj,cR,b8⟩:=H.bw i g;have bv:t≠q:=fun e=>by rw [e,cs] at T;simp at T
 have bu:t≠r:=fun e=>by rw [e,H.book.hb] at T;simp at T
 have bk:w.cell? ⟨t,i,none⟩=some (.pointer (some ⟨o i,0,none⟩)):=by
  rw [H.cs.cellAt i (by omega)];unfold ge;rw [List.getElem?_map,List.getElem?_range (by omega)];rfl
 have bl:(c i).waits≠[]->∀ A ad Z R,l i=.slice (some ⟨A,ad,none⟩) Z R->A≠r/\A≠q:=fun bz A ad Z R e=>⟨(H.dis i g bz A ad Z R e).2.1,(H.dis i g bz A ad Z R e).2.2.1⟩;have Y:=H.st i g;have bi:=H.bs;cases u:(c i).bad with
 | true=>
  have bK:=b8 u;have b9:c i=⟨[],true⟩:=by rw [<-bK,<-u]
  have b5:n=[]:=by
   rw [jW,if_pos u] at a3;exact List.map_eq_nil_iff.1 a3
  subst b5;rw [mi,if_pos u] at a4;have a0:gU (c i) (aD s)=c i:=by rw [gU,if_pos u]
  rw [a0];rw [u] at Y;have cq:∀ z,Sl z (l i) []:=fun z=>by
   rcases H.sl i g with a | a
   ·exact il ⟨rfl,a.2⟩
   ·have a9:=a.1;rw [bK] at a9;simp at a9
  have a5:aD K=bG (([]:List (Rq×Rp)).map Prod.snd) ++ []:=by
   rw [a4];exact dh [] (fun b4 N=>by cases N)
  refine (jbN q r base t kc (o i) i (l i) O _ _ sk M b3 X.D.t X Q _ B k x H.sim bw W bb a1 a2 s K w a6 H.book bs g b0 b1 bk b2 bv bu true true false Y (c i).waits [] rfl [] (H.sl i g) (fun z S _=>?_) (fun a7 cl=>by cases cl) (by simp) [] rfl a5 bl bi).mono ?_
  ·refine (rC (o i) (l i) s z S).mono ?_
   rintro e w' ⟨rfl,rfl⟩;exact⟨_,l i,rfl,World.ownsRow_nil _ _ _ _,ae.refl _ _,S,cq _,fun a=>absurd rfl a⟩
  ·rintro e w' ⟨rfl,ao⟩;obtain⟨G,L,y,I,P,J⟩:=H.fed g V.1 V.2 (fun b4 N=>by cases N) (by simp) (fun _=>rfl) ao;have b6:(⟨[],true⟩:Cn)=c i:=b9.symm;rw [b6] at I J;exact⟨rfl,G,L,y,I,P,J⟩
 | false=>
  rw [u] at Y;obtain⟨d,D⟩:∃ d,d=(c i).waits ++ aD s:=⟨_,rfl⟩;have bg:Bytes d:=by rw [D];exact bj.app (fL s)
  have cz:d.length<=61000:=by rw [D,List.length_append,bN];omega
  obtain⟨c1,cx,cy⟩:=jcK _ d lz bg;obtain⟨F,U⟩:∃ F,F=(dD d).1:=⟨_,rfl⟩;obtain⟨m,C⟩:∃ m,m=decide ((dD d).2.2=2):=⟨_,rfl⟩;obtain⟨v,E⟩:∃ v,v=if (dD d).2.2=2 then [] else (dD d).2.1:=⟨_,rfl⟩;have av:¬(c i).bad=true:=by rw [u];decide
  have bF:n.map Prod.fst=F:=by rw [a3,jW,if_neg av,U,D]
  have a0:gU (c i) (aD s)=⟨v,m⟩:=by
   rw [gU,if_neg av,<-D];by_cases f:(dD d).2.2=2
   ·rw [if_pos f,E,C,if_pos f];simp [f]
   ·rw [if_neg f,E,C,if_neg f];simp [f]
  have cp:mi (c i) (aD s) n=n.map Prod.snd ++ if m then [⟨6,0,0⟩] else []:=by
   rw [mi,if_neg av,<-D];by_cases f:(dD d).2.2=2
   ·rw [if_pos f,C];simp [f]
   ·rw [if_neg f,C];simp [f]
  have bo:∀ a7∈F,a7.ok/\a7.op∈[1,2,3,4,5,6]:=by rw [U];exact jcJ _ d lz bg
  have ck:=nC X.L x H.sim.lok a1 a2;have cr:∀ a8∈n.map Prod.snd ++ (if m then [⟨6,0,0⟩] else []),a8.told:=fun a8 cn=>by
   rcases List.mem_append.1 cn with a | a
   ·exact cI.told W ck (fun p ci=>(bo p.1 (by rw [<-bF];exact List.mem_map_of_mem ci)).1) a8 a
   ·split at a
    ·rw [List.mem_singleton.1 a];exact⟨by decide,by decide,by decide,by decide⟩
    ·cases a
  have a5:aD K=bG (n.map Prod.snd) ++ (if m then bh 6 0 0 else []):=by
   rw [a4,cp,dh _ (dE _ cr),jbM];congr 1
   split
   ·unfold bG;simp
   ·rfl
  rw [a0];have cb:Bytes v:=by
   rw [E];split
   ·exact fun b4 N=>by cases N
   ·exact cy
  have ch:v.length<=26:=by
   rw [E];split
   ·simp
   ·exact cx (by assumption)
  have cc:m=true->v=[]:=fun a=>by
   rw [C] at a;rw [E,if_pos (of_decide_eq_true a)]
  refine (jbN q r base t kc (o i) i (l i) O _ _ sk M b3 X.D.t X Q _ B k x H.sim bw W bb a1 a2 s K w a6 H.book bs g b0 b1 bk b2 bv bu false m m Y (c i).waits F bF v (H.sl i g) (fun z S b7=>?_) bo (by rw [U];omega) _ rfl a5 bl bi).mono ?_
  ·refine (jez (o i) (l i) (c i).waits s z S b7 bj (by omega) d D F U m C v E).mono ?_
   rintro e w' ⟨ct,y,rfl,I,P,J,cv,cw⟩;exact⟨ct,y,rfl,I,P,J,cv,fun _=>cw⟩
  ·rintro e w' ⟨rfl,ao⟩;obtain⟨G,L,y,I,P,J⟩:=H.fed g V.1 V.2 cb ch cc ao;exact⟨rfl,G,L,y,I,P,J⟩
end Go.Proofs.YtnlgndpcddngoaaGreatDoor
