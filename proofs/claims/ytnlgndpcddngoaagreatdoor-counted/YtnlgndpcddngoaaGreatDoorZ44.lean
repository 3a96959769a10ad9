import Derived.Test.YtnlgndpcddngoaaGreatDoorZ41
import Derived.Deep.RegionHeld3
set_option linter.all false
set_option maxRecDepth 100000
set_option maxHeartbeats 16000000
namespace Go.Proofs.YtnlgndpcddngoaaGreatDoor
open Go.Proofs.Tryz Go.RowKit Go.Maps
variable [dK] [iK]
theorem jR (P:Bool)(a p f base:Nat)(l:Value)(B i:Bk)(W blk least:Int)(D:Dx)(L:Ld)(A:Nat)(G:NP)(X b6 ch:Value)(c:Rq)(bb bd:Int)(w:World)(b8:0<=D.t)(H:bx w p blk D L A G)(g2:A<=w.heap.size)(bF:w.heap[a]?=some (fO P p f X b6 c bb bd ch W least))(a5:an w f base l B)(eL:B.ok)(g3:∀ b,RP a f l b->¬G b)(g9:base<=w.heap.size)
  (n7:L.time<=B.time) (n2:least<=L.time) (l8:0<=W) (eS:Rcv P c bb bd W L B i) :
  Calls prog 40 #[pO a 0] w fun e w'=>e=.returned (.bool true)/\∃ bK,(∃ F,bx w' p blk D L A F/\ae (fun b=>G b\/RP a f l b) w w'/\(∀ b,F b->G b\/w.heap.size<=b)/\∀ b,RP a f bK b->¬F b)/\an w' f base bK ⟨L.time,bZ L.time L.ks i.ls⟩/\(∀ b,bK.ownBlock=some b->l.ownBlock=some b\/w.heap.size<=b)/\w'.heap[a]?=some (fO false p f X b6 c bb bd ch W least):=by
 have d9:=H.lok;have b9:=d9.time;have mk:=eL.len;have e0:=eS.ok.len;have m0:=am bF;have mA:=am a5.hb;have e7:a≠f:=fun e=>by
  have J:=a5.hb;rw [<-e,bF] at J;simp [fO] at J
 have he:∀ b,l.ownBlock=some b->b≠a/\b≠f/\b<w.heap.size:=fun b a6=>⟨ax a5.ho a6 bF (by decide),ax a5.ho a6 a5.hb (by decide),(aj a5.ho a6).2⟩;obtain⟨a9,ef⟩:∃ a9,a9=fO P p f X b6 c bb bd ch W least:=⟨_,rfl⟩;have hU:=aa ef;rw [<-ef] at bF;have ci:Hid (∀ m:World,m.heap[a]?=some a9->m.heap[a]?=some (Ol p f X W b6 P c bb bd least ch)):=aa (fun m d=>by rw [d,ef];rfl);have I:Hid (∀ m:World,m.heap[a]?=some a9->m.cell? ⟨a,0,none⟩=some (.pointer (some ⟨p,0,none⟩))/\m.cell? ⟨a,1,none⟩=some (.pointer (some ⟨f,0,none⟩))/\m.cell? ⟨a,5,none⟩=some (.bool P)/\m.cell? ⟨a,6,none⟩=some (.int .u8 c.op)/\m.cell? ⟨a,7,none⟩=some (.int .u8 c.k0)/\m.cell? ⟨a,8,none⟩=some (.int .u8 c.k1)/\m.cell? ⟨a,9,none⟩=some (.int .u8 c.k2)/\m.cell? ⟨a,10,none⟩=some (.int .u8 c.k3)/\m.cell? ⟨a,11,none⟩=some (.int .u8 c.k4)/\m.cell? ⟨a,12,none⟩=some (.int .u8 c.k5)/\m.cell? ⟨a,13,none⟩=some (.int .u8 c.k6)/\m.cell? ⟨a,14,none⟩=some (.int .u8 c.k7)/\m.cell? ⟨a,15,none⟩=some (.int .u8 c.kd)/\m.cell? ⟨a,16,none⟩=some (.int .u64 c.x)/\m.cell? ⟨a,17,none⟩=some (.int .u64 c.y)/\m.cell? ⟨a,18,none⟩=some (.int .u64 c.n)/\m.cell? ⟨a,21,none⟩=some (.int .u64 least)):=aa (fun m d=>by
   have d:=ci.out m d;exact⟨(ab d 0).trans rfl,(ab d 1).trans rfl,(ab d 5).trans rfl,(ab d 6).trans rfl,(ab d 7).trans rfl,(ab d 8).trans rfl,(ab d 9).trans rfl,(ab d 10).trans rfl,(ab d 11).trans rfl,(ab d 12).trans rfl,(ab d 13).trans rfl,(ab d 14).trans rfl,(ab d 15).trans rfl,(ab d 16).trans rfl,(ab d 17).trans rfl,(ab d 18).trans rfl,(ab d 21).trans rfl⟩)
 have f8:=aa (vi a p blk D L A G dZ ⟨1,L.time,0⟩ w H g2 ((ab (ci.out w bF) 0).trans rfl) (jbj b8 d9));have hL:=aa H;have h0:=aa bF;have hN:=aa a5;have eq:=aa eL;have HG:=aa g3;have M:=aa eS;have es:=aa he;have bi:=aa d9;obtain⟨eD,ha⟩:∃ eD,eD=(P && (c.op==1)):=⟨_,rfl⟩;have er:=aa ha;clear H bF a5 eL g3 eS he ef d9 ha;go_enter func40,ntmps40
 go_wp2_with fail
 refine f8.out.mono ?_
 rintro e dm ⟨rfl,b2,a1,Y,a2⟩;have gg:Nv w w p blk D L A G (RP a f l) G (RP a f l):=⟨hL.out,ae.refl _ w,fun b d=>il d,g2,fun b d=>⟨by
   rcases d with d | d | d
   · omega
   · omega
   · exact (es.out b d).2.2,HG.out b d⟩⟩
 obtain⟨cq,gr⟩:=gg.asked a1 Y a2;obtain⟨u,d3⟩:∃ u,u=dm.alloc (Ut L.time):=⟨_,rfl⟩;obtain⟨o,e6⟩:∃ o,o=dm.heap.size:=⟨_,rfl⟩;have ek:u.heap[o]?=some (Ut L.time):=by rw [d3,e6];exact af _ _
 have eN:B7 dm u:=d3▸ba dm;have hg:=am ek;have go:=(cq.below eN).more (x:=o) ⟨hg,fun d=>by have:=cq.hst.lt o d;omega⟩;have ez:∀ b,RP a f l b->u.heap[b]?=w.heap[b]?:=fun b a6=>(eN.block b (cq.q b a6).1).trans (gr b a6);have fl:=(ez a (il rfl)).trans h0.out;have fi:an u f base l B:=hN.out.kept (fun E q=>ez E (ir q));have n8:=cq.kp.size;have mq:w.heap.size<=o:=by omega
 have b4:=aa go;have gd:=aa fl;have ev:=aa fi;have gc:=aa ek;obtain⟨k5,k6,lh,lk,lm,ln,lo,k7,k8,k9,la,lb,lc,ld,le,lf,lg⟩:=I.out u fl;have i5:=ab fi.hb;have k3:=ab ek;have oa:¬B.time<L.time:=by omega
 have ob:¬L.time<least:=by omega
 clear gg cq gr go ez fl fi ek eN a1 Y a2;go_upto_region 2 with fail
 rw [<-d3,<-e6];clear d3 e6;go_wp2_with (go_quiet (fail))
 clear k5 k6 lh lk lm ln lo k7 k8 k9 la lb lc ld le lf lg i5 k3;have c7:B7 u (u.drewN nq):=below_drewN (Below.refl _ u) _;refine (jp f base l B _ (ev.out.below c7 lz) mk).mono ?_
 rintro e b1 ⟨O,a8,rfl,bu,l9,g7⟩;have c8:B7 u b1:=c7.trans (g7.mono c7.size);obtain⟨R,e1⟩:∃ R,R=(u.drewN nq).heap.size:=⟨_,rfl⟩;rw [<-e1] at bu l9;have n1:u.heap.size<=R:=e1▸c7.size;have nN:w.heap.size<=u.heap.size:=b4.out.kp.size;have fb:=b4.out.q;have f3:=(c8.block a (fb a (il (il rfl))).1).trans gd.out;have f2:=(c8.block o hg).trans gc.out;have en:an b1 f base l B:=ev.out.kept (fun E q=>c8.block E (fb E (il (ir q))).1);have gl:Nv w b1 p blk D L A G (RP a f l) b2 (RQ a f O o l a8):=by
  have v:=b4.out.below c8;refine⟨v.hst,v.kp,v.gg,v.bs,fun b a6=>?_⟩
  rcases a6 with d | d | d | d
  ·exact v.q b (il d)
  ·rw [d];exact⟨am bu.hb,fun eQ=>by have:=b4.out.hst.lt _ eQ;omega⟩
  ·have me:=aj bu.ho d;exact⟨me.2,fun eQ=>by have:=b4.out.hst.lt _ eQ;omega⟩
  ·exact v.q b (ir d)
 have ao:Rv w b1 a p f base O R o l l a8 a9 blk D L B B A G b2:=⟨gl,en,bu,f3,⟨_,_,_,f2⟩,⟨⟨by omega,mq,m0,mA,e7⟩,fun b d=>by have:=(aj bu.ho d).1;omega⟩,fun b d=>il d,fun b J a3=>by have:=(es.out b J).2.2;have:=(aj bu.ho a3).1;omega,fun b d=>(es.out b d).1⟩;obtain⟨m6,m7,nn,no,np,nr,ns,m8,m9,na,nc,nd,ne,nh,nk,nl,nm⟩:=I.out b1 f3;have nv:=ab f2;have nw:=ab en.hb;have nA:=ag en.hb;have n6:o≠f:=by omega
 have ad:=aa ao;clear en f3 f2 gl ao bu g7 c8 c7 fb e1 gd ev gc b4 f8;go_wp2_with fail
 go_cut [] (fun em=>an em f base l ⟨L.time,B.ls⟩/\ae (fun b=>b=f) b1 em)
 case first=>
  go_region
  all_goals (go_wp2_with fail;go_meet)
  all_goals exact⟨(jaa ad.out.bk L.time).kept (fun _ _=>rfl),(ae.set (S:=fun b=>b=f) (b:=f) (ae.refl _ b1) (il rfl) _ _).drew⟩
 case rest=>
  obtain⟨gt,hi⟩:=hcut;obtain⟨cw,rfl⟩:∃ cw,cw=wc:=⟨_,rfl⟩;have ey:Rv w cw a p f base O R o l l a8 a9 blk D L ⟨L.time,B.ls⟩ B A G b2:=ad.out.bk' (hi.mono (fun b d _=>il d)) gt (fun g0 d=>il d);have bj:=aa ey;obtain⟨f5,hp,hA,f6,hB,hC,hD,hq,hr,hs,ht,hu,hv,hw,hx,hy,hz⟩:=I.out cw ey.wo;clear gt hi ey m6 m7 nn no np nr ns m8 m9 na nc nd ne nh nk nl nm nv nw nA ad;rename_i h1 g4
  refine g4 _ _ ?_
  clear g4 h1;apply wp_seq_k
  intro nB nG;go_cut [4] (fun fd em=>fd=.bool true/\∃ bK e9 F,Rv w em a p f base O R o l bK e9 a9 blk D L ⟨L.time,i.ls⟩ i A G F)
  case first=>
   have e4:eD=false->i=B:=fun d=>M.out.ne (er.out.symm.trans d);cases P with
   | false=>
   have e:=e4 (by rw [er.out];rfl);go_wp2_with fail
   go_meet
   exact⟨rfl,l,a8,b2,by rw [e];exact bj.out⟩
   | true=>
   by_cases cb:c.op=1
   case neg=>
    have e:=e4 (by rw [er.out];simpa using cb);have n4:(c.op==1)=false:=by simpa using cb
    go_wp2_with fail
    go_meet
    exact⟨rfl,l,a8,b2,by rw [e];exact bj.out⟩
   case pos=>
    obtain⟨Q,hb⟩:=M.out.df (by simpa using cb);have gV:=f6;rw [cb] at gV;obtain⟨n,t,b,db,df⟩:∃ n t b,pW D L (mh c.key) ⟨n,t,b⟩/\((n=4/\i=B)\/(n=1/\bB ⟨L.time,B.ls⟩ c=(⟨L.time,i.ls⟩,⟨1,0,0⟩)/\bB B c=(i,⟨1,0,0⟩))):=by
     rcases hb with ⟨J,a3⟩ | ⟨⟨T,J⟩,a3⟩
     ·exact⟨4,0,0,jo b8 bi.out Q.key J,il ⟨rfl,a3⟩⟩
     ·exact⟨1,_,_,mR b8 bi.out Q.key J,ir ⟨rfl,a3⟩⟩
    have dR:=aa (aN Q cb);have bg:=aa df;have cl:=aa (vi a p blk D L A b2 (mh c.key) ⟨n,t,b⟩ cw bj.out.nv.hst bj.out.nv.bs f5 db);clear Q cb hb db df f6 e4;go_wp2_with fail
    refine cl.out.mono ?_
    rintro e m3 ⟨rfl,eo,a1,Y,a2⟩;have bo:=bj.out.asked a1 Y a2;obtain⟨m4,ds,m5,b0⟩:=bo.ro;have eE:=ab b0;have eF:=ag b0;obtain⟨C,c9,ct,dt,_⟩:=bo.re n t b;have s:=aa ct;have bk:=aa dt;clear bo b0 ct dt a1 Y a2 gV f5 hp hA hB hC hD hq hr hs ht hu hv hw hx hy hz cl bj;go_upto_region 8 with fail
    rw [<-c9];clear c9 eE eF;have d2:=ab bk.out;rcases bg.out with ⟨rfl,e⟩ | ⟨rfl,g5,g6⟩
    ·clear bg;go_wp2_with fail
     go_meet
     exact⟨rfl,l,a8,eo,by rw [e];exact s.out⟩
    ·have hM:=aa g6;obtain⟨cx,cy,c3,b7,c4,c5,c6,cz,cF,cG,cR,cU,cV,cX,c0,c1,c2⟩:=I.out C s.out.wo;have l6:base<=C.drew.heap.size:=lq g9 s.out.nv.kp.size;have a4:Calls prog 61 #[pO f 0,oj c] C.drew (aQ f base l ⟨L.time,B.ls⟩ c C.drew):=qb f base l ⟨L.time,B.ls⟩ c C.drew (s.out.bk.kept (fun _ _=>rfl)) ⟨b9,eq.out.len,eq.out.ln⟩ dR.out.1 (by rw [dR.out.2];simp) l6;have dv:=aa a4;have f7:=aa g5;clear a4 g5 g6 bg;have b3:Hid (∀ w':World,ae (fun b=>b=f\/l.ownBlock=some b) C.drew w'->w'.cell? ⟨a,1,none⟩=some (.pointer (some ⟨f,0,none⟩))/\w'.cell? ⟨a,6,none⟩=some (.int .u8 c.op)/\w'.cell? ⟨a,7,none⟩=some (.int .u8 c.k0)/\w'.cell? ⟨a,8,none⟩=some (.int .u8 c.k1)/\w'.cell? ⟨a,9,none⟩=some (.int .u8 c.k2)/\w'.cell? ⟨a,10,none⟩=some (.int .u8 c.k3)/\w'.cell? ⟨a,11,none⟩=some (.int .u8 c.k4)/\w'.cell? ⟨a,12,none⟩=some (.int .u8 c.k5)/\w'.cell? ⟨a,13,none⟩=some (.int .u8 c.k6)/\w'.cell? ⟨a,14,none⟩=some (.int .u8 c.k7)/\w'.cell? ⟨a,15,none⟩=some (.int .u8 c.kd)/\w'.cell? ⟨a,16,none⟩=some (.int .u64 c.x)/\w'.cell? ⟨a,17,none⟩=some (.int .u64 c.y)/\w'.cell? ⟨a,18,none⟩=some (.int .u64 c.n)):=aa (fun dn q=>by
       obtain⟨_,ds,_,fU,fV,f0,f1,fm,fn,fo,fr,fs,fv,fz,fD,fN,_⟩:=I.out dn ((q.block a (am s.out.wo) (fun d=>d.elim e7 (fun d=>s.out.nb a d rfl))).trans s.out.wo);exact⟨ds,fU,fV,f0,f1,fm,fn,fo,fr,fs,fv,fz,fD,fN⟩)
     go_upto_region 9 with fail
     go_region_held3 (fun w'=>w'.cell? ⟨a,1,none⟩=some (.pointer (some ⟨f,0,none⟩))/\w'.cell? ⟨a,6,none⟩=some (.int .u8 c.op)/\w'.cell? ⟨a,7,none⟩=some (.int .u8 c.k0)/\w'.cell? ⟨a,8,none⟩=some (.int .u8 c.k1)/\w'.cell? ⟨a,9,none⟩=some (.int .u8 c.k2)/\w'.cell? ⟨a,10,none⟩=some (.int .u8 c.k3)/\w'.cell? ⟨a,11,none⟩=some (.int .u8 c.k4)/\w'.cell? ⟨a,12,none⟩=some (.int .u8 c.k5)/\w'.cell? ⟨a,13,none⟩=some (.int .u8 c.k6)/\w'.cell? ⟨a,14,none⟩=some (.int .u8 c.k7)/\w'.cell? ⟨a,15,none⟩=some (.int .u8 c.kd)/\w'.cell? ⟨a,16,none⟩=some (.int .u64 c.x)/\w'.cell? ⟨a,17,none⟩=some (.int .u64 c.y)/\w'.cell? ⟨a,18,none⟩=some (.int .u64 c.n)) (first | go_keep | (exact a7))
      (first | (go_at_call 61;refine dv.out.mono ?_;rintro e U ⟨hn,rfl,N,K,dk⟩;have a7:=b3.out U K))
     all_goals (
       rw [f7.out] at N;have cr:=(s.out.below (Below.refl _ C).drew).bk' K N dk;obtain⟨h4,h5,i0,i1,i2,i3,i4,h6,h7,h8,h9,id,ih,ii,im,it,iN⟩:=I.out U cr.wo;have a4:Calls prog 61 #[pO O 0,oj c] U (aQ O R a8 B c U):=qb O R a8 B c U cr.ks eq.out dR.out.1 (by rw [dR.out.2];simp) (by have:=am cr.ks.hb;omega);have hH:=aa a4;have cn:=aa cr;clear a4 cr N K dk a7 cx cy c3 b7 c4 c5 c6 cz cF cG cR cU cV cX c0 c1 c2 d2 dv f7 b3;go_wp2_with fail
       refine hH.out.mono ?_
       rintro e nD ⟨mI,rfl,eA,hj,hm⟩;rw [hM.out] at eA;have hY:=aa (cn.out.ks' hj eA hm);clear eA hj hm h4 h5 i0 i1 i2 i3 i4 h6 h7 h8 h9 id ih ii im it iN;go_wp2_with fail
       go_meet)
     all_goals exact⟨rfl,hn,mI,eo,hY.out⟩
  case rest=>
   obtain⟨rfl,mK,mE,hG,gq⟩:=hcut;obtain⟨gs,rfl⟩:∃ gs,gs=wc:=⟨_,rfl⟩;have f9:=aa gq;clear gq f5 hp hA f6 hB hC hD hq hr hs ht hu hv hw hx hy hz bj;go_wp2_with fail
   obtain⟨v,eb⟩:∃ v,v=i.ls.length:=⟨_,rfl⟩;have et:=aa eb;have n3:(v:Int)<=12:=by omega
   clear eb;go_loopw [4,6,7] (fun fd ff _ wr=>∃ k:Nat,k<=v/\ff=.int .i64 k/\fd=.bool true/\∃ bK e9 F,Rv w wr a p f base O R o l bK e9 a9 blk D L ⟨L.time,dU L.time L.ks i.ls k⟩ i A G F) (fun _ ff _ _=>v - (intOf ff).toNat)
   case atStart=>exact⟨0,Nat.zero_le _,rfl,rfl,mK,mE,hG,by rw [jfG];exact f9.out⟩
   case round=>
    obtain⟨k,n0,rfl,rfl,Z,n9,F,d1⟩:=hrel;obtain⟨j,rfl⟩:∃ j,j=wr:=⟨_,rfl⟩;have f4:=ab d1.ks.hb;obtain⟨mv,mC,ml⟩:=aw d1.ks.ho;have r:=aa d1;subst ml;rw [<-et.out] at f4;clear d1 f9;by_cases mn:k<v
    ·have mp:(k:Int)<(v:Int):=by omega
     have nV:(0:Int)<=(k:Int):=by omega
     have bv:k<i.ls.length:=by rw [<-et.out];exact mn
     obtain⟨g,d7⟩:∃ g,g=i.ls[k]:=⟨_,rfl⟩;have hc:i.ls[k]?=some g:=by rw [d7];exact List.getElem?_eq_getElem bv
     have d8:g∈i.ls:=d7▸List.getElem_mem bv;obtain⟨g0,nF,ma,_,nR,h2,_⟩:=r.out.ks.open hc;injection ma with m1 _ m2;subst m1 m2;obtain⟨lr,ls,lA,lB,lI,lK,lX,l0,l1,l2,lt,lv,lw⟩:=h2;have e3:=M.out.ko g d8;have di:=M.out.po g d8;obtain⟨n,t,b,db,df⟩:∃ n t b,pW D L (mh g.k) ⟨n,t,b⟩/\((n=4/\aZ g.k L.ks=none/\P=true/\c.op=4/\c.key=g.k/\c.ok)\/(n=1/\(U7 t)/\StG P c bb bd W L.time g t b/\∃ T,aZ g.k L.ks=some T/\lnR L.time (g.k,T) g=⟨g.k,g.kd,g.x,g.y,t,b⟩)):=by
      cases y:aZ g.k L.ks with
      | none=>
       rw [y] at di;exact⟨4,0,0,jo b8 bi.out e3 y,il ⟨rfl,rfl,di⟩⟩
      | some T=>
       rw [y] at di;have ms:T.ok:=by
        have a3:=y;rw [fS] at a3;exact bi.out.qt _ (aR a3)
       exact⟨1,_,_,mR b8 bi.out e3 y,ir ⟨rfl,(ji T L.time ms b9.1 b9.2).lv,di,T,rfl,rfl⟩⟩
     have bg:=aa df;have hI:=aa db;have hP:=aa (M.out.ok.ln g d8);have ck:=aa d7;clear e3 di df db d7 hc d8;obtain⟨b5,d4⟩:∃ b5,b5=j.alloc (oy g):=⟨_,rfl⟩;have ho:b5.heap[j.heap.size]?=some (oy g):=d4▸af _ _;have g1:B7 j b5:=d4▸ba j;have cs:=r.out.below g1;have d0:=aa ho;have gb:=aa cs;have hQ:Hid (∀ b,Z.ownBlock=some b->b<j.heap.size):=aa (fun b d=>(aj r.out.bk.ho d).2);have l5:¬F j.heap.size:=fun d=>by have:=r.out.nv.hst.lt _ d;omega
     have n5:o<j.heap.size:=by
      obtain⟨oi,ok,T,e⟩:=r.out.ro;exact am e
     have cl:=aa (vi a p blk D L A F (mh g.k) ⟨n,t,b⟩ b5 cs.nv.hst cs.nv.bs ((ab (ci.out b5 cs.wo) 0).trans rfl) hI.out);clear g1 ho cs;go_upto_region 15 with fail
     rw [<-d4];clear d4 lr ls lA lB lI lK lX l0 l1 l2 lt lv lw f4;have l3:=ab d0.out;go_wp2_with fail
     refine cl.out.mono ?_
     rintro e m3 ⟨rfl,eo,a1,Y,a2⟩;have bo:=gb.out.asked a1 Y a2;obtain⟨m4,ds,m5,b0⟩:=bo.ro;have eE:=ab b0;have eF:=ag b0;obtain⟨C,c9,ct,dt,hl⟩:=bo.re n t b;have e8:=(Y.block j.heap.size (am d0.out) l5).trans d0.out;have hE:=(hl.block j.heap.size (am e8) (by omega)).trans e8;have s:=aa ct;have bk:=aa dt;have cp:=aa hE;clear bo b0 ct dt hE e8 hl a1 Y a2 l3 cl gb d0 r;go_upto_region 16 with fail
     rw [<-c9];clear c9 eE eF;have d2:=ab bk.out;have gF:=ab cp.out;rcases bg.out with ⟨rfl,y,rfl,bz,cc,Q⟩ | ⟨rfl,l7,hh,T,y,hd⟩
     ·obtain⟨cx,cy,c3,b7,c4,c5,c6,cz,cF,cG,cR,cU,cV,cX,c0,c1,c2⟩:=I.out C s.out.wo;have e2:=fun w=>iV c.key g.k w;rw [decide_eq_true cc] at e2;dsimp only [Rq.key] at e2;have dN:=aa (aN y (aN cc (aN Q bz)));clear y cc Q bg;rw [bz] at b7;clear bz;go_upto_region 21 with (go_quiet (fail))
      obtain⟨V,eV⟩:∃ V,V=C.drewN nq:=⟨_,rfl⟩;rw [<-eV];have ao:=s.out.below (X':=V) (eV▸below_drewN (Below.refl _ C) _);obtain⟨y,cc,Q,bz⟩:=dN.out;have bw:=ri L.time L.ks i.ls M.out.nd k bv;rw [<-ck.out,<-cc] at bw;have a4:Calls prog 61 #[pO f 0,oj c] V.drew (aQ f base Z ⟨L.time,dU L.time L.ks i.ls k⟩ c V.drew):=qb f base Z ⟨L.time,dU L.time L.ks i.ls k⟩ c V.drew (ao.bk.kept (fun _ _=>rfl)) ⟨b9,lq (rj L.time L.ks i.ls k) e0,jel b9 bi.out.qt M.out.ok.ln k⟩ Q (by rw [bz];simp) (lq g9 ao.nv.kp.size);have gN:bB ⟨L.time,dU L.time L.ks i.ls k⟩ c=(⟨L.time,dU L.time L.ks i.ls (k+1)⟩,⟨1,0,0⟩):=by
       rw [jbi bz bw];show ((⟨L.time,(dU L.time L.ks i.ls k).eraseIdx _⟩:Bk),_)=_;rw [jcE L.time L.ks i.ls k bv (by rw [<-ck.out];exact y)]
      have dv:=aa a4;have hK:=aa gN;obtain⟨i7,i8,j7,j8,ka,kb,kd,i9,jb,js,j0,j1,j2,j3,j4,j5,j6⟩:=I.out V ao.wo;have ad:=aa ao;clear ao y cc Q bz bw a4 gN eV cx cy c3 b7 c4 c5 c6 cz cF cG cR cU cV cX c0 c1 c2 d2 gF e2 dN s bk cp;have b3:Hid (∀ w':World,ae (fun b=>b=f\/Z.ownBlock=some b) V.drew w'->w'.cell? ⟨a,1,none⟩=some (.pointer (some ⟨f,0,none⟩))/\w'.cell? ⟨a,6,none⟩=some (.int .u8 c.op)/\w'.cell? ⟨a,7,none⟩=some (.int .u8 c.k0)/\w'.cell? ⟨a,8,none⟩=some (.int .u8 c.k1)/\w'.cell? ⟨a,9,none⟩=some (.int .u8 c.k2)/\w'.cell? ⟨a,10,none⟩=some (.int .u8 c.k3)/\w'.cell? ⟨a,11,none⟩=some (.int .u8 c.k4)/\w'.cell? ⟨a,12,none⟩=some (.int .u8 c.k5)/\w'.cell? ⟨a,13,none⟩=some (.int .u8 c.k6)/\w'.cell? ⟨a,14,none⟩=some (.int .u8 c.k7)/\w'.cell? ⟨a,15,none⟩=some (.int .u8 c.kd)/\w'.cell? ⟨a,16,none⟩=some (.int .u64 c.x)/\w'.cell? ⟨a,17,none⟩=some (.int .u64 c.y)/\w'.cell? ⟨a,18,none⟩=some (.int .u64 c.n)):=aa (fun dn q=>by
        obtain⟨_,ds,_,fU,fV,f0,f1,fm,fn,fo,fr,fs,fv,fz,fD,fN,_⟩:=I.out dn ((q.block a (am ad.out.wo) (fun d=>d.elim e7 (fun d=>ad.out.nb a d rfl))).trans ad.out.wo);exact⟨ds,fU,fV,f0,f1,fm,fn,fo,fr,fs,fv,fz,fD,fN⟩)
      go_region_held3 (fun w'=>w'.cell? ⟨a,1,none⟩=some (.pointer (some ⟨f,0,none⟩))/\w'.cell? ⟨a,6,none⟩=some (.int .u8 c.op)/\w'.cell? ⟨a,7,none⟩=some (.int .u8 c.k0)/\w'.cell? ⟨a,8,none⟩=some (.int .u8 c.k1)/\w'.cell? ⟨a,9,none⟩=some (.int .u8 c.k2)/\w'.cell? ⟨a,10,none⟩=some (.int .u8 c.k3)/\w'.cell? ⟨a,11,none⟩=some (.int .u8 c.k4)/\w'.cell? ⟨a,12,none⟩=some (.int .u8 c.k5)/\w'.cell? ⟨a,13,none⟩=some (.int .u8 c.k6)/\w'.cell? ⟨a,14,none⟩=some (.int .u8 c.k7)/\w'.cell? ⟨a,15,none⟩=some (.int .u8 c.kd)/\w'.cell? ⟨a,16,none⟩=some (.int .u64 c.x)/\w'.cell? ⟨a,17,none⟩=some (.int .u64 c.y)/\w'.cell? ⟨a,18,none⟩=some (.int .u64 c.n)) (first | go_keep | (exact a7))
       (first | (go_at_call 61;refine dv.out.mono ?_;rintro e U ⟨hn,rfl,N,K,dk⟩;have a7:=b3.out U K))
      all_goals (
        rw [hK.out] at N;have cn:=aa ((ad.out.below (Below.refl _ V).drew).bk' K N dk);clear N K dk a7 i7 i8 j7 j8 ka kb kd i9 jb js j0 j1 j2 j3 j4 j5 j6;go_wp2
        go_roundw)
      all_goals first | (exact⟨k+1,by omega,by go_num,rfl,_,_,_,cn.out⟩) | (simp [intOf];omega)
     ·have hO:=aa hd;have dN:=aa y;have hZ:=aa hh;obtain⟨cx,cy,c3,b7,c4,c5,c6,cz,cF,cG,cR,cU,cV,cX,c0,c1,c2⟩:=I.out C s.out.wo;clear bg hd y hh;go_wp2_with fail
      refine (jeC P a p f X b6 ch Z c bb bd W least L.time g 1 t b C M.out.wa (hU.out▸s.out.wo) s.out.bk.hb hP.out b9 l7 l8 hZ.out).mono ?_
      rintro e el ⟨rfl,d6⟩;have av:=s.out.below d6;have dl:=(d6.block o (am bk.out)).trans bk.out;have ei:=(d6.block j.heap.size (am cp.out)).trans cp.out;have bw:=ri L.time L.ks i.ls M.out.nd k bv;have eX:=jcF L.time L.ks i.ls k bv;rw [<-ck.out] at bw eX;have e5:=jcr f base Z ⟨L.time,dU L.time L.ks i.ls k⟩ g.k _ g t b el.drew (av.bk.kept (fun _ _=>rfl)) (lq (rj L.time L.ks i.ls k) e0) bw eX;have gR:putM ⟨L.time,dU L.time L.ks i.ls k⟩ (bZ L.time L.ks (i.ls.take k)).length g t b=⟨L.time,dU L.time L.ks i.ls (k+1)⟩:=by
       have J:=jcG L.time L.ks i.ls k bv (z:=T) (by rw [<-ck.out];exact dN.out);rw [<-ck.out,hO.out] at J;unfold putM;rw [<-J]
      rw [gR] at e5;have hW:=aa e5;obtain⟨kj,kk,kY,kZ,k0,k1,k2,kl,ko,kp,kq,ks,kt,kv,kw,kz,kK⟩:=I.out el av.wo;have k4:=ab dl;have i6:=ab ei;have hX:=aa av;have b3:Hid (∀ w':World,ae (fun b=>Z.ownBlock=some b) el.drew w'->w'.cell? ⟨a,1,none⟩=some (.pointer (some ⟨f,0,none⟩))/\w'.cell? ⟨j.heap.size,0,none⟩=some (.int .u8 g.k.k0)/\w'.cell? ⟨j.heap.size,1,none⟩=some (.int .u8 g.k.k1)/\w'.cell? ⟨j.heap.size,2,none⟩=some (.int .u8 g.k.k2)/\w'.cell? ⟨j.heap.size,3,none⟩=some (.int .u8 g.k.k3)/\w'.cell? ⟨j.heap.size,4,none⟩=some (.int .u8 g.k.k4)/\w'.cell? ⟨j.heap.size,5,none⟩=some (.int .u8 g.k.k5)/\w'.cell? ⟨j.heap.size,6,none⟩=some (.int .u8 g.k.k6)/\w'.cell? ⟨j.heap.size,7,none⟩=some (.int .u8 g.k.k7)/\w'.cell? ⟨o,1,none⟩=some (.int .u64 t)/\w'.cell? ⟨o,2,none⟩=some (.int .u64 b)):=aa (fun dn q=>by
        have eB:=ab (ci.out dn ((q.block a (am av.wo) (fun d=>av.nb a d rfl)).trans av.wo));have X:=ab ((q.block o (am dl) (fun d=>ax av.bk.ho d dl (by decide) rfl)).trans dl);have a0:=ab ((q.block j.heap.size (am ei) (fun d=>by have:=hQ.out _ d;omega)).trans ei);exact⟨(eB 1).trans rfl,(a0 0).trans rfl,(a0 1).trans rfl,(a0 2).trans rfl,(a0 3).trans rfl,(a0 4).trans rfl,(a0 5).trans rfl,(a0 6).trans rfl,(a0 7).trans rfl,(X 1).trans rfl,(X 2).trans rfl⟩)
      clear av dl ei e5 gR bw eX d6 d2 gF cx cy c3 b7 c4 c5 c6 cz cF cG cR cU cV cX c0 c1 c2 s bk cp;go_wp2_with fail
      go_region_held3 (fun w'=>w'.cell? ⟨a,1,none⟩=some (.pointer (some ⟨f,0,none⟩))/\w'.cell? ⟨j.heap.size,0,none⟩=some (.int .u8 g.k.k0)/\w'.cell? ⟨j.heap.size,1,none⟩=some (.int .u8 g.k.k1)/\w'.cell? ⟨j.heap.size,2,none⟩=some (.int .u8 g.k.k2)/\w'.cell? ⟨j.heap.size,3,none⟩=some (.int .u8 g.k.k3)/\w'.cell? ⟨j.heap.size,4,none⟩=some (.int .u8 g.k.k4)/\w'.cell? ⟨j.heap.size,5,none⟩=some (.int .u8 g.k.k5)/\w'.cell? ⟨j.heap.size,6,none⟩=some (.int .u8 g.k.k6)/\w'.cell? ⟨j.heap.size,7,none⟩=some (.int .u8 g.k.k7)/\w'.cell? ⟨o,1,none⟩=some (.int .u64 t)/\w'.cell? ⟨o,2,none⟩=some (.int .u64 b)) (first | go_keep | (exact a7))
       (first | (go_at_call 63;refine hW.out.mono ?_;rintro e U ⟨rfl,N,K⟩;have a7:=b3.out U K))
      all_goals (
        have cn:=aa ((hX.out.below (Below.refl _ el).drew).bk' (K.mono (fun b d _=>ir d)) N (fun g0 d=>il d));clear N K kj kk kY kZ k0 k1 k2 kl ko kp kq ks kt kv kw kz kK k4 i6 a7;go_wp2
        go_roundw)
      all_goals first | (exact⟨k+1,by omega,by go_num,rfl,_,_,_,cn.out⟩) | (simp [intOf];omega)
    ·have mp:¬(k:Int)<(v:Int):=by omega
     have mb:k=i.ls.length:=by have:=et.out;omega
     obtain⟨bs,d5⟩:∃ bs,bs=j.setCell ⟨a,5,none⟩ (.bool false):=⟨_,rfl⟩;have ej:=ci.out j r.out.wo;have eg:ae (fun n=>n=a) j bs:=d5▸ae.set (S:=fun n=>n=a) (b:=a) (ae.refl _ j) (il rfl) _ _;have fa:bs.heap[a]?=some (fO false p f X b6 c bb bd ch W least):=by
      rw [d5];simpa [fO] using ai ej 5 (.bool false)
     have l4:=r.out.nw.1;have gp:=r.out.nv.wrote eg (fun n dd=>by rw [dd];exact⟨il (il rfl),il (il rfl)⟩);have hk:=r.out.ks.kept (w':=bs) (fun E q=>eg.block E (by
       rcases q with d | d
       · rw [d];exact am r.out.ks.hb
       · exact (aj r.out.ks.ho d).2) (by
       rcases q with d | d
       · omega
       · have:=r.out.nw.2 E d;omega))
     have gv:=r.out.bk.kept (w':=bs) (fun E q=>eg.block E (by
       rcases q with d | d
       · rw [d];exact am r.out.bk.hb
       · exact (aj r.out.bk.ho d).2) (by
       rcases q with d | d
       · omega
       · exact r.out.nb E d))
     have hf:=jfz a p O R _ i blk D L A G (RP a f l) F (RQ a f O o Z (.slice mv i.ls.length mC)) w bs gp ((ab fa 0).trans rfl) hk e0 ⟨il (il rfl),ir (il rfl),fun n dd=>ir (ir (il dd))⟩ (fun mu md eb=>jo b8 bi.out (jgd mu md) (M.out.no _ eb));have hT:=aa hf;have hJ:=aa gv;have hV:=aa fa;have hS:=aa r.out.nl;have eB:=ab ej;have h3:=ag ej;clear hf gv fa hk gp eg ej l4;go_upto_region 27 with fail
     rw [<-d5];clear d5 eB h3 f4;go_wp2_with fail
     refine hT.out.mono ?_
     rintro e oc ⟨rfl,⟨hF,bl⟩,cv⟩;have hR:=aa (aN bl cv);clear bl cv;go_wp2
     go_ret
     obtain⟨bl,cv⟩:=hR.out;refine⟨rfl,Z,⟨hF,bl.hst,bl.kp,bl.gg,fun n dd=>(bl.q n (il dd)).2⟩,?_,hS.out,(cv a (il (il rfl))).trans hV.out⟩
     rw [<-jcD,<-mb];exact hJ.out.kept (fun E q=>cv E (il (ir q)))
end Go.Proofs.YtnlgndpcddngoaaGreatDoor
