import Derived.Test.YtnlgndpcddngoaaGreatDoorZd43
set_option linter.unusedVariables false
set_option linter.unusedSimpArgs false
set_option maxRecDepth 100000
set_option maxHeartbeats 8000000
namespace Go.Proofs.YtnlgndpcddngoaaGreatDoor
open Go.RowKit Go.Maps
theorem jec (vs:Array Value)(w:World):Sem.run Tryz.prog (callFunc 63 vs) w=.ok (.enter 63 vs) w:=by simp [go_sem]
def wobj (hb bb:Nat)(c2 c4 f0 f1 f2 f3 f4 f5 f6 f7 f8 f9 f10 f11 f12 was win lt:Value)(blk least:Int):Obj:=.cells #[.pointer (some ⟨hb,0,none⟩),.pointer (some ⟨bb,0,none⟩),c2,.int .u64 blk,c4,.bool false,f0,f1,f2,f3,f4,f5,f6,f7,f8,f9,f10,f11,f12,was,win,.int .u64 least,lt] 67
def RP (wb bb:Nat)(lv:Value)(b:Nat):Prop:=b=wb∨b=bb∨lv.ownBlock=some b
def RQ (wb bb cb rb:Nat)(lv lk:Value)(b:Nat):Prop:=RP wb bb lv b∨b=cb∨lk.ownBlock=some b∨b=rb
structure Rv (w wr:World)(wb hb bb base cb kb rb:Nat)(lv lk:Value)(o:Obj)(blk:Int)(D:Dx)(L:Ld)(B:Bk)(Bh:Nat)(G0 G:Nat→Prop)(i:Nat):Prop where
 nv:Nv w wr hb blk D L Bh G0 (RP wb bb lv) G (RQ wb bb cb rb lv lk)
 bk:BookAt wr bb base lv ⟨L.time,recL L.time L.ks B.ls i⟩
 ks:BookAt wr cb kb lk B
 wo:wr.heap[wb]?=some o
 ro:∃ x y z,wr.heap[rb]?=some (.cells #[.int .u8 x,.int .u64 y,.int .u64 z] 40)
 nw:w.heap.size≤cb∧w.heap.size≤rb∧∀ b,lk.ownBlock=some b→w.heap.size≤b
theorem jcx (wb hb bb base:Nat)(lv:Value)(B:Bk)(blkL blk least:Int)(D:Dx)(L:Ld)(Bh:Nat)(G:Nat→Prop)(c2 c4 f0 f1 f2 f3 f4 f5 f6 f7 f8 f9 f10 f11 f12 was win lt:Value)(w:World)(H:HstAt w hb blk D L Bh G)(hBh:Bh≤w.heap.size)(hw:w.heap[wb]?=some (wobj hb bb c2 c4 f0 f1 f2 f3 f4 f5 f6 f7 f8 f9 f10 f11 f12 was win lt blkL least))(hK:BookAt w bb base lv B)(hB:B.ok)(hG:∀ b,RP wb bb lv b→¬G b)
  (ht:L.time≤B.time) (hle:least≤L.time) (hblk:0≤blkL) (hp:Pos blkL L.time L.ks B.ls) (nd:(B.ls.map Ln.k).Nodup) (hko:∀ l∈B.ls,l.k.ok) :
  Calls Tryz.prog 40 #[.pointer (some ⟨wb,0,none⟩)] w fun e w'=>e=.returned (.bool true)∧(∃ G',HstAt w' hb blk D L Bh G'∧Keep (fun b=>G b∨RP wb bb lv b) w w'∧(∀ b,G' b→G b∨w.heap.size≤b)∧∀ b,RP wb bb lv b→¬G' b)∧BookAt w' bb base lv ⟨L.time,recL L.time L.ks B.ls B.ls.length⟩∧w'.heap[wb]?=some (wobj hb bb c2 c4 f0 f1 f2 f3 f4 f5 f6 f7 f8 f9 f10 f11 f12 was win lt blkL least):=by
 have hlok:=H.lok
 have hT:=hlok.time
 have hlen:=hp.len
 have hl12:=hB.len
 have lwb:=ltB hw
 have lbb:=ltB hK.hb
 have hwbb:wb≠bb:=fun e=>by
  have h1:=hK.hb
  rw [←e,hw] at h1
  simp [wobj] at h1
 have hbwb:bb≠wb:=fun e=>hwbb e.symm
 have hlw:∀ b,lv.ownBlock=some b→b≠wb∧b≠bb∧b<w.heap.size:=fun b hb'=>⟨jab hK.ho hb' hw (by decide),jab hK.ho hb' hK.hb (by decide),(ja5 hK.ho hb').2⟩
 obtain⟨o,ho⟩:∃ o,o=wobj hb bb c2 c4 f0 f1 f2 f3 f4 f5 f6 f7 f8 f9 f10 f11 f12 was win lt blkL least:=⟨_,rfl⟩
 have HO:=hide ho
 rw [←ho] at hw
 have HKR:Hid (∀ W:World,W.heap[wb]?=some o→W.heap[wb]?=some (.cells #[.pointer (some ⟨hb,0,none⟩),.pointer (some ⟨bb,0,none⟩),c2,.int .u64 blkL,c4,.bool false,f0,f1,f2,f3,f4,f5,f6,f7,f8,f9,f10,f11,f12,was,win,.int .u64 least,lt] 67)):=hide (fun W h=>by rw [h,ho];rfl)
 rw [←HO.out]
 have HAC:=hide (ask83 wb hb blk D L Bh G qClk ⟨1,L.time,0⟩ w H hBh ((cellB (HKR.out w hw) 0).trans rfl) (jiG hlok))
 have HH:=hide H
 have HW:=hide hw
 have HK:=hide hK
 have HB:=hide hB
 have HG:=hide hG
 have HP:=hide hp
 have HND:=hide nd
 have HKO:=hide hko
 have HLW:=hide hlw
 have HLOK:=hide hlok
 clear H hw hK hB hG hp nd hko hlw ho hlok
 go_enter Tryz.func40,Tryz.ntmps40
 go_wp2_with fail
 refine HAC.out.mono ?_
 rintro e w1 ⟨rfl,G1,g1,g2,g3⟩
 have N0:Nv w w hb blk D L Bh G (RP wb bb lv) G (RP wb bb lv):=⟨HH.out,Keep.refl _ w,fun b h=>Or.inl h,hBh,fun b h=>⟨by
   rcases h with h | h | h
   · omega
   · omega
   · exact (HLW.out b h).2.2,HG.out b h⟩⟩
 obtain⟨N1,U1⟩:=N0.asked g1 g2 g3
 obtain⟨V,hV⟩:∃ V,V=w1.alloc (.cells #[.int .u8 1,.int .u64 L.time,.int .u64 0] 40):=⟨_,rfl⟩
 obtain⟨rb,hrb⟩:∃ rb,rb=w1.heap.size:=⟨_,rfl⟩
 have vr:V.heap[rb]?=some (.cells #[.int .u8 1,.int .u64 L.time,.int .u64 0] 40):=by rw [hV,hrb];exact ja1 _ _
 have hBV:Below w1.heap.size w1 V:=hV▸(Below.refl _ w1).alloc (Nat.le_refl _) _
 have hrl:=ltB vr
 have NV:=(N1.below hBV).more (x:=rb) ⟨hrl,fun h=>by have:=N1.hst.lt rb h;omega⟩
 have UV:∀ b,RP wb bb lv b→V.heap[b]?=w.heap[b]?:=fun b hb'=>(hBV.block b (N1.q b hb').1).trans (U1 b hb')
 have vw:=(UV wb (Or.inl rfl)).trans HW.out
 have vb:BookAt V bb base lv B:=HK.out.kept (fun k hk=>UV k (Or.inr hk))
 have hws:=N1.kp.size
 have HNV:=hide NV
 have HVW:=hide vw
 have HVB:=hide vb
 have HVR:=hide vr
 have cw:=cellB (HKR.out V vw)
 have cb0:=cellB vb.hb
 have cr:=cellB vr
 have t1:¬B.time<L.time:=by omega
 have t2:¬L.time<least:=by omega
 clear N0 N1 U1 NV UV vw vb vr hBV g1 g2 g3
 go_upto_region 2 with fail
 rw [←hV]
 clear hV
 subst hrb
 go_wp2_with (go_quiet (fail))
 clear cw cb0 cr
 have hB0:Below V.heap.size V (V.drewN nq):=below_drewN (Below.refl _ V) _
 refine (jdE bb base lv B _ (HVB.out.below hB0 (Nat.le_refl _)) hl12).mono ?_
 rintro e w2 ⟨cb,lk,rfl,hK2,hcb,hb2⟩
 have hB2:Below V.heap.size V w2:=hB0.trans (hb2.mono hB0.size)
 obtain⟨kb,hkb⟩:∃ kb,kb=(V.drewN nq).heap.size:=⟨_,rfl⟩
 rw [←hkb] at hK2 hcb
 have hkV:V.heap.size≤kb:=hkb▸hB0.size
 have hVw:w.heap.size≤V.heap.size:=HNV.out.kp.size
 have hrV:w1.heap.size<V.heap.size:=ltB HVR.out
 have qV:=HNV.out.q
 have xw:=(hB2.block wb (qV wb (Or.inl (Or.inl rfl))).1).trans HVW.out
 have xr:=(hB2.block w1.heap.size hrV).trans HVR.out
 have xb:BookAt w2 bb base lv B:=HVB.out.kept (fun k hk=>hB2.block k (qV k (Or.inl (Or.inr hk))).1)
 have N2:Nv w w2 hb blk D L Bh G (RP wb bb lv) G1 (RQ wb bb cb w1.heap.size lv lk):=by
  have n:=HNV.out.below hB2
  refine⟨n.hst,n.kp,n.gg,n.bs,fun b hb'=>?_⟩
  rcases hb' with h | h | h | h
  ·exact n.q b (Or.inl h)
  ·rw [h]
   exact⟨ltB hK2.hb,fun hG1=>by have:=HNV.out.hst.lt _ hG1;omega⟩
  ·have hl:=ja5 hK2.ho h
   exact⟨hl.2,fun hG1=>by have:=HNV.out.hst.lt _ hG1;omega⟩
  ·exact n.q b (Or.inr h)
 have hrbb:w1.heap.size≠bb:=by omega
 have hrwb:w1.heap.size≠wb:=by omega
 have y0:=cellB (HKR.out w2 xw)
 have y1:=cellB xr
 have y2:=cellB xb.hb
 have y3:=ja2 xb.hb
 have HXB:=hide xb
 have HXW:=hide xw
 have HXR:=hide xr
 have HN2:=hide N2
 have HK2:=hide hK2
 have HNW:Hid (w.heap.size≤cb∧w.heap.size≤w1.heap.size∧∀ b,lk.ownBlock=some b→w.heap.size≤b):=hide ⟨by omega,by omega,fun b h=>by have:=(ja5 hK2.ho h).1;omega⟩
 have hcbb:cb≠bb:=by omega
 have HLK:Hid (∀ b,lk.ownBlock=some b→b≠bb∧b≠wb∧b≠cb∧b≠w1.heap.size):=hide (fun b h=>by
   have h1:=(ja5 hK2.ho h).1
   exact⟨by omega,by omega,jab hK2.ho h hK2.hb (by decide),by omega⟩)
 have HCN:Hid (cb≠wb∧cb≠w1.heap.size):=hide ⟨by omega,by omega⟩
 clear xb xw xr N2 hK2 hb2 hB2 hB0 qV hkb HVW HVB HVR HNV HAC
 go_wp2_with fail
 go_cut [] (fun wx=>BookAt wx bb base lv ⟨L.time,B.ls⟩∧Keep (fun b=>b=bb) w2 wx)
 case first=>
  go_region
  all_goals (go_wp2_with fail;go_meet)
  all_goals exact⟨(jgj HXB.out L.time).kept (fun _ _=>rfl),(Keep.set (S:=fun b=>b=bb) (b:=bb) (Keep.refl _ w2) (Or.inl rfl) _ _).drew⟩
 case rest=>
  obtain⟨b3,k3⟩:=hcut
  have R0:Rv w wc wb hb bb base cb kb w1.heap.size lv lk o blk D L B Bh G G1 0:=by
   refine⟨HN2.out.wrote k3 (fun b hb'=>by rw [hb'];exact⟨Or.inl (Or.inr (Or.inl rfl)),Or.inl (Or.inr (Or.inl rfl))⟩),?_,?_,?_,?_,HNW.out⟩
   ·have e:recL L.time L.ks B.ls 0=B.ls:=by unfold recL;simp
    rw [e]
    exact b3
   ·exact HK2.out.kept (fun b hb'=>k3.block b (HN2.out.q b (Or.inr (hb'.elim Or.inl (fun h=>Or.inr (Or.inl h))))).1 (by
       rcases hb' with h | h
       · rw [h];exact hcbb
       · exact (HLK.out b h).1))
   ·exact (k3.block wb (HN2.out.q wb (Or.inl (Or.inl rfl))).1 hwbb).trans HXW.out
   ·exact⟨_,_,_,(k3.block w1.heap.size (ltB HXR.out) hrbb).trans HXR.out⟩
  have HR0:=hide R0
  have z0:=cellB (HKR.out wc R0.wo)
  clear b3 k3 R0 y0 y1 y2 y3 HXB HXW HXR HN2 HK2 HNW
  go_wp2_with fail
  obtain⟨n,hn⟩:∃ n,n=B.ls.length:=⟨_,rfl⟩
  have HNN:=hide hn
  have hn12:(n:Int)≤12:=by omega
  clear hn z0
  go_loopw [4,6,7] (fun s4 s6 _ wr=>∃ i:Nat,i≤n∧s6=.int .i64 i∧s4=.bool true∧∃ G',Rv w wr wb hb bb base cb kb w1.heap.size lv lk o blk D L B Bh G G' i) (fun _ s6 _ _=>n - (intOf s6).toNat)
  case atStart=>exact⟨0,Nat.zero_le _,rfl,rfl,G1,HR0.out⟩
  case round=>
   obtain⟨i,hin,rfl,rfl,G',R1⟩:=hrel
   obtain⟨Y,rfl⟩:∃ Y,Y=wr:=⟨_,rfl⟩
   have y0:=cellB R1.ks.hb
   obtain⟨la,lc,hlk⟩:=ja8 R1.ks.ho
   have HR1:=hide R1
   subst hlk
   rw [←HNN.out] at y0
   clear R1 HR0
   by_cases hlt:i<n
   ·have hltI:(i:Int)<(n:Int):=by omega
    have hi0:(0:Int)≤(i:Int):=by omega
    have hil:i<B.ls.length:=by rw [←HNN.out];exact hlt
    have hik:i<L.ks.length:=by rw [hlen];exact hil
    obtain⟨l,hle2⟩:∃ l,l=B.ls[i]:=⟨_,rfl⟩
    have hget:B.ls[i]?=some l:=by rw [hle2];exact List.getElem?_eq_getElem hil
    have hlmem:l∈B.ls:=hle2▸List.getElem_mem hil
    obtain⟨g,gc,hgv,_,hgl,LL,_⟩:=HR1.out.ks.open hget
    injection hgv with p1 _ p2
    subst p1 p2
    obtain⟨d0,d1,d2,d3,d4,d5,d6,d7,d8,d9,d10,d11,d12⟩:=LL
    obtain⟨z,hz⟩:∃ z,z=L.ks[i].2:=⟨_,rfl⟩
    have hfnd:fnd l.k L.ks=some z:=by rw [hle2,hz];exact HP.out.some_ HLOK.out.nd i hik hil
    have hst:=(HP.out.at i hik hil).2
    rw [←hle2,←hz] at hst
    have has:=jgy (D:=D) HLOK.out (HKO.out l hlmem) hfnd
    have hzo:z.ok:=by rw [hz];exact HLOK.out.qt _ (List.getElem_mem hik)
    have hto:=jcc z L.time hzo hT.1 hT.2
    obtain⟨a,ha⟩:∃ a,a=(turnM z L.time).lv:=⟨_,rfl⟩
    obtain⟨b,hb'⟩:∃ b,b=(turnM z L.time).wn:=⟨_,rfl⟩
    have haa:=hto.lv
    rw [←ha,←hb'] at hst has
    rw [←ha] at haa
    have hlr:lnR L.time L.ks[i] B.ls[i]=⟨l.k,l.kd,l.x,l.y,a,b⟩:=by unfold lnR;rw [←hle2,←hz,←ha,←hb']
    have HLR:=hide hlr
    have HAS:=hide has
    have HST:=hide hst
    have HLO:=hide (HB.out.ln l hlmem)
    have HL2:=hide hle2
    clear hfnd hst has hzo hto ha hb' hlr hle2 hz hget hlmem
    obtain⟨V2,hV2⟩:∃ V2,V2=Y.alloc (.cells #[.int .u8 l.k.k0,.int .u8 l.k.k1,.int .u8 l.k.k2,.int .u8 l.k.k3,.int .u8 l.k.k4,.int .u8 l.k.k5,.int .u8 l.k.k6,.int .u8 l.k.k7,.int .u8 l.kd,.int .u64 l.x,.int .u64 l.y,.int .u64 l.at_,.int .u64 l.in_] 151):=⟨_,rfl⟩
    have vl:V2.heap[Y.heap.size]?=some (.cells #[.int .u8 l.k.k0,.int .u8 l.k.k1,.int .u8 l.k.k2,.int .u8 l.k.k3,.int .u8 l.k.k4,.int .u8 l.k.k5,.int .u8 l.k.k6,.int .u8 l.k.k7,.int .u8 l.kd,.int .u64 l.x,.int .u64 l.y,.int .u64 l.at_,.int .u64 l.in_] 151):=hV2▸ja1 _ _
    have hBV2:Below Y.heap.size Y V2:=hV2▸(Below.refl _ Y).alloc (Nat.le_refl _) _
    have N3:=(HR1.out.nv.below hBV2).more (x:=Y.heap.size) ⟨ltB vl,fun h=>by have:=HR1.out.nv.hst.lt _ h;omega⟩
    have HVL:=hide vl
    have HBV2:=hide hBV2
    have HN3:=hide N3
    have w0V:V2.cell? ⟨wb,0,none⟩=some (.pointer (some ⟨hb,0,none⟩)):=(cellB (HKR.out V2 ((hBV2.block wb (HR1.out.nv.q wb (Or.inl (Or.inl rfl))).1).trans HR1.out.wo)) 0).trans rfl
    have HQA:=hide (ask83 wb hb blk D L Bh G' (qk8 l.k) ⟨1,a,b⟩ V2 N3.hst N3.bs w0V HAS.out)
    clear N3 hBV2 vl w0V
    go_upto_region 15 with fail
    rw [←hV2]
    clear hV2 d0 d1 d2 d3 d4 d5 d6 d7 d8 d9 d10 d11 d12 y0
    have e0:=cellB HVL.out
    go_wp2_with fail
    refine HQA.out.mono ?_
    rintro e w5 ⟨rfl,G5,g1,g2,g3⟩
    obtain⟨N5,U5⟩:=HN3.out.asked g1 g2 g3
    obtain⟨x0,x1,x2,hro⟩:=HR1.out.ro
    have UY:∀ c,RQ wb bb cb w1.heap.size lv (.slice (some ⟨g,0,none⟩) B.ls.length lc) c→w5.heap[c]?=Y.heap[c]?:=fun c hc=>(U5 c (Or.inl hc)).trans (HBV2.out.block c (HR1.out.nv.q c hc).1)
    have r5:=(UY w1.heap.size (Or.inr (Or.inr (Or.inr rfl)))).trans hro
    have l5:=(U5 Y.heap.size (Or.inr rfl)).trans HVL.out
    have o5:=(UY wb (Or.inl (Or.inl rfl))).trans HR1.out.wo
    have b5:=HR1.out.bk.kept (w':=w5) (fun k hk=>UY k (Or.inl (Or.inr hk)))
    have k5:=HR1.out.ks.kept (w':=w5) (fun k hk=>UY k (Or.inr (hk.elim Or.inl (fun h=>Or.inr (Or.inl h)))))
    have hrY:=ltB hro
    obtain⟨Z,hZ⟩:∃ Z,Z=((w5.setCell ⟨w1.heap.size,0,none⟩ (.int .u8 1)).setCell ⟨w1.heap.size,1,none⟩ (.int .u64 a)).setCell ⟨w1.heap.size,2,none⟩ (.int .u64 b):=⟨_,rfl⟩
    have kZ:Keep (fun c=>c=w1.heap.size) w5 Z:=hZ▸Keep.set (S:=fun c=>c=w1.heap.size) (b:=w1.heap.size) (Keep.set (S:=fun c=>c=w1.heap.size) (b:=w1.heap.size) (Keep.set (S:=fun c=>c=w1.heap.size) (b:=w1.heap.size) (Keep.refl _ w5) (Or.inl rfl) _ _) (Or.inl rfl) _ _) (Or.inl rfl) _ _
    have zr:Z.heap[w1.heap.size]?=some (.cells #[.int .u8 1,.int .u64 a,.int .u64 b] 40):=by rw [hZ];simpa using ja4 (ja4 (ja4 r5 0 (.int .u8 1)) 1 (.int .u64 a)) 2 (.int .u64 b)
    have zl:=(kZ.block Y.heap.size (ltB l5) (by omega)).trans l5
    have zo:=(kZ.block wb (ltB o5) (fun e=>hrwb e.symm)).trans o5
    have zb:=b5.kept (w':=Z) (fun k hk=>kZ.block k (by
      rcases hk with h | h
      · rw [h];exact ltB b5.hb
      · exact (ja5 b5.ho h).2) (by
      rcases hk with h | h
      · rw [h];exact fun e=>hrbb e.symm
      · have:=(HLW.out k h).2.2;have:=HR1.out.nw.2.1;omega))
    have zk:=k5.kept (w':=Z) (fun k hk=>kZ.block k (by
      rcases hk with h | h
      · rw [h];exact ltB k5.hb
      · exact (ja5 k5.ho h).2) (by
      rcases hk with h | h
      · rw [h];exact HCN.out.2
      · exact (HLK.out k h).2.2.2))
    have NZ:=N5.wrote kZ (fun c hc=>by rw [hc];exact⟨Or.inl (Or.inr (Or.inr (Or.inr rfl))),Or.inr HR1.out.nw.2.1⟩)
    have f1:=cellB r5
    have f2:=ja2 r5
    have HNZ:=hide NZ
    have HZR:=hide zr
    have HZL:=hide zl
    have HZO:=hide zo
    have HZB:=hide zb
    have HZK:=hide zk
    clear N5 U5 UY r5 l5 o5 b5 k5 kZ zr zl zo zb zk NZ g1 g2 g3 hro e0 HQA HN3 HVL
    go_upto_region 16 with fail
    rw [←hZ]
    clear hZ f1 f2
    have cz:=cellB HZR.out
    have cl:=cellB HZL.out
    have co:=cellB (HKR.out Z HZO.out)
    go_wp2_with fail
    refine (jiX wb bb lv blkL L.time l 1 a b Z ⟨(co 1).trans rfl,(co 3).trans rfl,(co 5).trans rfl,HZB.out.hb⟩ HLO.out hT haa hblk HST.out).mono ?_
    rintro e w6 ⟨rfl,hb6⟩
    have N6:=(HNZ.out.below hb6).below (Below.refl _ w6).drew
    have o6:=(hb6.block wb (ltB HZO.out)).trans HZO.out
    have r6:=(hb6.block w1.heap.size (ltB HZR.out)).trans HZR.out
    have l6:=(hb6.block Y.heap.size (ltB HZL.out)).trans HZL.out
    have b6:=HZB.out.below hb6 (Nat.le_refl _)
    have k6:=HZK.out.below hb6 (Nat.le_refl _)
    have hidx:idx l.k (recL L.time L.ks B.ls i)=some i:=by
     rw [jeD l.k _ B.ls (jge L.time L.ks B.ls hlen i),HL2.out]
     exact jjc B.ls HND.out i hil
    have hgt:(recL L.time L.ks B.ls i)[i]?=some l:=by rw [jiQ L.time L.ks B.ls i hlen hil,HL2.out]
    have hpu:=jiM bb base lv ⟨L.time,recL L.time L.ks B.ls i⟩ l.k i l a b w6.drew (b6.kept (fun _ _=>rfl)) (by show (recL L.time L.ks B.ls i).length≤12;rw [jjb L.time L.ks B.ls i hlen];exact hl12) hidx hgt
    have epu:putM ⟨L.time,recL L.time L.ks B.ls i⟩ i l a b=⟨L.time,recL L.time L.ks B.ls (i+1)⟩:=by
     unfold putM
     rw [←jgk L.time L.ks B.ls i hlen hil hik,HLR.out]
    rw [epu] at hpu
    have HPU:=hide hpu
    have co6:=cellB (HKR.out w6 o6)
    have cr6:=cellB r6
    have cl6:=cellB l6
    have HN6:=hide N6
    have HO6:=hide o6
    have HR6:=hide r6
    have HK6:=hide k6
    clear N6 o6 r6 l6 b6 k6 hpu epu hidx hgt hb6 cz cl co HNZ HZR HZL HZO HZB HZK
    go_wp2_with fail
    go_region_law (refine jaj (by rfl) 63 jec _ _ (by rfl) #[.pointer (some ⟨bb,0,none⟩),.agg #[.int .u8 l.k.k0,.int .u8 l.k.k1,.int .u8 l.k.k2,.int .u8 l.k.k3,.int .u8 l.k.k4,.int .u8 l.k.k5,.int .u8 l.k.k6,.int .u8 l.k.k7],.int .u64 a,.int .u64 b] (by simp only [List.map_toArray,List.map_cons,List.map_nil];rfl) HPU.out ?_;rintro e T7 ⟨rfl,b7,k7⟩;refine⟨_,rfl,?_⟩)
    all_goals (
      have R7:Rv w T7 wb hb bb base cb kb w1.heap.size lv (.slice (some ⟨g,0,none⟩) B.ls.length lc) o blk D L B Bh G G5 (i+1):=by
        refine⟨(HN6.out.wrote k7 (fun c hc=>⟨Or.inl (Or.inl (Or.inr (Or.inr hc))),Or.inl (Or.inr (Or.inr hc))⟩)).sub (fun c hc=>Or.inl hc),b7,?_,?_,?_,HR1.out.nw⟩
        · refine HK6.out.kept (fun k hk=>k7.block k ?_ (fun h=>?_))
          · rcases hk with h | h
            · rw [h];exact ltB HK6.out.hb
            · exact (ja5 HK6.out.ho h).2
          · have h1:=(HLW.out k h).2.2
            have h2:=HR1.out.nw
            rcases hk with h3 | h3
            · rw [h3] at h1;omega
            · have:=h2.2.2 k h3;omega
        · exact (k7.block wb (ltB HO6.out) (fun h=>(HLW.out wb h).1 rfl)).trans HO6.out
        · exact⟨_,_,_,(k7.block w1.heap.size (ltB HR6.out) (fun h=>by have:=(HLW.out _ h).2.2;have:=HR1.out.nw.2.1;omega)).trans HR6.out⟩
      have HR7:=hide R7
      clear R7 b7 k7 co6 cr6 cl6
      go_wp2
      go_roundw)
    all_goals first | (exact⟨i+1,by omega,by go_num,rfl,G5,HR7.out⟩) | (simp [intOf];omega)
   ·have hltI:¬(i:Int)<(n:Int):=by omega
    have hie:i=B.ls.length:=by have:=HNN.out;omega
    obtain⟨Y2,hY2⟩:∃ Y2,Y2=Y.setCell ⟨wb,5,none⟩ (.bool false):=⟨_,rfl⟩
    have oY:=HKR.out Y HR1.out.wo
    have kY:Keep (fun c=>c=wb) Y Y2:=hY2▸Keep.set (S:=fun c=>c=wb) (b:=wb) (Keep.refl _ Y) (Or.inl rfl) _ _
    have oY2:Y2.heap[wb]?=some o:=by
     rw [HO.out,hY2]
     simpa [wobj] using ja4 oY 5 (.bool false)
    have NY:=HR1.out.nv.wrote kY (fun c hc=>by rw [hc];exact⟨Or.inl (Or.inl rfl),Or.inl (Or.inl rfl)⟩)
    have kK:=HR1.out.ks.kept (w':=Y2) (fun k hk=>kY.block k (by
      rcases hk with h | h
      · rw [h];exact ltB HR1.out.ks.hb
      · exact (ja5 HR1.out.ks.ho h).2) (by
      rcases hk with h | h
      · rw [h];exact HCN.out.1
      · exact (HLK.out k h).2.1))
    have bK:=HR1.out.bk.kept (w':=Y2) (fun k hk=>kY.block k (by
      rcases hk with h | h
      · rw [h];exact ltB HR1.out.bk.hb
      · exact (ja5 HR1.out.bk.ho h).2) (by
      rcases hk with h | h
      · rw [h];exact hbwb
      · exact (HLW.out k h).1))
    have hno:=jlm wb hb cb kb _ B blk D L Bh G (RP wb bb lv) G' (RQ wb bb cb w1.heap.size lv (.slice la B.ls.length lc)) w Y2 NY ((cellB (HKR.out Y2 oY2) 0).trans rfl) kK hl12 ⟨Or.inl (Or.inl rfl),Or.inr (Or.inl rfl),fun c hc=>Or.inr (Or.inr (Or.inl hc))⟩ (fun j hj hn=>jgH HLOK.out (kc_ok j hj) (HP.out.none_ hn))
    have HNO:=hide hno
    have HBK:=hide bK
    have HOY:=hide oY2
    have c1:=cellB oY
    have c2':=ja2 oY
    clear hno bK oY2 kK NY kY oY
    go_upto_region 27 with fail
    rw [←hY2]
    clear hY2 c1 c2' y0
    go_wp2_with fail
    refine HNO.out.mono ?_
    rintro e w9 ⟨rfl,⟨G9,N9⟩,U9⟩
    have HN9:=hide (And.intro N9 U9)
    clear N9 U9
    go_wp2
    go_ret
    obtain⟨N9,U9⟩:=HN9.out
    refine⟨rfl,⟨G9,N9.hst,N9.kp,N9.gg,fun c hc=>(N9.q c (Or.inl hc)).2⟩,?_,(U9 wb (Or.inl (Or.inl rfl))).trans HOY.out⟩
    rw [←hie]
    exact HBK.out.kept (fun k hk=>U9 k (Or.inl (Or.inr hk)))
end Go.Proofs.YtnlgndpcddngoaaGreatDoor
