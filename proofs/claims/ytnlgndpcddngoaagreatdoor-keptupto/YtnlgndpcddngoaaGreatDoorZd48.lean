import Derived.Test.YtnlgndpcddngoaaGreatDoorZd47
import Derived.Deep.RegionHeld3
set_option linter.unusedVariables false
set_option linter.unusedSimpArgs false
set_option maxRecDepth 100000
set_option maxHeartbeats 8000000
namespace Go.Proofs.YtnlgndpcddngoaaGreatDoor
open Go.RowKit Go.Maps
def sobj (a0 a1 a2 a3 a4 a5:Value)(left full kept part:Int):Obj:=.cells #[a0,a1,a2,a3,a4,a5,.int .i64 left,.int .i64 full,.int .i64 kept,.int .i64 part] 69
def jjk (W:World)(wb hb bb base:Nat)(lv:Value)(B:Bk)(blk least:Int)(f0 f1 f2 f3 f4 f5 f6 f7 f8 f9 f10 f11 f12 was win:Value)(Bh:Nat)(G:Nat→Prop)(e:Ending)(w':World):Prop:=e=.returned (.bool true)∧∃ (L':Ld) (G':Nat→Prop) (v:Value) (tb:Nat→Nat),HstAt w' hb blk ⟨L'.time,true⟩ L' Bh G'∧L'.adm=0∧BookAt w' bb base lv (recB L' B)∧Sim L'.time L' (recB L' B)∧least≤L'.time∧w'.heap[wb]?=some (wobj hb bb v (.bool false) f0 f1 f2 f3 f4 f5 f6 f7 f8 f9 f10 f11 f12 was win (.int .u64 0) blk least)∧(w'.ownsRow W.heap.size 101 1 v 3 (ptrs tb 3)∧(∀ j,j<3→w'.heap[tb j]?=some (.cells #[.slice none 0 0,.bool false] 103)∧W.heap.size≤tb j∧¬G' (tb j))∧(∀ j k,j<3→k<3→tb j=tb k→j=k)∧∀ b,v.ownBlock=some b→¬G' b)∧(∀ b,RP wb bb lv b→¬G' b)∧Fr W w' G G' wb bb lv Bh
theorem jhb (ev:Bool)(w0 W:World)(wb hb bb base:Nat)(lv:Value)(B:Bk)(blk least:Int)(D:Dx)(L:Ld)(Bh:Nat)(G:Nat→Prop)(c2 c4 f0 f1 f2 f3 f4 f5 f6 f7 f8 f9 f10 f11 f12 was win lt a0 a1 a2 a3 a4 a5:Value)(left full kept part:Int)(p0:-9223372036854775808≤part)(p1:part≤9223372036854775807)
  (hev:pickM part 2=if ev then 0 else 1) (hU:US ev w0 W hb blk D L Bh G) (hB1:Bh≤w0.heap.size) (hB2:Bh≤W.heap.size) (hw:W.heap[wb]?=some (wobj hb bb c2 c4 f0 f1 f2 f3 f4 f5 f6 f7 f8 f9 f10 f11 f12 was win lt blk least)) (hK:BookAt W bb base lv B) (hS:Sim D.t L B) (hle:least≤D.t) (hblk:0≤blk) (hQ:QOk W G (RP wb bb lv)) (hgl:W.cell? ⟨0,0,none⟩=some (.iface 236 (.agg #[.pointer (some ⟨5,97,none⟩)]))) (hE:0<Bh∧¬G 0) :
  Calls Tryz.prog 26 #[.pointer (some ⟨wb,0,none⟩),.agg #[a0,a1,a2,a3,a4,a5,.int .i64 left,.int .i64 full,.int .i64 kept,.int .i64 part]] W fun e w'=>jjk W wb hb bb base lv B blk least f0 f1 f2 f3 f4 f5 f6 f7 f8 f9 f10 f11 f12 was win Bh G e w':=by
 have hwbb:wb≠bb:=fun e=>by
  have h1:=hK.hb
  rw [←e,hw] at h1
  simp [wobj] at h1
 have hbwb:bb≠wb:=fun e=>hwbb e.symm
 have HLW:Hid (∀ b,lv.ownBlock=some b→b≠wb∧b≠bb):=hide (fun b hb'=>⟨jab hK.ho hb' hw (by decide),jab hK.ho hb' hK.hb (by decide)⟩)
 have HRL:Hid (∀ b,RP wb bb lv b→b<W.heap.size):=hide (fun b hb'=>hQ.lt hb')
 have HPK:=hide (fun w=>jeK part 2 w (by omega) (by omega) p0 p1)
 obtain⟨pk,hpk⟩:∃ pk,pk=pickM part 2:=⟨_,rfl⟩
 rw [←hpk] at HPK hev
 obtain⟨X,hX⟩:∃ X,X=W.alloc (sobj a0 a1 a2 a3 a4 a5 left full kept part):=⟨_,rfl⟩
 obtain⟨sx,hsx⟩:∃ sx,sx=W.heap.size:=⟨_,rfl⟩
 have xs:X.heap[sx]?=some (sobj a0 a1 a2 a3 a4 a5 left full kept part):=by rw [hX,hsx];exact ja1 _ _
 have hBX:Below W.heap.size W X:=hX▸(Below.refl _ W).alloc (Nat.le_refl _) _
 have hUX:=hU.below hBX
 obtain⟨hQX,uX⟩:=hQ.below hBX
 have hnGs:¬G sx:=fun h=>by
  have hl:∀ b,G b→b<W.heap.size:=fun b hb'=>by
   cases ev
   ·obtain⟨_,_,_,_,_,_,_,_,_,h6⟩:=(hU:HsuAt W hb blk D L Bh G)
    exact (h6 b hb').2
   ·obtain⟨db,F,hG0,hlo,c0,mb,nb,h1,h2,h3,h4,h5,h6,h7,h8⟩:=(hU:DwnAt w0 W hb blk D L Bh G)
    have:=(hlo b hb').2
    have:=h8.size
    omega
  have:=hl sx h
  omega
 have hQ2:QOk X G (fun b=>RP wb bb lv b∨b=sx):=fun b hb'=>by
  rcases hb' with h | h
  ·exact hQX b h
  ·rw [h];exact⟨hnGs,_,_,_,xs⟩
 have xw:=(uX wb (Or.inl rfl)).trans hw
 have xb:BookAt X bb base lv B:=hK.kept (fun k hk=>uX k (Or.inr hk))
 have hlE:=jaN hgl
 have xg:=(hBX.cell (p:=⟨0,0,none⟩) hlE).trans hgl
 have HUX:=hide hUX
 have HQ2:=hide hQ2
 have HXW:=hide xw
 have HXW0:=hide hw
 have HXB:=hide xb
 have HXS:=hide xs
 have HXG:=hide xg
 have HBX:=hide hBX
 have hloG:∀ b,G b→Bh≤b:=fun b hb'=>by
  cases ev
  ·obtain⟨_,_,_,_,_,_,_,_,_,h6⟩:=(hU:HsuAt W hb blk D L Bh G)
   exact (h6 b hb').1
  ·obtain⟨db,F,hG0,hlo,_⟩:=(hU:DwnAt w0 W hb blk D L Bh G)
   exact (hlo b hb').1
 have HLO:=hide hloG
 have HFX:Hid (Fr W X G G wb bb lv Bh):=hide (Fr.start.step (Keep.of_below hBX) (fun b h=>Or.inl h) hloG)
 have HS:=hide hS
 have hBX2:Bh≤X.heap.size:=Nat.le_trans hB2 hBX.size
 have HSO:Hid (∀ w:World,w.heap[sx]?=some (sobj a0 a1 a2 a3 a4 a5 left full kept part)→w.heap[sx]?=some (.cells #[a0,a1,a2,a3,a4,a5,.int .i64 left,.int .i64 full,.int .i64 kept,.int .i64 part] 69)):=hide (fun w h=>h)
 have HWO:Hid (∀ (w:World) (c2 c4 lt:Value) (bk:Int),w.heap[wb]?=some (wobj hb bb c2 c4 f0 f1 f2 f3 f4 f5 f6 f7 f8 f9 f10 f11 f12 was win lt bk least)→w.heap[wb]?=some (.cells #[.pointer (some ⟨hb,0,none⟩),.pointer (some ⟨bb,0,none⟩),c2,.int .u64 bk,c4,.bool false,f0,f1,f2,f3,f4,f5,f6,f7,f8,f9,f10,f11,f12,was,win,.int .u64 least,lt] 67)):=hide (fun w _ _ _ _ h=>h)
 have e0:=cellB (HSO.out X xs)
 have e1:=cellB (HWO.out X _ _ _ _ xw)
 clear hUX hQX uX hQ2 xw xb xs xg hBX hS hU hQ hw hK hgl hpk hloG
 go_enter Tryz.func26,Tryz.ntmps26
 go_upto_region 2 with fail
 rw [show W.alloc (.cells #[a0,a1,a2,a3,a4,a5,.int .i64 left,.int .i64 full,.int .i64 kept,.int .i64 part] 69)=X from hX.symm,←hsx]
 have HSX:=hide hsx
 clear hX hsx
 go_cut [13] (fun s13 wx=>s13=.bool ev∧wx=X)
 case first=>
  go_wp2_with fail
  refine (HPK.out _).mono ?_
  rintro e wy ⟨rfl,he1⟩
  rw [he1]
  clear he1
  cases ev with
  | false=>
   rw [if_neg (by simp)] at hev
   rw [hev]
   go_wp2_with fail
   go_meet
   exact⟨rfl,rfl⟩
  | true=>
   rw [if_pos rfl] at hev
   rw [hev]
   go_wp2_with fail
   go_meet
   exact⟨rfl,rfl⟩
 case rest=>
 obtain⟨rfl,hcut⟩:=hcut
 rw [hcut]
 clear hcut
 go_upto_if 13 with fail
 go_cut [5] (fun s5 wx=>∃ code:Int,s5=.int .i64 code∧(code=0∨(code=4∨code=5)∧¬(left<0∧full<0))∧US ev w0 wx hb blk D L Bh G∧Keep G X wx)
 case first=>
  cases ev with
  | false=>
   go_wp2_with fail
   go_meet
   exact⟨0,rfl,Or.inl rfl,HUX.out,Keep.refl _ X⟩
  | true=>
   have HDO:=hide (jhP (jc6 (HUX.out:DwnAt w0 X hb blk D L Bh G) (Below.refl _ X).drew) left full kept part p0 p1 HXG.out hE.1)
   go_upto_region 3 with fail
   have HCE:Hid (∀ wz:World,Keep G X.drew wz→wz.cell? ⟨wb,0,none⟩=some (.pointer (some ⟨hb,0,none⟩))∧wz.cell? ⟨sx,6,none⟩=some (.int .i64 left)∧wz.cell? ⟨sx,7,none⟩=some (.int .i64 full)∧wz.cell? ⟨sx,8,none⟩=some (.int .i64 kept)∧wz.cell? ⟨sx,9,none⟩=some (.int .i64 part)):=hide (fun wz hk=>by
     have uu:=(HQ2.out.kept ((Keep.of_below (Below.refl _ X).drew).trans hk)).2
     have c1:=cellB (HSO.out wz ((uu sx (Or.inr rfl)).trans HXS.out))
     have c2:=cellB (HWO.out wz _ _ _ _ ((uu wb (Or.inl (Or.inl rfl))).trans HXW.out))
     exact⟨(c2 0).trans rfl,(c1 6).trans rfl,(c1 7).trans rfl,(c1 8).trans rfl,(c1 9).trans rfl⟩)
   go_region_held3 (fun w'=>w'.cell? ⟨wb,0,none⟩=some (.pointer (some ⟨hb,0,none⟩))∧w'.cell? ⟨sx,6,none⟩=some (.int .i64 left)∧w'.cell? ⟨sx,7,none⟩=some (.int .i64 full)∧w'.cell? ⟨sx,8,none⟩=some (.int .i64 kept)∧w'.cell? ⟨sx,9,none⟩=some (.int .i64 part)) (first | go_keep | (exact hcells))
    (first | (go_at_call 20;refine HDO.out.mono ?_;rintro e wz ⟨code,rfl,hcode,hd,hk⟩;have hcells:=HCE.out wz hk))
   all_goals (go_wp2_with fail;go_meet)
   all_goals exact⟨code,rfl,hcode,hd,(Keep.of_below (Below.refl _ X).drew).trans hk⟩
 case rest=>
  obtain⟨code,rfl,hcode,u1,k1⟩:=hcut
  obtain⟨X1,rfl⟩:∃ X1,X1=wc:=⟨_,rfl⟩
  obtain⟨hQ3,uu⟩:=HQ2.out.kept k1
  have s1:=(uu sx (Or.inr rfl)).trans HXS.out
  have w1:=(uu wb (Or.inl (Or.inl rfl))).trans HXW.out
  have b1:BookAt X1 bb base lv B:=HXB.out.kept (fun k hk=>uu k (Or.inl (Or.inr hk)))
  have HU1:=hide u1
  have HQ3:=hide hQ3
  have HS1:=hide s1
  have HW1:=hide w1
  have HB1:=hide b1
  have HK1:=hide k1
  have z0:=cellB (HSO.out X1 s1)
  have z1:=cellB (HWO.out X1 _ _ _ _ w1)
  clear u1 k1 hQ3 uu s1 w1 b1 e0 e1 HUX HQ2 HXW HXB HXS
  go_upto_region 4 with fail
  go_cut [50] (fun s50 wx=>s50=.bool false∧wx=X1)
  case first=>
   rcases hcode with rfl | ⟨hc,hlf⟩
   ·go_wp2_with (go_quiet (fail))
    go_meet
    exact⟨rfl,rfl⟩
   ·rcases hc with rfl | rfl
    ·by_cases hl0:left<0
     ·have hf0:¬full<0:=fun h=>hlf ⟨hl0,h⟩
      go_wp2_with (go_quiet (fail))
      go_meet
      exact⟨rfl,rfl⟩
     ·go_wp2_with (go_quiet (fail))
      go_meet
      exact⟨rfl,rfl⟩
    ·by_cases hl0:left<0
     ·have hf0:¬full<0:=fun h=>hlf ⟨hl0,h⟩
      go_wp2_with (go_quiet (fail))
      go_meet
      exact⟨rfl,rfl⟩
     ·go_wp2_with (go_quiet (fail))
      go_meet
      exact⟨rfl,rfl⟩
  case rest=>
   obtain⟨rfl,hcut⟩:=hcut
   rw [hcut]
   clear hcut
   obtain⟨Y1,rfl⟩:∃ Y1,Y1=X1:=⟨_,rfl⟩
   clear hcode
   go_upto_region 6 with fail
   go_cut [54] (fun s54 wx=>s54=.bool ev∧wx=Y1)
   case first=>
    go_wp2_with fail
    refine (HPK.out _).mono ?_
    rintro e wy ⟨rfl,he1⟩
    rw [he1]
    clear he1
    cases ev with
    | false=>
     rw [if_neg (by simp)] at hev
     rw [hev]
     go_wp2_with fail
     go_meet
     exact⟨rfl,rfl⟩
    | true=>
     rw [if_pos rfl] at hev
     rw [hev]
     go_wp2_with fail
     go_meet
     exact⟨rfl,rfl⟩
   case rest=>
   obtain⟨rfl,hcut⟩:=hcut
   rw [hcut]
   clear hcut
   go_upto_if 54 with fail
   go_cut [] (fun wx=>US ev w0 wx hb blk D L Bh G∧Keep G Y1 wx)
   case first=>
    cases ev with
    | false=>
     go_wp2_with fail
     go_meet
     exact⟨HU1.out,Keep.refl _ _⟩
    | true=>
     have HDL:=hide (ji7 (jc6 (HU1.out:DwnAt w0 Y1 hb blk D L Bh G) (Below.refl _ Y1).drew) kept part p0 p1)
     go_upto_region 7 with fail
     have HCE:Hid (∀ wz:World,Keep G Y1.drew wz→wz.cell? ⟨wb,0,none⟩=some (.pointer (some ⟨hb,0,none⟩))∧wz.cell? ⟨sx,8,none⟩=some (.int .i64 kept)∧wz.cell? ⟨sx,9,none⟩=some (.int .i64 part)):=hide (fun wz hk=>by
       have uu:=(HQ3.out.kept ((Keep.of_below (Below.refl _ Y1).drew).trans hk)).2
       have c1:=cellB (HSO.out wz ((uu sx (Or.inr rfl)).trans HS1.out))
       have c2:=cellB (HWO.out wz _ _ _ _ ((uu wb (Or.inl (Or.inl rfl))).trans HW1.out))
       exact⟨(c2 0).trans rfl,(c1 8).trans rfl,(c1 9).trans rfl⟩)
     go_region_held3 (fun w'=>w'.cell? ⟨wb,0,none⟩=some (.pointer (some ⟨hb,0,none⟩))∧w'.cell? ⟨sx,8,none⟩=some (.int .i64 kept)∧w'.cell? ⟨sx,9,none⟩=some (.int .i64 part)) (first | go_keep | (exact hcells))
      (first | (go_at_call 25;refine HDL.out.mono ?_;rintro e wz ⟨rfl,hd,hk⟩;have hcells:=HCE.out wz hk))
     all_goals (go_wp2_with fail;go_meet)
     all_goals exact⟨hd,(Keep.of_below (Below.refl _ Y1).drew).trans hk⟩
   case rest=>
    obtain⟨u2,k2⟩:=hcut
    obtain⟨X2,rfl⟩:∃ X2,X2=wc:=⟨_,rfl⟩
    obtain⟨hQ4,uu⟩:=HQ3.out.kept k2
    have s2:=(uu sx (Or.inr rfl)).trans HS1.out
    have w2:=(uu wb (Or.inl (Or.inl rfl))).trans HW1.out
    have b2:BookAt X2 bb base lv B:=HB1.out.kept (fun k hk=>uu k (Or.inl (Or.inr hk)))
    have HKX:Hid (Keep G X X2):=hide (HK1.out.trans k2)
    have HF2:Hid (Fr W X2 G G wb bb lv Bh):=hide (HFX.out.step (HKX.out.mono (fun b h _=>Or.inl h)) (fun b h=>Or.inl h) HLO.out)
    have hB3:Bh≤X2.heap.size:=Nat.le_trans hBX2 HKX.out.size
    have HUW:=hide (jgW u2 HS.out.lok hB1 hB3)
    have HQ4:=hide hQ4
    have HS2:=hide s2
    have HW2:=hide w2
    have HB2:=hide b2
    have z2:=cellB (HWO.out X2 _ _ _ _ w2)
    clear u2 k2 hQ4 uu s2 w2 b2 z0 z1 HQ3 HS1 HW1 HB1 HK1 HU1
    go_wp2_with fail
    refine HUW.out.mono ?_
    rintro e X3 ⟨L1,G1,rfl,h3,rc1,k3,g3⟩
    obtain⟨hQ5,uu⟩:=HQ4.out.well k3 g3
    have s3:=(uu sx (Or.inr rfl)).trans HS2.out
    have w3:=(uu wb (Or.inl (Or.inl rfl))).trans HW2.out
    have b3:BookAt X3 bb base lv B:=HB2.out.kept (fun k hk=>uu k (Or.inl (Or.inr hk)))
    have HKX3:Hid (Keep G X X3):=hide (HKX.out.trans k3)
    have hlok1:=h3.lok
    have H18:=hide (jgi wb _ _ _ _ _ _ _ _ _ _ _ _ _ _ _ _ _ _ _ _ _ _ _ X3 (HWO.out X3 _ _ _ _ w3))
    have HH3:=hide h3
    have HRC:=hide rc1
    have HQ5:=hide hQ5
    have HS3:=hide s3
    have HB3:=hide b3
    have HL1:=hide hlok1
    have HF3:Hid (Fr W X3 G G1 wb bb lv Bh):=hide (HF2.out.step (k3.mono (fun b h _=>Or.inl h)) g3 (fun b h=>h3.lo b h))
    clear h3 rc1 k3 g3 HF2 hQ5 uu s3 w3 b3 hlok1 z2 HUW HQ4 HS2 HW2 HB2 HKX
    go_wp2_with fail
    refine H18.out.mono ?_
    rintro e X4 ⟨rfl,v4,tb4,I4⟩
    obtain⟨hQ6,uu⟩:=op_q I4 HQ5.out (Or.inl (Or.inl rfl))
    have hGn1:∀ b,RP wb bb lv b→¬G1 b:=fun b hb'=>(HQ5.out b (Or.inl hb')).1
    have h4:=jjr I4 HH3.out (hGn1 wb (Or.inl rfl))
    have w4:X4.heap[wb]?=some (wobj hb bb v4 (.bool false) f0 f1 f2 f3 f4 f5 f6 f7 f8 f9 f10 f11 f12 was win (.int .u64 0) blk least):=I4.blk
    have s4:=(uu sx (Or.inr rfl) (fun e=>by have:=ltB HXW0.out;have:=HSX.out;omega)).trans HS3.out
    have b4:BookAt X4 bb base lv B:=HB3.out.kept (fun k hk=>uu k (Or.inl (Or.inr hk)) (by
      rcases hk with h | h
      · rw [h];exact hbwb
      · exact (HLW.out k h).1))
    have hB4:Bh≤X4.heap.size:=Nat.le_trans hBX2 (Nat.le_trans HKX3.out.size I4.keep.size)
    have HRV:=hide (jcx wb hb bb base lv B blk blk least ⟨L1.time,true⟩ L1 Bh G1 v4 (.bool false) f0 f1 f2 f3 f4 f5 f6 f7 f8 f9 f10 f11 f12 was win (.int .u64 0) X4 h4 hB4 w4 b4 HS.out.bok hGn1 (by have:=HRC.out.time;have:=HS.out.time;omega) (by have:=HRC.out.dt;omega) hblk (jhu HRC.out.dt HS.out.lines HS.out.lok.qt HRC.out.pw) HS.out.nd HS.out.kok)
    have HS4:=hide s4
    have HQ6:=hide hQ6
    have HF4:Hid (Fr W X4 G G1 wb bb lv Bh):=hide (HF3.out.step (I4.keep.mono (fun b h _=>Or.inr (Or.inl (Or.inl h)))) (fun b h=>Or.inl h) (fun b h=>h4.lo b h))
    clear I4 uu h4 w4 s4 b4 hQ6 HQ5 HS3 HB3 H18 HH3 HKX3 HF3
    go_wp2_with fail
    refine HRV.out.mono ?_
    rintro e X5 ⟨rfl,⟨G5,h5,k5,g5,q5⟩,b5,w5⟩
    have elen:L1.ks.length=B.ls.length:=(jhu HRC.out.dt HS.out.lines HS.out.lok.qt HRC.out.pw).len
    rw [jgO elen] at b5
    have hsP:¬RP wb bb lv sx:=fun h=>by have:=HRL.out sx h;have:=HSX.out;omega
    have s5:=(k5.block sx (ltB HS4.out) (fun h=>h.elim (HQ6.out sx (Or.inr rfl)).1 hsP)).trans HS4.out
    have hG5:∀ b,RP wb bb lv b∨b=sx→¬G5 b:=fun b hb' hG=>by
     rcases hb' with h | h
     ·exact q5 b h hG
     ·rw [h] at hG
      rcases g5 sx hG with h' | h'
      ·exact (HQ6.out sx (Or.inr rfl)).1 h'
      ·have:=ltB HS4.out;omega
    have hQ7:=jl8 w5 b5 s5 hG5
    have HF5:Hid (Fr W X5 G G5 wb bb lv Bh):=hide (HF4.out.step (k5.mono (fun b h _=>h.imp id Or.inl)) (fun b h=>(g5 b h).imp id Or.inl) (fun b h=>h5.lo b h))
    have hB5:Bh≤X5.heap.size:=Nat.le_trans hB4 k5.size
    have HDL:=hide (jhD hb blk ⟨L1.time,true⟩ L1 Bh G5 kept part X5.drew (HstAt.up (w:=X5.drew) (h5.quiet (Nat.le_refl _) (fun _ _=>rfl))) p0 p1)
    have HCE:Hid (∀ wz:World,DwnAt X5.drew wz hb blk ⟨L1.time,true⟩ L1 Bh G5→wz.cell? ⟨wb,0,none⟩=some (.pointer (some ⟨hb,0,none⟩))∧wz.cell? ⟨sx,8,none⟩=some (.int .i64 kept)∧wz.cell? ⟨sx,9,none⟩=some (.int .i64 part)):=hide (fun wz hd=>by
      have uu:=(hQ7.kept ((Keep.of_below (Below.refl _ X5).drew).trans hd.keepG)).2
      have c1:=cellB (HSO.out wz ((uu sx (Or.inr rfl)).trans s5))
      have c2:=cellB (HWO.out wz _ _ _ _ ((uu wb (Or.inl (Or.inl rfl))).trans w5))
      exact⟨(c2 0).trans rfl,(c1 8).trans rfl,(c1 9).trans rfl⟩)
    have HQ7:=hide hQ7
    have HS5:=hide s5
    have HW5:=hide w5
    have HB5:=hide b5
    have HSM:=hide (HS.out.rec_ HRC.out HL1.out)
    have z5:=cellB (HWO.out X5 _ _ _ _ w5)
    have y5:=cellB (HSO.out X5 s5)
    clear h5 k5 g5 q5 b5 w5 s5 hQ7 hG5 hGn1 HRV HS4 HQ6 HF4
    go_upto_region 15 with fail
    go_cut [] (fun wx=>DwnAt X5.drew wx hb blk ⟨L1.time,true⟩ L1 Bh G5)
    case first=>
     go_region_held3 (fun w'=>w'.cell? ⟨wb,0,none⟩=some (.pointer (some ⟨hb,0,none⟩))∧w'.cell? ⟨sx,8,none⟩=some (.int .i64 kept)∧w'.cell? ⟨sx,9,none⟩=some (.int .i64 part)) (first | go_keep | (exact hcells))
      (first | (go_at_call 25;refine HDL.out.mono ?_;rintro e wz ⟨rfl,hd⟩;have hcells:=HCE.out wz hd))
     all_goals (go_wp2_with fail;go_meet)
     all_goals exact hd
    case rest=>
     obtain⟨X6,rfl⟩:∃ X6,X6=wc:=⟨_,rfl⟩
     have d6:=hcut
     have k6:Keep G5 X5 X6:=(Keep.of_below (Below.refl _ X5).drew).trans d6.keepG
     obtain⟨hQ8,uu⟩:=HQ7.out.kept k6
     have w6:=(uu wb (Or.inl (Or.inl rfl))).trans HW5.out
     have b6:BookAt X6 bb base lv (recB L1 B):=HB5.out.kept (fun k hk=>uu k (Or.inl (Or.inr hk)))
     have HUW:=hide (jgW (ev:=true) (w0:=X5.drew) (w:=X6) d6 HL1.out (show Bh≤X5.drew.heap.size from hB5) (Nat.le_trans hB5 k6.size))
     have HF6:Hid (Fr W X6 G G5 wb bb lv Bh):=hide (HF5.out.step (k6.mono (fun b h _=>Or.inl h)) (fun b h=>Or.inl h) (fun b h=>by
       obtain⟨db,F,hG0,hlo,_⟩:=d6
       exact (hlo b h).1))
     have HQ8:=hide hQ8
     have HW6:=hide w6
     have HB6:=hide b6
     have hB6:Bh≤X6.heap.size:=Nat.le_trans hB5 k6.size
     have z6:=cellB (HWO.out X6 _ _ _ _ w6)
     clear hcut d6 k6 hQ8 uu w6 b6 z5 y5 HDL HCE HQ7 HS5 HW5 HB5 HF5
     go_wp2_with fail
     refine HUW.out.mono ?_
     rintro e X7 ⟨L2,G7,rfl,h7,rc2,k7,g7⟩
     obtain rfl:L2=L1:=by rw [rc2.same,←HRC.out.adm]
     obtain⟨hQ9,uu⟩:=HQ8.out.well k7 g7
     have w7:=(uu wb (Or.inl (Or.inl rfl))).trans HW6.out
     have b7:BookAt X7 bb base lv (recB L2 B):=HB6.out.kept (fun k hk=>uu k (Or.inl (Or.inr hk)))
     have HF7:Hid (Fr W X7 G G7 wb bb lv Bh):=hide (HF6.out.step (k7.mono (fun b h _=>Or.inl h)) g7 (fun b h=>h7.lo b h))
     have H18:=hide (jgi wb _ _ _ _ _ _ _ _ _ _ _ _ _ _ _ _ _ _ _ _ _ _ _ X7 (HWO.out X7 _ _ _ _ w7))
     have HH7:=hide h7
     have HQ9:=hide hQ9
     have HB7:=hide b7
     have hs7:=k7.size
     clear h7 rc2 k7 g7 hQ9 uu w7 b7 z6 HUW HQ8 HW6 HB6 HF6
     go_wp2_with fail
     refine H18.out.mono ?_
     rintro e X8 ⟨rfl,v8,tb8,I8⟩
     obtain⟨hQ10,uu⟩:=op_q I8 HQ9.out (Or.inl (Or.inl rfl))
     have hGn7:∀ b,RP wb bb lv b→¬G7 b:=fun b hb'=>(HQ9.out b (Or.inl hb')).1
     have h8:=jjr I8 HH7.out (hGn7 wb (Or.inl rfl))
     have w8:X8.heap[wb]?=some (wobj hb bb v8 (.bool false) f0 f1 f2 f3 f4 f5 f6 f7 f8 f9 f10 f11 f12 was win (.int .u64 0) blk least):=I8.blk
     have b8:BookAt X8 bb base lv (recB L2 B):=HB7.out.kept (fun k hk=>uu k (Or.inl (Or.inr hk)) (by
       rcases hk with h | h
       · rw [h];exact hbwb
       · exact (HLW.out k h).1))
     have HF8:Hid (Fr W X8 G G7 wb bb lv Bh):=hide (HF7.out.step (I8.keep.mono (fun b h _=>Or.inr (Or.inl (Or.inl h)))) (fun b h=>Or.inl h) (fun b h=>h8.lo b h))
     have hl12:(recB L2 B).ls.length≤12:=HSM.out.bok.len
     have HCP:=hide (jdE bb base lv (recB L2 B) X8 b8 hl12)
     have HI8:=hide I8
     have HH8:=hide h8
     have HW8:=hide w8
     have HB8:=hide b8
     have hs8:=I8.keep.size
     have hW7:W.heap.size≤X7.heap.size:=HF7.out.size
     have z8:=cellB (HWO.out X8 _ _ _ _ w8)
     clear I8 uu h8 w8 b8 hQ10 H18 HQ9 HB7 HF7
     go_wp2_with fail
     refine HCP.out.mono ?_
     rintro e X9 ⟨cb,lk,rfl,hK9,hcb,hb9⟩
     have w9:=(hb9.block wb (ltB HW8.out)).trans HW8.out
     have b9:=HB8.out.below hb9 (Nat.le_refl _)
     have h9:HstAt X9 hb blk ⟨L2.time,true⟩ L2 Bh G7:=HH8.out.quiet hb9.size (fun k hk=>hb9.block k (HH8.out.lt k hk))
     obtain⟨X10,hX10⟩:∃ X10,X10=X9.setCell ⟨wb,3,none⟩ (.int .u64 0):=⟨_,rfl⟩
     have k10:Keep (fun b=>b=wb) X9 X10:=hX10▸Keep.set (S:=fun b=>b=wb) (b:=wb) (Keep.refl _ X9) (Or.inl rfl) _ _
     have w10:X10.heap[wb]?=some (wobj hb bb v8 (.bool false) f0 f1 f2 f3 f4 f5 f6 f7 f8 f9 f10 f11 f12 was win (.int .u64 0) 0 least):=by
      rw [hX10]
      simpa [wobj] using ja4 (HWO.out X9 _ _ _ _ w9) 3 (.int .u64 0)
     have h10:HstAt X10 hb blk ⟨L2.time,true⟩ L2 Bh G7:=h9.quiet k10.size (fun k hk=>k10.block k (h9.lt k hk) (fun e=>hGn7 wb (Or.inl rfl) (e▸hk)))
     have b10:BookAt X10 bb base lv (recB L2 B):=b9.kept (fun k hk=>k10.block k (by
       rcases hk with h | h
       · rw [h];exact ltB b9.hb
       · exact (ja5 b9.ho h).2) (by
       rcases hk with h | h
       · rw [h];exact hbwb
       · exact (HLW.out k h).1))
     have lwb:wb<W.heap.size:=HRL.out wb (Or.inl rfl)
     have K10:BookAt X10 cb X8.heap.size lk (recB L2 B):=hK9.kept (fun k hk=>k10.block k (by
       rcases hk with h | h
       · rw [h];exact ltB hK9.hb
       · exact (ja5 hK9.ho h).2) (by
       rcases hk with h | h
       · omega
       · have:=(ja5 hK9.ho h).1;omega))
     have hB10:Bh≤X10.heap.size:=Nat.le_trans hB6 (Nat.le_trans hs7 (Nat.le_trans hs8 (Nat.le_trans hb9.size k10.size)))
     have HRV:=hide (jcx wb hb bb base lv (recB L2 B) 0 blk least ⟨L2.time,true⟩ L2 Bh G7 v8 (.bool false) f0 f1 f2 f3 f4 f5 f6 f7 f8 f9 f10 f11 f12 was win (.int .u64 0) X10 h10 hB10 w10 b10 HSM.out.bok hGn7 (Int.le_refl _) (by have:=HRC.out.dt;omega) (Int.le_refl _) (jdS HSM.out.lok.qt HSM.out.lines) HSM.out.nd HSM.out.kok)
     have HF10:Hid (Fr W X10 G G7 wb bb lv Bh):=hide ((HF8.out.step (Keep.of_below hb9) (fun b h=>Or.inl h) (fun b h=>h9.lo b h)).step (k10.mono (fun b h _=>Or.inr (Or.inl (Or.inl h)))) (fun b h=>Or.inl h) (fun b h=>h10.lo b h))
     have HT10:Hid (∀ b,X7.heap.size≤b→b<X8.heap.size→X10.heap[b]?=X8.heap[b]?):=hide (fun b h1 h2=>(k10.block b (Nat.lt_of_lt_of_le h2 hb9.size) (fun e=>by omega)).trans (hb9.block b h2))
     have HK10:=hide K10
     have HH10:=hide h10
     have hs10:X8.heap.size≤X10.heap.size:=Nat.le_trans hb9.size k10.size
     have z9:=cellB (HWO.out X9 _ _ _ _ w9)
     have y9:=ja2 (HWO.out X9 _ _ _ _ w9)
     clear w9 b9 h9 k10 w10 h10 b10 K10 hK9 hb9 z8 HCP HW8 HB8 HF8 HH8
     go_upto_region 23 with fail
     rw [←hX10]
     clear hX10 z9 y9
     go_wp2_with fail
     refine HRV.out.mono ?_
     rintro e X11 ⟨rfl,⟨G11,h11,k11,g11,q11⟩,b11,w11⟩
     have elen2:L2.ks.length=(recB L2 B).ls.length:=HSM.out.lines.len
     rw [jgO elen2,jfE elen] at b11
     have lt7:∀ b,G7 b→b<X7.heap.size:=fun b h=>HH7.out.lt b h
     have far:∀ b,X7.heap.size≤b→b<X10.heap.size→X11.heap[b]?=X10.heap[b]?∧¬G11 b:=fun b h1 h2=>⟨k11.block b h2 (fun h=>by
       rcases h with h | h
       · have:=lt7 b h;omega
       · have:=HRL.out b h;omega),fun h=>by
       rcases g11 b h with h | h
       · have:=lt7 b h;omega
       · omega⟩
     obtain⟨X12,hX12⟩:∃ X12,X12=X11.setCell ⟨wb,3,none⟩ (.int .u64 blk):=⟨_,rfl⟩
     have k12:Keep (fun b=>b=wb) X11 X12:=hX12▸Keep.set (S:=fun b=>b=wb) (b:=wb) (Keep.refl _ X11) (Or.inl rfl) _ _
     have w12:X12.heap[wb]?=some (wobj hb bb v8 (.bool false) f0 f1 f2 f3 f4 f5 f6 f7 f8 f9 f10 f11 f12 was win (.int .u64 0) blk least):=by
      rw [hX12]
      simpa [wobj] using ja4 (HWO.out X11 _ _ _ _ w11) 3 (.int .u64 blk)
     have h12:HstAt X12 hb blk ⟨L2.time,true⟩ L2 Bh G11:=h11.quiet k12.size (fun k hk=>k12.block k (h11.lt k hk) (fun e=>q11 wb (Or.inl rfl) (e▸hk)))
     have b12:BookAt X12 bb base lv (recB L2 B):=b11.kept (fun k hk=>k12.block k (by
       rcases hk with h | h
       · rw [h];exact ltB b11.hb
       · exact (ja5 b11.ho h).2) (by
       rcases hk with h | h
       · rw [h];exact hbwb
       · exact (HLW.out k h).1))
     have far12:∀ b,X7.heap.size≤b→b<X10.heap.size→X12.heap[b]?=X10.heap[b]?∧¬G11 b:=fun b h1 h2=>⟨(k12.block b (Nat.lt_of_lt_of_le h2 k11.size) (fun e=>by omega)).trans (far b h1 h2).1,(far b h1 h2).2⟩
     have K12:BookAt X12 cb X8.heap.size lk (recB L2 B):=HK10.out.kept (fun k hk=>(far12 k (by
       rcases hk with h | h
       · omega
       · have:=(ja5 HK10.out.ho h).1;omega) (by
       rcases hk with h | h
       · rw [h];exact ltB HK10.out.hb
       · exact (ja5 HK10.out.ho h).2)).1)
     have HSA:=hide (jgG cb bb _ _ _ _ (recB L2 B) X12 K12 b12 hl12)
     have HF12:Hid (Fr W X12 G G11 wb bb lv Bh):=hide ((HF10.out.step (k11.mono (fun b h _=>h.imp id Or.inl)) (fun b h=>(g11 b h).imp id Or.inl) (fun b h=>h11.lo b h)).step (k12.mono (fun b h _=>Or.inr (Or.inl (Or.inl h)))) (fun b h=>Or.inl h) (fun b h=>h12.lo b h))
     have HFA:Hid (∀ b,X7.heap.size≤b→b<X8.heap.size→X12.heap[b]?=X8.heap[b]?∧¬G11 b):=hide (fun b h1 h2=>⟨(far12 b h1 (Nat.lt_of_lt_of_le h2 hs10)).1.trans (HT10.out b h1 h2),(far12 b h1 (Nat.lt_of_lt_of_le h2 hs10)).2⟩)
     have HE12:=hide (And.intro h12 (And.intro b12 (And.intro w12 q11)))
     have z11:=cellB (HWO.out X11 _ _ _ _ w11)
     have y11:=ja2 (HWO.out X11 _ _ _ _ w11)
     have c12:=cellB (HWO.out X12 _ _ _ _ w12)
     clear h11 k11 g11 q11 b11 w11 far k12 w12 h12 b12 far12 K12 lt7 HRV HF10 HT10 HK10 HH10
     go_upto_region 25 with fail
     rw [←hX12]
     clear hX12 z11 y11
     go_wp2_with fail
     refine HSA.out.mono ?_
     rintro e X13 ⟨rfl,hb13⟩
     have HB13:=hide hb13
     clear hb13 c12
     go_wp2
     go_ret
     obtain⟨h12,b12,w12,q11⟩:=HE12.out
     have hb13:=HB13.out
     have far:=HFA.out
     have h13:HstAt X13 hb blk ⟨L2.time,true⟩ L2 Bh G11:=h12.quiet hb13.size (fun k hk=>hb13.block k (h12.lt k hk))
     have hI:=HI8.out
     have s12:∀ b,b<X8.heap.size→X7.heap.size≤b→b<X12.heap.size:=fun b h1 h2=>by
      have:=HF12.out.size
      have h3:=(far b h2 h1).1
      rcases Nat.lt_or_ge b X12.heap.size with h4 | h4
      ·exact h4
      ·have e1:X12.heap[b]?=none:=by simp [h4]
       have e2:X8.heap[b]?≠none:=by simp [h1]
       exact absurd (h3.symm.trans e1) e2
     refine⟨rfl,L2,G11,v8,tb8,h13,HRC.out.adm,b12.below hb13 (Nat.le_refl _),HSM.out,by have:=HRC.out.dt;omega,(hb13.block wb (ltB w12)).trans w12,⟨?_,fun j hj=>?_,hI.inj,fun b hb'=>?_⟩,q11,HF12.out.step (Keep.of_below hb13) (fun b h=>Or.inl h) (fun b h=>h13.lo b h)⟩
     ·refine jc2 (ja7 hI.own (fun g hg=>?_)) hW7
      have hl:=ja5 hI.own hg
      exact (hb13.block g (s12 g hl.2 hl.1)).trans (far g hl.1 hl.2).1
     ·obtain⟨t1,t2⟩:=hI.st j hj
      have tl:=ltB t1
      exact⟨(hb13.block _ (s12 _ tl t2)).trans ((far _ t2 tl).1.trans t1),by omega,(far _ t2 tl).2⟩
     ·have hl:=ja5 hI.own hb'
      exact (far b hl.1 hl.2).2
end Go.Proofs.YtnlgndpcddngoaaGreatDoor
