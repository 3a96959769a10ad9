import Derived.Test.YtnlgndpcddngoaaGreatDoorZd35
import Derived.BigQuiet
set_option linter.unusedVariables false
set_option linter.unusedSimpArgs false
set_option maxRecDepth 100000
set_option maxHeartbeats 4000000
namespace Go.Proofs.YtnlgndpcddngoaaGreatDoor
open Go.RowKit
theorem jc1 {ops:Array Oper}{o:Oper}{a:Act}{w:World}{K:Act→World→Prop}{Q:Exit→Act→World→Prop}{E:Prop}(hg:o.guard=none)(s x:Operand)(t e:TypeId)(i0:TypeInfo)(size:Nat)
  (ht:Tryz.prog.underlying t=some (.slice e)) (hi:Tryz.prog.info? e=some i0)
  (hop:o.op=.call { callee:=.builtin .append,args:=#[s,x],argTypes:=#[t,t] }) (base:Nat) (v:Value) (n:Nat) (xs:List Value) (hs:a.eval s=v) (hown:w.ownsRow base e size v n xs) (hx:a.eval x=.slice none 0 0) (hK:K (a.put o.dst v) w) :
  if Region.wanted o (yielded ops a.tmps)=true then Oper.wp Tryz.prog o a w K Q else E:=by
 have hw:Region.wanted o (yielded ops a.tmps)=true:=by simp [Region.wanted,hg]
 rw [if_pos hw]
 have hr:=run_append_owned_none (P:=Tryz.prog) (w:=w) base t o.type e i0 size ht hi v n xs hown
 unfold Oper.wp execOp
 simp only [hop,resolve,invoke,builtin,Sem.run_bind,Sem.run_pure,Result.andThen_ok,List.map_toArray,List.map_cons,List.map_nil,hs,hx,hr]
 exact hK
theorem jga {w:World}{base size n:Nat}{e:TypeId}{v:Value}{xs:List Value}(h:w.ownsRow base e size v n xs):(v=.slice none 0 0∧n=0)∨∃ g cap,v=.slice (some ⟨g,0,none⟩) n cap:=by
 rcases h.2 with ⟨h1,h2⟩ | ⟨g,cap,cur,hv,_⟩
 ·exact Or.inl ⟨h1,h2⟩
 ·exact Or.inr ⟨g,cap,hv⟩
def jiT (w:World)(B:Bk)(e:Ending)(w':World):Prop:=∃ cb lv,e=.returned (.pointer (some ⟨cb,0,none⟩))∧BookAt w' cb w.heap.size lv B∧w.heap.size≤cb∧Below w.heap.size w w'
theorem jf7 {w w4:World}{B:Bk}{v:Value}(h:w4.ownsRow w.heap.size 151 13 v B.ls.length (lncs B.ls))(hb:Below w.heap.size w w4):BookAt (w4.alloc (.cells #[v,.int .u64 B.time] 60)) w4.heap.size w.heap.size v B∧w.heap.size≤w4.heap.size∧Below w.heap.size w (w4.alloc (.cells #[v,.int .u64 B.time] 60)):=
 ⟨⟨ja1 _ _,ja7 h (fun _ hg=>ja3 _ _ (ja5 h hg).2)⟩,hb.size,hb.alloc hb.size _⟩
theorem jdE (bb base:Nat)(lv:Value)(B:Bk)(w:World)(h:BookAt w bb base lv B)(hl:B.ls.length≤12) :
  Calls Tryz.prog 41 #[.pointer (some ⟨bb,0,none⟩)] w fun e w'=>jiT w B e w':=by
 obtain⟨i0,hi,hz0,hz1,hz2⟩:=info_parts Tryz.info139
 have a1:=cellB h.hb
 have hbb:=ltB h.hb
 have HH:=hide h
 clear h
 go_enter Tryz.func41,Tryz.ntmps41
 go_wp2_with fail
 rcases jga HH.out.ho with ⟨rfl,h0⟩ | ⟨g,cap,rfl⟩
 ·have HN0:Hid (B.ls=[]):=hide (List.length_eq_zero_iff.1 h0)
  clear h0
  go_cut [2] (fun s2 wx=>∃ cb lv,s2=.pointer (some ⟨cb,0,none⟩)∧BookAt wx cb w.heap.size lv B∧w.heap.size≤cb∧Below w.heap.size w wx)
  case first=>
   go_region_law (refine jc1 (by rfl) _ _ 58 151 i0 13 Tryz.underlying58 hi (by rfl) w.heap.size (.slice none 0 0) 0 [] (by rfl) (World.ownsRow_nil _ _ _ _) (by rfl) ?_)
   all_goals (go_wp2_with fail;go_meet)
   all_goals (
     have he:=jf7 (w:=w) (w4:=w.drew) (B:=B) (v:=.slice none 0 0) (by rw [HN0.out];exact World.ownsRow_nil _ _ _ _) (Below.refl _ w).drew
     exact⟨_,_,rfl,he⟩)
  case rest=>
   obtain⟨cb,lv,rfl,hc⟩:=hcut
   have HC:=hide hc
   clear hc a1
   go_wp2_with fail
   go_ret
   exact⟨cb,lv,rfl,HC.out⟩
 ·obtain⟨m,hm⟩:∃ m,m=B.ls.length:=⟨_,rfl⟩
  rw [←hm] at a1
  have HM:=hide hm
  have hm12:m≤12:=by omega
  have HLC:Hid ((lncs B.ls).length=m * 13):=hide (by rw [jeP,hm])
  have HNW:Hid (∀ j u,(lncs B.ls)[j]?=some u→w.drew.cell? ((⟨g,0,none⟩:Addr).add j)=some u):=hide (fun j u hj=>by
    have hj':j<m * 13:=by
      have:=(List.getElem?_eq_some_iff.1 hj).1
      rw [HLC.out] at this
      exact this
    have ho:=HH.out.ho
    rw [←hm] at ho
    rw [Addr.add_lit,Nat.zero_add,←hj]
    exact ho.cellAt j hj')
  have HN1:Hid (∀ u∈lncs B.ls,u.oneCell'=true):=hide (jda B.ls)
  clear hm
  go_cut [2] (fun s2 wx=>∃ cb lv,s2=.pointer (some ⟨cb,0,none⟩)∧BookAt wx cb w.heap.size lv B∧w.heap.size≤cb∧Below w.heap.size w wx)
  case first=>
   go_region_law (refine jah (by rfl) _ _ 58 151 i0 ZL 13 48 Tryz.underlying58 hi hz0 hz1 hz2 (by rfl) (by decide) (by rfl) w.heap.size (.slice none 0 0) 0 [] (by rfl) (World.ownsRow_nil _ _ _ _) ⟨g,0,none⟩ m cap (lncs B.ls) (by rfl) HLC.out HNW.out HN1.out (by omega) (by omega) (Nat.le_refl _) ?_;intro v5 w4 hown4 hgr4 hloc4;rw [Nat.zero_add,List.nil_append] at hown4;obtain⟨ya,yc,hyw⟩:=ja8 hown4;subst hyw;have hh4:=(hgr4.block bb hbb (by simp [Value.ownBlock])).trans HH.out.hb;rw [←HM.out] at hh4;have d1:=cellB hh4)
   all_goals (go_wp2_with fail;go_meet)
   all_goals (
     have he:=jf7 (w:=w) (w4:=w4) (B:=B) (v:=.slice ya m yc) (by rw [←HM.out];exact hown4) ⟨hgr4.os,hgr4.tape,hgr4.output,hgr4.size,fun k hk=>hgr4.block k hk (by simp [Value.ownBlock])⟩
     exact⟨_,_,rfl,he⟩)
  case rest=>
   obtain⟨cb,lv,rfl,hc⟩:=hcut
   have HC:=hide hc
   clear hc a1
   go_wp2_with fail
   go_ret
   exact⟨cb,lv,rfl,HC.out⟩
theorem jiI (d:Nat)(a:Ky)(w:World):(Op.equalIn (d+2) 63 (.agg #[.int .u8 a.k0,.int .u8 a.k1,.int .u8 a.k2,.int .u8 a.k3,.int .u8 a.k4,.int .u8 a.k5,.int .u8 a.k6,.int .u8 a.k7]) (.agg #[.int .u8 a.k0,.int .u8 a.k1,.int .u8 a.k2,.int .u8 a.k3,.int .u8 a.k4,.int .u8 a.k5,.int .u8 a.k6,.int .u8 a.k7])).run Tryz.prog w=.ok true w:=by
 have u5:=Tryz.underlying5
 have a5:=Tryz.isAgg5
 have z5:=Tryz.sizeOf5
 obtain⟨a0,a1,a2,a3,a4,a5',a6,a7⟩:=a
 rw [show d+2=(d+1)+1 from rfl,Op.equalIn]
 simp only [Sem.run_bind,run_underlying Tryz.underlying63,Result.andThen_ok]
 simp only [Std.Legacy.Range.forIn_eq_forIn_range',Std.Legacy.Range.size,Nat.sub_zero,Nat.add_sub_cancel,Nat.div_one,List.range'_succ,List.range'_zero,List.forIn_cons,List.forIn_nil]
 go_simp
theorem jhX (l:Ln)(w:World):(Op.equalIn 10000 151 (.agg #[.int .u8 l.k.k0,.int .u8 l.k.k1,.int .u8 l.k.k2,.int .u8 l.k.k3,.int .u8 l.k.k4,.int .u8 l.k.k5,.int .u8 l.k.k6,.int .u8 l.k.k7,.int .u8 l.kd,.int .u64 l.x,.int .u64 l.y,.int .u64 l.at_,.int .u64 l.in_]) (.agg #[.int .u8 l.k.k0,.int .u8 l.k.k1,.int .u8 l.k.k2,.int .u8 l.k.k3,.int .u8 l.k.k4,.int .u8 l.k.k5,.int .u8 l.k.k6,.int .u8 l.k.k7,.int .u8 l.kd,.int .u64 l.x,.int .u64 l.y,.int .u64 l.at_,.int .u64 l.in_])).run Tryz.prog w=.ok true w:=by
 have hk:=jiI 9997 l.k w
 go_simp
theorem jgG (b1 b2 base1 base2:Nat)(v1 v2:Value)(B:Bk)(w:World)(h1:BookAt w b1 base1 v1 B)(h2:BookAt w b2 base2 v2 B)(hl:B.ls.length≤12) :
  Calls Tryz.prog 42 #[.pointer (some ⟨b1,0,none⟩),.pointer (some ⟨b2,0,none⟩)] w fun e w'=>e=.returned (.bool true)∧Below w.heap.size w w':=by
 obtain⟨m,hm⟩:∃ m,m=B.ls.length:=⟨_,rfl⟩
 obtain⟨a1,c1,rfl⟩:=ja8 h1.ho
 obtain⟨a2,c2,rfl⟩:=ja8 h2.ho
 have hm12:(m:Int)≤12:=by omega
 have HH1:=hide h1
 have HH2:=hide h2
 have HM:=hide hm
 have HB:Hid (∀ W,Below w.heap.size w W→BookAt W b1 base1 (.slice a1 B.ls.length c1) B∧BookAt W b2 base2 (.slice a2 B.ls.length c2) B):=hide (fun W hW=>⟨HH1.out.below hW (Nat.le_refl _),HH2.out.below hW (Nat.le_refl _)⟩)
 have y1:=cellB h1.hb
 have y2:=cellB h2.hb
 rw [←hm] at y1 y2
 clear h1 h2 hm hl
 go_enter Tryz.func42,Tryz.ntmps42
 go_upto_region 1 with fail
 go_wp2_with (go_quiet (fail))
 go_loopw [5] (fun s5 wr=>∃ i:Nat,i≤m∧s5=.int .i64 i∧Below w.heap.size w wr) (fun s5 _=>m - (intOf s5).toNat)
 case atStart=>exact⟨0,Nat.zero_le _,rfl,below_drewN (Below.refl _ w) _⟩
 case round=>
  obtain⟨i,hi,rfl,hb⟩:=hrel
  obtain⟨R,rfl⟩:∃ R,R=wr:=⟨_,rfl⟩
  obtain⟨k1,k2⟩:=HB.out R hb
  have z1:=cellB k1.hb 0
  have z2:=cellB k2.hb 0
  rw [←HM.out] at z1 z2
  have HBR:=hide hb
  clear hb y1 y2
  by_cases hlt:i<m
  ·have hltI:(i:Int)<(m:Int):=by omega
   have hi0:(0:Int)≤(i:Int):=by omega
   have hil:i<B.ls.length:=by rw [←HM.out];exact hlt
   obtain⟨l,hle⟩:∃ l,B.ls[i]?=some l:=⟨_,List.getElem?_eq_getElem hil⟩
   obtain⟨g1,e1,f1,_,_,L1,_⟩:=k1.open hle
   obtain⟨g2,e2,f2,_,_,L2,_⟩:=k2.open hle
   injection f1 with p1 _ p2
   injection f2 with p3 _ p4
   subst p1 p2 p3 p4
   obtain⟨d0,d1,d2,d3,d4,d5,d6,d7,d8,d9,d10,d11,d12⟩:=L1
   obtain⟨n0,n1,n2,n3,n4,n5,n6,n7,n8,n9,n10,n11,n12⟩:=L2
   have hcm:=jhX l
   clear k1 k2
   go_wp2_with (go_quiet (fail))
   go_roundw
   case rel=>exact⟨i+1,by omega,by go_num,below_drewN HBR.out _⟩
   case measure=>simp [intOf];omega
  ·have hltI:¬(i:Int)<(m:Int):=by omega
   clear k1 k2
   go_wp2
   go_ret
   exact⟨rfl,HBR.out⟩
end Go.Proofs.YtnlgndpcddngoaaGreatDoor
