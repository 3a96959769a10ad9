import Derived.Test.YtnlgndpcddngoaaGreatDoorZd35
import Derived.Test.YtnlgndpcddngoaaGreatDoorZd37
import Derived.Test.YtnlgndpcddngoaaGreatDoorZd38
import Derived.Test.YtnlgndpcddngoaaGreatDoorZd28
import Derived.Test.YtnlgndpcddngoaaGreatDoorZd22
import Derived.Test.YtnlgndpcddngoaaGreatDoorZd36
import Derived.Test.YtnlgndpcddngoaaGreatDoorZd00
import Derived.Lib.SmallJoins
import Derived.Deep.Slices
set_option linter.unusedVariables false
set_option linter.unusedSimpArgs false
set_option maxRecDepth 100000
set_option maxHeartbeats 4000000
namespace Go.Proofs.YtnlgndpcddngoaaGreatDoor
open Go.RowKit
def doDL (D:Dx):Ld→List Rq→Dx
 | _,[]=>D
 | L,q :: t=>doDL (doD D L q) (doM L q).1 t
theorem jiy:∀ (n:Nat) (D:Dx) (L:Ld) (bs:List Int),bs.length≤n→runDL D L bs=doDL D L (rqL bs).1:=by
 intro n
 induction n with
 | zero=>
  intro D L bs h
  have e:bs=[]:=List.length_eq_zero_iff.1 (by omega)
  subst e
  rw [jaG [] (by simp [rdErr]),jbr D L [] (by simp [rdErr])]
  rfl
 | succ n ih=>
  intro D L bs h
  by_cases h0:rdErr bs=0
  ·obtain⟨r1,r2,_,_⟩:=jbf bs h0
   rw [jbI bs h0,jbl D L bs h0,ih _ _ _ (by rw [List.length_drop];omega)]
   rfl
  ·rw [jaG bs h0,jbr D L bs h0]
   rfl
theorem jia (D:Dx)(L:Ld)(c:Cn)(now:Int)(bs:List Int)(hb:c.bad=false):feedD D L c now bs=doDL D (passM L now) (rqL (c.waits ++ bs)).1:=by
 unfold feedD
 rw [if_neg (by simp [hb])]
 exact jiy _ _ _ _ (Nat.le_refl _)
theorem jhv (D:Dx)(L:Ld)(c:Cn)(now:Int)(bs:List Int)(hb:c.bad=true):feedD D L c now bs=D:=by
 unfold feedD
 rw [if_pos hb]
theorem ji4 (q:Rq)(r:Rp)(ho:q.op∈[1,2,3,4,5,6]):durB q r=true↔r.c=1∧(q.op=1∨q.op=4∨q.op=5):=by
 unfold durB oneB
 simp at ho
 simp
 omega
theorem jkZ {D:Dx}{L:Ld}{q:Rq}(ho:q.op∈[1,2,3,4,5,6]){least least':Int}(h:LsT (.int .u64 least) (.int .u64 least') q (doM L q).2 L.time)(hl:least≤D.t):least'≤(doD D L q).t:=by
 have hd:=ji4 q (doM L q).2 ho
 by_cases hc:(doM L q).2.c=1∧(q.op=1∨q.op=4∨q.op=5)
 ·have e:=h.1 hc
  injection e with _ e
  unfold doD modB
  rw [if_neg (by omega),hd.2 hc,e]
  exact Int.le_refl _
 ·have e:=h.2 hc
  injection e with _ e
  unfold doD modB
  by_cases h36:q.op=3∨q.op=6
  ·rw [if_pos h36,e];exact hl
  ·rw [if_neg h36]
   have:durB q (doM L q).2=false:=by
    cases hb:durB q (doM L q).2
    ·rfl
    ·exact absurd (hd.1 hb) hc
   rw [this,e]
   exact hl
theorem jld {D:Dx}{L:Ld}{q:Rq}(h:D.t≤L.time):D.t≤(doD D L q).t∧(doD D L q).t≤L.time:=by
 unfold doD
 split
 ·exact⟨Int.le_refl _,h⟩
 ·rename_i b _
  cases b
  ·exact⟨Int.le_refl _,h⟩
  ·exact⟨h,Int.le_refl _⟩
theorem jh9:∀ (l:List Rq) {D:Dx}{L:Ld},D.t≤L.time→D.t≤(doDL D L l).t∧(doDL D L l).t≤(doL L l).1.time
 | [],_,_,h=>⟨Int.le_refl _,h⟩
 | q :: t,D,L,h=>by
  obtain⟨h1,h2⟩:=jld (q:=q) h
  obtain⟨h3,h4⟩:=jh9 t (D:=doD D L q) (L:=(doM L q).1) (by rw [jfc];exact h2)
  exact⟨Int.le_trans h1 h3,h4⟩
theorem jdz (L:Ld)(now:Int):L.time≤(passM L now).time:=by
 unfold passM
 dsimp only
 split <;> omega
structure Rq.byt (q:Rq):Prop where
 op:0≤q.op∧q.op≤255
 kd:0≤q.kd∧q.kd≤255
theorem jgt (q:Rq)(h:q.ok)(hb:q.byt):Bytes q.enc:=by
 have hk:=h.key
 have h0:=hk.h0;have h1:=hk.h1;have h2:=hk.h2;have h3:=hk.h3;have h4:=hk.h4;have h5:=hk.h5;have h6:=hk.h6;have h7:=hk.h7
 have hkd:=hb.kd
 have hop:=hb.op
 simp only [Rq.key] at h0 h1 h2 h3 h4 h5 h6 h7
 unfold Rq.enc jbY
 split
 ·refine (Bytes.app ?_ (jaq _)).app (jaq _)
  intro x hx
  simp only [List.mem_cons,List.not_mem_nil,or_false] at hx
  omega
 ·split
  ·refine Bytes.app ?_ (jaq _)
   intro x hx
   simp only [List.mem_cons,List.not_mem_nil,or_false] at hx
   omega
  ·split
   ·intro x hx
    simp only [List.mem_cons,List.not_mem_nil,or_false] at hx
    omega
   ·split
    ·intro x hx
     simp only [List.mem_cons,List.not_mem_nil,or_false] at hx
     omega
    ·intro x hx
     simp at hx
theorem jdY (qs:List Rq)(h:∀ q∈qs,q.ok∧q.byt):Bytes (encQs qs):=by
 intro x hx
 obtain⟨q,hq,hx⟩:=List.mem_flatMap.1 hx
 exact jgt q (h q hq).1 (h q hq).2 x hx
abbrev rqcl (q:Rq):List Value:=[.int .u8 q.op,.int .u8 q.k0,.int .u8 q.k1,.int .u8 q.k2,.int .u8 q.k3,.int .u8 q.k4,.int .u8 q.k5,.int .u8 q.k6,.int .u8 q.k7,.int .u8 q.kd,.int .u64 q.x,.int .u64 q.y,.int .u64 q.n]
end Go.Proofs.YtnlgndpcddngoaaGreatDoor
namespace Go.Proofs.YtnlgndpcddngoaaGreatDoor
open Go.RowKit Go.Maps
def HstAt (w:World)(hb:Nat)(blk:Int)(D:Dx)(L:Ld)(B:Nat)(G:Nat→Prop):Prop:=∃ db nb sb mb F cv m cb,m≤3∧HostAt w hb db nb sb mb blk D L F B cv m cb (fun _=>⟨[],false⟩)∧G=HG hb db F cv m cb
theorem HstAt.quiet {w w':World}{hb:Nat}{blk:Int}{D:Dx}{L:Ld}{B:Nat}{G:Nat→Prop}(h:HstAt w hb blk D L B G)(hs:w.heap.size≤w'.heap.size)(hk:∀ k,G k→w'.heap[k]?=w.heap[k]?):HstAt w' hb blk D L B G:=by
 obtain⟨db,nb,sb,mb,F,cv,m,cb,hm,H,rfl⟩:=h
 exact⟨db,nb,sb,mb,F,cv,m,cb,hm,H.quiet (fun _=>rfl) hs hk,rfl⟩
theorem HstAt.lt {w:World}{hb:Nat}{blk:Int}{D:Dx}{L:Ld}{B:Nat}{G:Nat→Prop}(h:HstAt w hb blk D L B G)(b:Nat)(hb':G b):b<w.heap.size:=by
 obtain⟨db,nb,sb,mb,F,cv,m,cb,hm,H,rfl⟩:=h
 exact H.lt b hb'
theorem HstAt.lo {w:World}{hb:Nat}{blk:Int}{D:Dx}{L:Ld}{B:Nat}{G:Nat→Prop}(h:HstAt w hb blk D L B G)(b:Nat)(hb':G b):B≤b:=by
 obtain⟨db,nb,sb,mb,F,cv,m,cb,hm,H,rfl⟩:=h
 exact H.lo b hb'
theorem HstAt.lok {w:World}{hb:Nat}{blk:Int}{D:Dx}{L:Ld}{B:Nat}{G:Nat→Prop}(h:HstAt w hb blk D L B G):L.ok:=by
 obtain⟨db,nb,sb,mb,F,cv,m,cb,hm,H,rfl⟩:=h
 exact H.hs.lok
theorem jig (hb:Nat)(blk:Int)(D:Dx)(L L':Ld)(B:Nat)(G:Nat→Prop)(qs:List Rq)(rs:List Rp)(now:Int)(w:World)(H:HstAt w hb blk D L B G)(hB:B≤w.heap.size)(hq:∀ q∈qs,q.ok∧q.byt)(hql:qs.length≤1000)(hn:0≤now∧now≤18446744073709551615)(hf:feedM L ⟨[],false⟩ now (encQs qs)=(L',⟨[],false⟩,rs))(st st2:ByteArray)(hst:st=strOfNums (encQs qs))(hst2:st2=strOfNums (encs rs)) :
  Calls Tryz.prog 14 #[.pointer (some ⟨hb,0,none⟩),.int .i64 0,.int .u64 now,.string st,.int .i64 (-1),.int .i64 (-1),.int .i64 0,.int .i64 0] w fun e w'=>∃ G',e=.returned (.tuple #[.string st2,.bool false])∧HstAt w' hb blk (feedD D L ⟨[],false⟩ now (encQs qs)) L' B G'∧Keep G w w'∧∀ b,G' b→G b∨w.heap.size≤b:=by
 have hlok:=H.lok
 obtain⟨db,nb,sb,mb,F,cv,m,cb,hm,H,rfl⟩:=H
 have hnum:jaa st=encQs qs:=by rw [hst];exact jaO _ (jdY _ hq)
 have h11:=jkY hb db nb sb mb blk D L F B cv m cb (fun _=>⟨[],false⟩) 0 now st w H hm hB (fun _ _=>rfl) 0 (by decide) (by decide) (by decide) hlok hn.1 hn.2 (by intro b hb;simp at hb) (by rw [hnum];have:=jcw qs;simp;omega)
 simp only [hnum,hf] at h11
 rw [←hst2] at h11
 refine h11.mono ?_
 rintro e w' ⟨F',cv',cb',rfl,H',hk,hg⟩
 have hce:(fun j:Nat=>if j=0 then (⟨[],false⟩:Cn) else ⟨[],false⟩)=fun _=>⟨[],false⟩:=by
  funext j
  split <;> rfl
 rw [hce] at H'
 exact⟨_,rfl,⟨db,nb,sb,mb,F',cv',3,cb',Nat.le_refl _,H',rfl⟩,hk,hg⟩
theorem HD.keep {w w':World}{hb db mb nb:Nat}{fs:Fs}{blk:Int}(h:HD w hb db mb nb fs blk)(hs:w.heap.size≤w'.heap.size)(hk:∀ b,b<w.heap.size→w'.heap[b]?=w.heap[b]?):HD w' hb db mb nb fs blk:=by
 obtain⟨⟨sv,cv,hh⟩,⟨l,f,hd⟩,hm,hn,mn⟩:=h
 exact⟨⟨sv,cv,(hk hb (ltB hh)).trans hh⟩,⟨l,f,(hk db (ltB hd)).trans hd⟩,hm.kept (hk mb hm.map.lt) (fun p hp=>hk _ (ltB (hm.str p hp))),hn.kept (hk nb hn.map.lt) (fun p hp=>hk _ (ltB (hn.str p hp))),mn⟩
theorem jjO (hb db mb nb:Nat)(fs:Fs)(blk kept part:Int)(w:World)(H:HD w hb db mb nb fs blk)(p0:-9223372036854775808≤part)(p1:part≤9223372036854775807) :
  Calls Tryz.prog 25 #[.pointer (some ⟨hb,0,none⟩),.int .i64 kept,.int .i64 part] w fun e w'=>e=.returned (.tuple #[])∧(∃ nb',HD w' hb db mb nb' fs blk∧(nb'=nb∨w.heap.size≤nb'))∧Keep (fun b=>b=hb∨b=db) w w':=by
 obtain⟨⟨sv,cv,hh⟩,⟨l,f,hd⟩,hm,_,_⟩:=H
 have hne:hb≠db:=by
  intro e;subst e
  rw [hh] at hd;simp at hd
 have hmh:mb≠hb:=hm.map.ne hh
 have hmd:mb≠db:=hm.map.ne hd
 obtain⟨V,hV⟩:∃ V,V=w.setCell ⟨hb,1,none⟩ (.pointer none):=⟨_,rfl⟩
 have oV:∀ x,x≠hb→V.heap[x]?=w.heap[x]?:=fun x hx=>by rw [hV,ja0 hx]
 have hhV:V.heap[hb]?=some (.cells #[.pointer (some ⟨db,0,none⟩),.pointer none,cv,.int .u64 blk] 82):=by rw [hV];simpa using ja4 hh 1 (.pointer none)
 have hph:∀ p∈fs,p.2.1≠hb∧p.2.1≠db:=fun p hp=>⟨fun e=>by have:=hm.str p hp;rw [e,hh] at this;simp at this,fun e=>by have:=hm.str p hp;rw [e,hd] at this;simp at this⟩
 have hdV:=(oV db (fun e=>hne e.symm)).trans hd
 have hmV:DirAt V mb fs:=hm.kept (oV mb hmh) (fun p hp=>oV _ (hph p hp).1)
 have hKV:Keep (fun b=>b=hb∨b=db) w V:=hV▸Keep.set (S:=fun b=>b=hb∨b=db) (b:=hb) (Keep.refl _ w) (Or.inl (Or.inl rfl)) _ _
 have sV:V.heap.size=w.heap.size:=by rw [hV];simp
 have HC:=hide (je5 db mb _ _ _ _ fs kept part V p0 p1 hdV hmV)
 have a0:=cellB hh
 have a1:=ja2 hh
 have b0:=cellB hhV
 have HMV:=hide hmV
 have HPH:=hide hph
 have HKV:=hide hKV
 have HSV:=hide sV
 clear hmV hph hKV oV sV hm
 go_enter Tryz.func25,Tryz.ntmps25
 go_upto_region 1 with fail
 rw [←hV]
 clear hV a0 a1
 go_wp2_with fail
 refine HC.out.mono ?_
 rintro e w2 ⟨rfl,nb',q1,q2,q3,q4⟩
 have HQ2:=hide (And.intro q1 (And.intro q2 (And.intro q3 q4)))
 clear q1 q2 q3 q4
 go_wp2
 go_end0
 obtain⟨q1,q2,q3,q4⟩:=HQ2.out
 have hmV:=HMV.out
 have hml:=hmV.map.lt
 have sV:=HSV.out
 exact⟨rfl,⟨nb',⟨⟨_,_,(q4.block hb (ltB hhV) hne).trans hhV⟩,⟨_,_,q1⟩,hmV.keep q4 hmd (fun p hp=>(HPH.out p hp).2),q3,by omega⟩,Or.inr (by omega)⟩,HKV.out.then q4 (fun _ _ h=>Or.inr h)⟩
theorem jkf (hb db mb nb:Nat)(blk l f kept part:Int)(D:Dx)(c0:Led)(w:World)(hc:c0.ok)(hD:c0.hx D)(H:HD w hb db mb nb c0.fsD blk)(p0:-9223372036854775808≤part)(p1:part≤9223372036854775807)(hgl:w.cell? ⟨0,0,none⟩=some (.iface 236 (.agg #[.pointer (some ⟨5,97,none⟩)])))(hE:0≠hb∧0≠db) :
  Calls Tryz.prog 20 #[.pointer (some ⟨hb,0,none⟩),.int .i64 l,.int .i64 f,.int .i64 kept,.int .i64 part] w fun e w'=>je0 w hb db mb nb c0.fsD blk l f e w':=by
 obtain⟨⟨sv,cv,hh⟩,⟨l0,f0,hd⟩,hm,hn,mn⟩:=H
 by_cases h0:c0.fsD=[]
 ·exact jcE hb db nb mb sv cv blk l0 f0 l f kept part c0.fsD w hh hd hm hn mn (fun V v1 _ v3=>jhV db mb nb blk l f V v1 (h0▸v3))
 ·by_cases hl:l=0
  ·exact jdy hb db nb mb sv cv blk l0 f0 l f kept part c0.fsD w hh hd hm hn mn h0 5 0 f true (Or.inl ⟨hl,rfl,rfl,rfl,rfl⟩) p0 p1 hgl hE
  ·by_cases hf:f=0
   ·exact jdy hb db nb mb sv cv blk l0 f0 l f kept part c0.fsD w hh hd hm hn mn h0 4 (decM l) (-1) false (Or.inr ⟨hl,hf,rfl,rfl,rfl,rfl⟩) p0 p1 hgl hE
   ·obtain⟨im,i,f1,f2,f3,f4,_⟩:=jeG hc hD.1 (Or.inl h0)
    exact jcE hb db nb mb sv cv blk l0 f0 l f kept part c0.fsD w hh hd hm hn mn (fun V v1 _ v3=>jjN db mb nb blk c0.fsD im l f V ⟨v1,hl,hf,v3,f1,f2,f3⟩ f4)
theorem jkw (hb db sb:Nat)(blk:Int)(D:Dx)(L:Ld)(F:Nat→Prop)(cv:Value)(kept part:Int)(w:World)(Hhh:w.heap[hb]?=some (.cells #[.pointer (some ⟨db,0,none⟩),.pointer (some ⟨sb,0,none⟩),cv,.int .u64 blk] 82))(Hhd:F db)(Hhs:SrvK db blk D 0 w 0 sb L F)(HhF:¬F hb)(p0:-9223372036854775808≤part)(p1:part≤9223372036854775807) :
  Calls Tryz.prog 25 #[.pointer (some ⟨hb,0,none⟩),.int .i64 kept,.int .i64 part] w fun e w'=>e=.returned (.tuple #[])∧∃ (c0:Led) (mb nb:Nat),c0.ok∧c0.ld=L∧(c0.blk=blk∧c0.hx D)∧w'.heap[hb]?=some (.cells #[.pointer (some ⟨db,0,none⟩),.pointer none,cv,.int .u64 blk] 82)∧w'.heap[db]?=some (.cells #[.map (some mb),.map (some nb),.slice none 0 0,.int .i64 (-1),.int .i64 (-1),.bool false] 88)∧DirAt w' mb c0.fsD∧DirAt w' nb c0.fsD∧mb≠nb∧F mb∧w.heap.size≤nb∧(∀ p∈c0.fsD,F p.2.1)∧Keep (fun b=>b=hb∨b=db) w w':=by
 obtain⟨c0,k1,k2,k3,hL⟩:=Hhs
 obtain⟨mp,g,FD,_,_,_,h4,h5,_⟩:=hL.mem
 obtain⟨mb,nb,l,f,m1,m2,m3,m4,m5,m6,m7,m8⟩:=h4.mem
 have hne:hb≠db:=fun e=>HhF (e▸Hhd)
 have hmh:mb≠hb:=m2.map.ne Hhh
 have hmd:mb≠db:=m2.map.ne m1
 obtain⟨V,hV⟩:∃ V,V=w.setCell ⟨hb,1,none⟩ (.pointer none):=⟨_,rfl⟩
 have oV:∀ x,x≠hb→V.heap[x]?=w.heap[x]?:=fun x hx=>by rw [hV,ja0 hx]
 have hhV:V.heap[hb]?=some (.cells #[.pointer (some ⟨db,0,none⟩),.pointer none,cv,.int .u64 blk] 82):=by rw [hV];simpa using ja4 Hhh 1 (.pointer none)
 have hph:∀ p∈c0.fsD,p.2.1≠hb∧p.2.1≠db:=fun p hp=>⟨fun e=>by have:=m2.str p hp;rw [e,Hhh] at this;simp at this,fun e=>by have:=m2.str p hp;rw [e,m1] at this;simp at this⟩
 have hdV:=(oV db (fun e=>hne e.symm)).trans m1
 have hmV:DirAt V mb c0.fsD:=m2.kept (oV mb hmh) (fun p hp=>oV _ (hph p hp).1)
 have hKV:Keep (fun b=>b=hb∨b=db) w V:=hV▸Keep.set (S:=fun b=>b=hb∨b=db) (b:=hb) (Keep.refl _ w) (Or.inl (Or.inl rfl)) _ _
 have HC:=hide (je5 db mb _ _ _ _ c0.fsD kept part V p0 p1 hdV hmV)
 have a0:=cellB Hhh
 have a1:=ja2 Hhh
 have b0:=cellB hhV
 have HQ:=hide (And.intro k1 (And.intro k2 (And.intro k3 (And.intro (h5 mb m6) (fun p hp=>h5 _ (h4.sD p hp))))))
 have HMV:=hide hmV
 have HPH:=hide hph
 have HKV:=hide hKV
 clear hL k1 k2 k3 h4 h5 m1 m2 m3 m4 m5 m6 m7 m8 hmV hph hKV oV
 go_enter Tryz.func25,Tryz.ntmps25
 go_upto_region 1 with fail
 rw [←hV]
 have HV:=hide hV
 clear hV a0 a1
 go_wp2_with fail
 refine HC.out.mono ?_
 rintro e w2 ⟨rfl,nb',q1,q2,q3,q4⟩
 have HQ2:=hide (And.intro q1 (And.intro q2 (And.intro q3 q4)))
 clear q1 q2 q3 q4
 go_wp2
 go_end0
 obtain⟨q1,q2,q3,q4⟩:=HQ2.out
 obtain⟨k1,k2,k3,k4,k5⟩:=HQ.out
 have sV:V.heap.size=w.heap.size:=by rw [HV.out];simp
 have hmV:=HMV.out
 refine⟨rfl,c0,mb,nb',k1,k2,k3,(q4.block hb (ltB hhV) hne).trans hhV,q1,hmV.keep q4 hmd (fun p hp=>(HPH.out p hp).2),q3,?_,k4,by omega,k5,HKV.out.then q4 (fun _ _ h=>Or.inr h)⟩
 have:=hmV.map.lt
 omega
def HsuAt (w:World)(hb:Nat)(blk:Int)(D:Dx)(L:Ld)(B:Nat)(G:Nat→Prop):Prop:=∃ db sb F cv,w.heap[hb]?=some (.cells #[.pointer (some ⟨db,0,none⟩),.pointer (some ⟨sb,0,none⟩),cv,.int .u64 blk] 82)∧F db∧SrvK db blk D 0 w 0 sb L F∧¬F hb∧(G hb∧G db∧∀ b,F b→G b)∧∀ b,G b→B≤b∧b<w.heap.size
theorem HsuAt.quiet {w w':World}{hb:Nat}{blk:Int}{D:Dx}{L:Ld}{B:Nat}{G:Nat→Prop}(h:HsuAt w hb blk D L B G)(hs:w.heap.size≤w'.heap.size)(hk:∀ k,G k→w'.heap[k]?=w.heap[k]?):HsuAt w' hb blk D L B G:=by
 obtain⟨db,sb,F,cv,h1,h2,h3,h4,h5,h6⟩:=h
 exact⟨db,sb,F,cv,(hk hb h5.1).trans h1,h2,h3.kept hs (fun b hF=>hk b (h5.2.2 b hF)),h4,h5,fun b hb'=>⟨(h6 b hb').1,Nat.lt_of_lt_of_le (h6 b hb').2 hs⟩⟩
theorem HostAt.up {w:World}{hb db nb sb:Nat}{mb:Option Nat}{blk:Int}{D:Dx}{L:Ld}{F:Nat→Prop}{B:Nat}{cv:Value}{m:Nat}{cb:Nat→Nat}{c:Nat→Cn}(H:HostAt w hb db nb sb mb blk D L F B cv m cb c):HsuAt w hb blk D L B (HG hb db F cv m cb):=
 ⟨db,sb,F,cv,H.hh,H.hd,H.hs,H.hF hb (Or.inl rfl),⟨Or.inl rfl,Or.inr (Or.inl rfl),fun _ h=>Or.inr (Or.inr (Or.inl h))⟩,fun b h=>⟨H.lo b h,H.lt b h⟩⟩
theorem HstAt.up {w:World}{hb:Nat}{blk:Int}{D:Dx}{L:Ld}{B:Nat}{G:Nat→Prop}(h:HstAt w hb blk D L B G):HsuAt w hb blk D L B G:=by
 obtain⟨db,nb,sb,mb,F,cv,m,cb,hm,H,rfl⟩:=h
 exact H.up
theorem jh1 {w w1 w2:World}{hb db:Nat}{blk:Int}{D':Dx}{F G:Nat→Prop}{B:Nat}(hG0:G hb∧G db∧∀ b,F b→G b)(hlo:∀ b,G b→B≤b)(hB:B≤w.heap.size){fs:Fs}{mb nb sb':Nat}{L':Ld}{F':Nat→Prop}(f1:F mb)(f2:F nb∨w.heap.size≤nb)(f3:∀ p∈fs,F p.2.1)(k1:Keep (fun b=>b=hb∨b=db) w w1)
  (h1:w2.heap[hb]?=some (.cells #[.pointer (some ⟨db,0,none⟩),.pointer (some ⟨sb',0,none⟩),.slice none 0 0,.int .u64 blk] 82)) (h2:SrvK db blk D' 0 w2 0 sb' L' F') (h3:∀ b,F' b→b=db∨b=mb∨b=nb∨(∃ p∈fs,b=p.2.1)∨w1.heap.size≤b) (h4:¬F' hb) (k2:Keep (fun b=>b=hb∨b=db) w1 w2) :
  HostAt w2 hb db 0 sb' none blk D' L' F' B (.slice none 0 0) 0 (fun _=>0) (fun _=>⟨[],false⟩)∧Keep G w w2∧∀ b,HG hb db F' (.slice none 0 0) 0 (fun _=>0) b→G b∨w.heap.size≤b:=by
 have s1:=k1.size
 have hG:∀ b,HG hb db F' (.slice none 0 0) 0 (fun _=>0) b→G b∨w.heap.size≤b:=fun b hb'=>by
  rcases hb' with h | h | h | h | ⟨i,hi,_⟩
  ·exact Or.inl (h▸hG0.1)
  ·exact Or.inl (h▸hG0.2.1)
  ·rcases h3 b h with h | h | h | ⟨p,hp,h⟩ | h
   ·exact Or.inl (h▸hG0.2.1)
   ·exact Or.inl (hG0.2.2 _ (h▸f1))
   ·rcases f2 with f2 | f2
    ·exact Or.inl (hG0.2.2 _ (h▸f2))
    ·exact Or.inr (by omega)
   ·exact Or.inl (hG0.2.2 _ (h▸f3 p hp))
   ·exact Or.inr (by omega)
  ·simp [Value.ownBlock] at h
  ·omega
 refine⟨⟨h1,h2.dskF,h2,fun i hi=>absurd hi (Nat.not_lt_zero _),fun i j hi=>absurd hi (Nat.not_lt_zero _),World.ownsRow_nil _ _ _ _,fun g hg hF=>?_,fun b hb'=>?_,fun _ _=>rfl⟩,(k1.trans k2).mono (fun b h _=>h.elim (fun h=>h▸hG0.1) (fun h=>h▸hG0.2.1)),hG⟩
 ·rcases hg with h | h | h
  ·exact h4 (h▸hF)
  ·exact h
  ·simp [Value.ownBlock] at h
 ·rcases hG b hb' with h | h
  ·exact hlo b h
  ·omega
def DwnAt (w0 w:World)(hb:Nat)(blk:Int)(D:Dx)(L:Ld)(B:Nat)(G:Nat→Prop):Prop:=∃ (db:Nat) (F:Nat→Prop),(G hb∧G db∧∀ b,F b→G b)∧(∀ b,G b→B≤b∧b<w0.heap.size)∧∃ (c0:Led) (mb nb:Nat),c0.ok∧c0.ld=L∧(c0.blk=blk∧c0.hx D)∧HD w hb db mb nb c0.fsD blk∧F mb∧(F nb∨w0.heap.size≤nb)∧(∀ p∈c0.fsD,F p.2.1)∧Keep (fun b=>b=hb∨b=db) w0 w
theorem jc6 {w0 w:World}{hb:Nat}{blk:Int}{D:Dx}{L:Ld}{B:Nat}{G:Nat→Prop}(h:DwnAt w0 w hb blk D L B G){w':World}(hb':Below w.heap.size w w'):DwnAt w0 w' hb blk D L B G:=by
 obtain⟨db,F,hG0,hlo,c0,mb,nb,h1,h2,h3,h4,h5,h6,h7,h8⟩:=h
 exact⟨db,F,hG0,hlo,c0,mb,nb,h1,h2,h3,h4.keep hb'.size (fun b hb=>hb'.block b hb),h5,h6,h7,h8.trans (Keep.of_below hb')⟩
theorem ji7 {w0 w:World}{hb:Nat}{blk:Int}{D:Dx}{L:Ld}{B:Nat}{G:Nat→Prop}(h:DwnAt w0 w hb blk D L B G)(kept part:Int)(p0:-9223372036854775808≤part)(p1:part≤9223372036854775807) :
  Calls Tryz.prog 25 #[.pointer (some ⟨hb,0,none⟩),.int .i64 kept,.int .i64 part] w fun e w'=>e=.returned (.tuple #[])∧DwnAt w0 w' hb blk D L B G∧Keep G w w':=by
 obtain⟨db,F,hG0,hlo,c0,mb,nb,h1,h2,h3,h4,h5,h6,h7,h8⟩:=h
 have hkG:∀ {w':World},Keep (fun b=>b=hb∨b=db) w w'→Keep G w w':=fun k=>k.mono (fun b h _=>h.elim (fun h=>h▸hG0.1) (fun h=>h▸hG0.2.1))
 refine (jjO hb db mb nb c0.fsD blk kept part w h4 p0 p1).mono ?_
 rintro e w' ⟨rfl,⟨nb',g1,g2⟩,g3⟩
 refine⟨rfl,⟨db,F,hG0,hlo,c0,mb,nb',h1,h2,h3,g1,h5,?_,h7,h8.then g3 (fun _ _ h=>h)⟩,hkG g3⟩
 rcases g2 with g2 | g2
 ·rw [g2];exact h6
 ·exact Or.inr (Nat.le_trans h8.size g2)
theorem jhP {w0 w:World}{hb:Nat}{blk:Int}{D:Dx}{L:Ld}{B:Nat}{G:Nat→Prop}(h:DwnAt w0 w hb blk D L B G)(l f kept part:Int)(p0:-9223372036854775808≤part)(p1:part≤9223372036854775807)(hgl:w.cell? ⟨0,0,none⟩=some (.iface 236 (.agg #[.pointer (some ⟨5,97,none⟩)])))(hB0:0<B) :
  Calls Tryz.prog 20 #[.pointer (some ⟨hb,0,none⟩),.int .i64 l,.int .i64 f,.int .i64 kept,.int .i64 part] w fun e w'=>∃ code:Int,e=.returned (.int .i64 code)∧(code=0∨(code=4∨code=5)∧¬(l<0∧f<0))∧DwnAt w0 w' hb blk D L B G∧Keep G w w':=by
 obtain⟨db,F,hG0,hlo,c0,mb,nb,h1,h2,h3,h4,h5,h6,h7,h8⟩:=h
 have hkG:∀ {w':World},Keep (fun b=>b=hb∨b=db) w w'→Keep G w w':=fun k=>k.mono (fun b h _=>h.elim (fun h=>h▸hG0.1) (fun h=>h▸hG0.2.1))
 have l1:=(hlo hb hG0.1).1
 have l2:=(hlo db hG0.2.1).1
 refine (jkf hb db mb nb blk l f kept part D c0 w h1 h3.2 h4 p0 p1 hgl ⟨by omega,by omega⟩).mono ?_
 rintro e w' ⟨code,rfl,hcode,⟨nb',g1,g2⟩,g3⟩
 refine⟨code,rfl,hcode,⟨db,F,hG0,hlo,c0,mb,nb',h1,h2,h3,g1,h5,?_,h7,h8.then g3 (fun _ _ h=>h)⟩,hkG g3⟩
 rcases g2 with g2 | g2
 ·rw [g2];exact h6
 ·exact Or.inr (Nat.le_trans h8.size g2)
def Anw2 (blk:Int)(D:Dx)(L L':Ld):Prop:=Rec blk L L'∧D.t≤L'.time∧(D.z=true→∀ k z,fnd k L.ks=some z→fnd k L'.ks=some z)
def jde (w:World)(b:Nat):Prop:=∀ c t fr,w.heap[b]?≠some (.cells c t fr)
theorem jix {w0 w:World}{hb:Nat}{blk:Int}{D:Dx}{L:Ld}{B:Nat}{G:Nat→Prop}(h:DwnAt w0 w hb blk D L B G)(hB:B≤w0.heap.size) :
  Calls Tryz.prog 20 #[.pointer (some ⟨hb,0,none⟩),.int .i64 (-1),.int .i64 (-1),.int .i64 0,.int .i64 0] w fun e w'=>∃ L' G',e=.returned (.int .i64 0)∧HstAt w' hb blk ⟨L'.time,true⟩ L' B G'∧Anw2 blk D L L'∧Keep G w w'∧∀ b,G' b→G b∨w.heap.size≤b∨jde w b:=by
 obtain⟨db,F,hG0,hlo,c0,mb,nb,h1,h2,h3,h4,h5,h6,h7,h8⟩:=h
 obtain⟨⟨sv,cv',hh⟩,⟨l,f,hd⟩,hm,hn,mn⟩:=h4
 refine (jck hb db nb mb _ _ blk _ _ D c0 w h1 h3.2 h3.1 hh hd hm c0.fsD (fun _=>rfl) hn mn).mono ?_
 rintro e w' ⟨sb',L',F',rfl,hsb,hh',hS,hRec,hF',hFh,hK⟩
 obtain⟨H',hk',hg'⟩:=jh1 hG0 (fun b h=>(hlo b h).1) hB h5 h6 (fs:=c0.fsD ++ c0.fsD) (fun p hp=>h7 p ((List.mem_append.1 hp).elim id id)) h8 hh' hS hF' hFh hK
 rw [h2] at hRec
 refine⟨L',_,rfl,⟨db,0,sb',none,F',_,0,_,by omega,H',rfl⟩,hRec,hK.mono (fun b h _=>h.elim (fun h=>h▸hG0.1) (fun h=>h▸hG0.2.1)),fun b hb'=>?_⟩
 rcases hb' with h | h | h | h | ⟨i,hi,_⟩
 ·exact Or.inl (h▸hG0.1)
 ·exact Or.inl (h▸hG0.2.1)
 ·rcases hF' b h with h | h | h | ⟨p,hp,h⟩ | h
  ·exact Or.inl (h▸hG0.2.1)
  ·exact Or.inl (hG0.2.2 _ (h▸h5))
  ·refine Or.inr (Or.inr (fun c t fr e=>?_))
   rw [h] at e
   exact hn.map.ne e rfl
  ·exact Or.inl (hG0.2.2 _ (h▸h7 p ((List.mem_append.1 hp).elim id id)))
  ·exact Or.inr (Or.inl h)
 ·simp [Value.ownBlock] at h
 ·omega
theorem jgm (hb:Nat)(blk:Int)(D:Dx)(L:Ld)(B:Nat)(G:Nat→Prop)(w:World)(h:HsuAt w hb blk D L B G)(hB:B≤w.heap.size) :
  Calls Tryz.prog 20 #[.pointer (some ⟨hb,0,none⟩),.int .i64 (-1),.int .i64 (-1),.int .i64 0,.int .i64 0] w fun e w'=>∃ L' G',e=.returned (.int .i64 0)∧HstAt w' hb blk ⟨L'.time,true⟩ L' B G'∧Anw2 blk D L L'∧Keep G w w'∧∀ b,G' b→G b∨w.heap.size≤b:=by
 obtain⟨db,sb,F,cv,u1,u2,u3,u4,hG0,hlo⟩:=h
 obtain⟨c0,k1,k2,k3,hL⟩:=u3
 obtain⟨mp,g,FD,_,_,_,h4,h5,_⟩:=hL.mem
 obtain⟨mb,nb,l,f,m1,m2,m3,m4,m5,m6,m7,m8⟩:=h4.mem
 refine (jck hb db nb mb _ _ blk _ _ D c0 w k1 k3.2 k3.1 u1 m1 m2 c0.fsN k3.2.2.2 m3 m8).mono ?_
 rintro e w' ⟨sb',L',F',rfl,hsb,hh',hS,hRec,hF',hFh,hK⟩
 obtain⟨H',hk',hg'⟩:=jh1 hG0 (fun b h=>(hlo b h).1) hB (h5 mb m6) (Or.inl (h5 nb m7)) (fs:=c0.fsD ++ c0.fsN) (fun p hp=>(List.mem_append.1 hp).elim (fun hp=>h5 _ (h4.sD p hp)) (fun hp=>h5 _ (h4.sN p hp))) (Keep.refl _ w) hh' hS hF' hFh hK
 rw [k2] at hRec
 exact⟨L',_,rfl,⟨db,0,sb',none,F',_,0,_,by omega,H',rfl⟩,hRec,hk',hg'⟩
theorem jhD (hb:Nat)(blk:Int)(D:Dx)(L:Ld)(B:Nat)(G:Nat→Prop)(kept part:Int)(w:World)(H:HsuAt w hb blk D L B G)(p0:-9223372036854775808≤part)(p1:part≤9223372036854775807) :
  Calls Tryz.prog 25 #[.pointer (some ⟨hb,0,none⟩),.int .i64 kept,.int .i64 part] w fun e w'=>e=.returned (.tuple #[])∧DwnAt w w' hb blk D L B G:=by
 obtain⟨db,sb,F,cv,u1,u2,u3,u4,hG0,hlo⟩:=H
 refine (jkw hb db sb blk D L F cv kept part w u1 u2 u3 u4 p0 p1).mono ?_
 rintro e w' ⟨rfl,c0,mb,nb,h1,h2,h3,h4,h5,h6,h7,h8,h9,h10,h11,h12⟩
 exact⟨rfl,db,F,hG0,hlo,c0,mb,nb,h1,h2,h3,⟨⟨_,_,h4⟩,⟨_,_,h5⟩,h6,h7,h8⟩,h9,Or.inr h10,h11,h12⟩
theorem fnd_G (k:Ky):∀ (ks:List (Ky×Qt)),fnd k ks=fndG k ks
 | []=>rfl
 | (k',q) :: r=>by
  show (if k'=k then some q else fnd k r)=(if k'=k then some q else fndG k r)
  rw [fnd_G k r]
theorem jhz {α β:Type}(f:α→β){a b:List β}(h:a.Perm b):∀ l:List α,l.map f=a→∃ l':List α,l'.Perm l∧l'.map f=b:=by
 induction h with
 | nil=>intro l hl;exact⟨l,List.Perm.refl _,hl⟩
 | cons x _ ih=>
  intro l hl
  cases l with
  | nil=>simp at hl
  | cons y r=>
   simp only [List.map_cons,List.cons.injEq] at hl
   obtain⟨l',h1,h2⟩:=ih r hl.2
   exact⟨y :: l',h1.cons y,by rw [List.map_cons,h2,hl.1]⟩
 | swap x y s=>
  intro l hl
  match l,hl with
  | u :: v :: r,hl=>
   simp only [List.map_cons,List.cons.injEq] at hl
   exact⟨v :: u :: r,List.Perm.swap u v r,by simp only [List.map_cons];rw [hl.1,hl.2.1,hl.2.2]⟩
 | trans _ _ ih1 ih2=>
  intro l hl
  obtain⟨l1,h1,h2⟩:=ih1 l hl
  obtain⟨l2,h3,h4⟩:=ih2 l1 h2
  exact⟨l2,h3.trans h1,h4⟩
theorem jcj {K V:Type} [DecidableEq K] {l l':List (K×V)}(h:l'.Perm l)(nd:(l.map Prod.fst).Nodup)(k:K):fndG k l'=fndG k l:=by
 have nd':(l'.map Prod.fst).Nodup:=(h.map Prod.fst).nodup_iff.2 nd
 cases h1:fndG k l with
 | none=>
  refine jaM (fun hk=>?_)
  exact jb8 h1 ((h.map Prod.fst).mem_iff.1 hk)
 | some v=>exact jak nd' (h.mem_iff.2 (jao h1))
theorem Dur.perm {D time blk:Int}{es es':Es}{turn:Int}{fs:Fs}(h:Dur D time blk es turn fs)(hp:es'.Perm es)(nd:(es.map Prod.fst).Nodup):Dur D time blk es' turn fs:=by
 refine⟨fun p hp'=>h.res p (hp.mem_iff.1 hp'),?_,h.old⟩
 rcases h.img with ⟨h1,h2,h3⟩ | ⟨tm,ks,a,h1,h2,h3,h4,h5⟩
 ·rw [h2] at hp
  exact Or.inl ⟨h1,hp.eq_nil,h3⟩
 ·refine Or.inr ⟨tm,ks,a,h1.trans (hp.map Prod.fst).symm,h2,h3,?_,fun p hp'=>h5 p (hp.mem_iff.1 hp')⟩
  rw [jbT turn tm es' es ks (fun k _=>by unfold jag;rw [jcj hp nd])]
  exact h4
theorem SrvK.perm {db:Nat}{blk:Int}{D:Dx}{k:Nat}{w:World}{st:Int}{sb:Nat}{L:Ld}{F:Nat→Prop}(h:SrvK db blk D k w st sb L F){ks:List (Ky×Qt)}(hp:L.ks.Perm ks):SrvK db blk D k w st sb ⟨L.time,L.adm,ks⟩ F:=by
 obtain⟨c,h1,rfl,h3,h4⟩:=h
 obtain⟨es',p1,p2⟩:=jhz (fun p:Ky×(Qt×Qt)=>(p.1,p.2.1)) hp c.es rfl
 have hlen:=p1.length_eq
 refine⟨⟨c.time,c.adm,c.blk,es',c.turn,c.fsD,c.fsN⟩,⟨h1.time,h1.adm,h1.blk,h1.turn,(p1.map Prod.fst).nodup_iff.2 h1.nd,fun p hp=>h1.key p (p1.mem_iff.1 hp),fun p hp=>h1.qt p (p1.mem_iff.1 hp),fun p hp=>h1.fit p (p1.mem_iff.1 hp),by rw [hlen];exact h1.len,h1.dur.perm p1 h1.nd⟩,?_,⟨h3.1,Dur.perm h3.2.1 p1 h1.nd,fun hz p hp=>h3.2.2.1 hz p (p1.mem_iff.1 hp),h3.2.2.2⟩,?_⟩
 ·show (⟨c.time,c.adm,jad es'⟩:Ld)=_
  unfold jad
  rw [p2]
  rfl
 ·obtain⟨⟨mp,g,FD,m1,⟨n,Dm,o1,o2⟩,m3⟩,m4,m5⟩:=h4
  refine⟨⟨mp,g,FD,m1,⟨n,Dm,o1,⟨fun k hk=>?_,fun k v z hk hv=>?_,?_,o2.shut⟩⟩,m3⟩,m4,m5⟩
  ·rw [o2.has k hk,jcj p1 h1.nd]
  ·rw [jcj p1 h1.nd] at hv
   exact o2.at_ k v z hk hv
  ·rw [o2.size,hlen]
theorem HstAt.perm {w:World}{hb:Nat}{blk:Int}{D:Dx}{L:Ld}{B:Nat}{G:Nat→Prop}(h:HstAt w hb blk D L B G){ks:List (Ky×Qt)}(hp:L.ks.Perm ks):HstAt w hb blk D ⟨L.time,L.adm,ks⟩ B G:=by
 obtain⟨db,nb,sb,mb,F,cv,m,cb,hm,H,hG⟩:=h
 exact⟨db,nb,sb,mb,F,cv,m,cb,hm,⟨H.hh,H.hd,H.hs.perm hp,H.hc,H.hi,H.ho,H.hF,H.lo,H.fr⟩,hG⟩
def Pw (blk:Int)(z:Bool)(T:Int):List (Ky×Qt)→List (Ky×Qt)→Prop
 | [],[]=>True
 | (k,q) :: r,(k',q') :: r'=>k'=k∧Res blk q q'∧(q'.kd=2→q'.wn≤T / q'.y)∧(z=true→q'=q)∧Pw blk z T r r'
 | _,_=>False
theorem Pw.of {blk:Int}{z:Bool}{T:Int}{g:Ky→Qt}:∀ (ks:List (Ky×Qt)),(∀ p∈ks,Res blk p.2 (g p.1)∧((g p.1).kd=2→(g p.1).wn≤T / (g p.1).y)∧(z=true→g p.1=p.2))→Pw blk z T ks (ks.map fun p=>(p.1,g p.1))
 | [],_=>trivial
 | (k,q) :: r,h=>by
  have h0:=h (k,q) (by simp)
  exact⟨rfl,h0.1,h0.2.1,h0.2.2,Pw.of r (fun p hp=>h p (List.mem_cons_of_mem _ hp))⟩
structure Rc (blk:Int)(D:Dx)(L L':Ld):Prop where
 time:L'.time≤L.time
 dt:D.t≤L'.time
 adm:L'.adm=0
 pw:Pw blk D.z L'.time L.ks L'.ks
theorem Anw2.rc {blk:Int}{D:Dx}{L L':Ld}(h:Anw2 blk D L L')(h1:L.ok)(h2:L'.ok):∃ ks,L'.ks.Perm ks∧Rc blk D L ⟨L'.time,L'.adm,ks⟩:=by
 obtain⟨hr,hd,hz⟩:=h
 have fo:∀ p∈L.ks,fnd p.1 L.ks=some p.2:=fun p hp=>by rw [fnd_G];exact jak h1.nd hp
 refine⟨L.ks.map (fun p=>(p.1,(fnd p.1 L'.ks).getD ⟨0,0,0,0,0⟩)),?_,hr.time,hd,hr.adm,Pw.of (g:=fun k=>(fnd k L'.ks).getD ⟨0,0,0,0,0⟩) L.ks (fun p hp=>?_)⟩
 ·have nd2:L'.ks.Nodup:=List.Pairwise.of_map Prod.fst (fun a b h e=>h (by rw [e])) h2.nd
  have nd3:(L.ks.map (fun p=>(p.1,(fnd p.1 L'.ks).getD ⟨0,0,0,0,0⟩))).Nodup:=by
   have:((L.ks.map (fun p=>(p.1,(fnd p.1 L'.ks).getD (⟨0,0,0,0,0⟩:Qt)))).map Prod.fst).Nodup:=by
    rw [List.map_map]
    exact h1.nd
   exact List.Pairwise.of_map Prod.fst (fun a b h e=>h (by rw [e])) this
  refine (List.perm_ext_iff_of_nodup nd2 nd3).2 (fun a=>⟨fun ha=>?_,fun ha=>?_⟩)
  ·have h3:fnd a.1 L'.ks=some a.2:=by rw [fnd_G];exact jak h2.nd ha
   cases h4:fnd a.1 L.ks with
   | none=>rw [hr.none_ _ h4] at h3;cases h3
   | some q=>
    rw [fnd_G] at h4
    refine List.mem_map.2 ⟨(a.1,q),jao h4,?_⟩
    show (a.1,(fnd a.1 L'.ks).getD _)=a
    rw [h3]
    rfl
  ·obtain⟨p,hp,rfl⟩:=List.mem_map.1 ha
   obtain⟨q',e,_⟩:=hr.some_ p.1 p.2 (fo p hp)
   rw [e]
   rw [fnd_G] at e
   exact jao e
 ·obtain⟨q',e,e2,e3⟩:=hr.some_ p.1 p.2 (fo p hp)
  rw [e]
  refine⟨e2,e3,fun hzt=>?_⟩
  have:=hz hzt p.1 p.2 (fo p hp)
  rw [e] at this
  exact Option.some.inj this
theorem jdd (vs:Array Value)(w:World):Sem.run Tryz.prog (callFunc 14 vs) w=.ok (.enter 14 vs) w:=by simp [go_sem]
structure Asks (D:Dx)(L:Ld)(q:Rq)(r:Rp):Prop where
 ok:q.ok∧q.byt
 fm:feedM L ⟨[],false⟩ 0 (encQs [q])=(L,⟨[],false⟩,[r])
 fd:feedD D L ⟨[],false⟩ 0 (encQs [q])=D
 told:r.told
theorem ask83 (wb hb:Nat)(blk:Int)(D:Dx)(L:Ld)(B:Nat)(G:Nat→Prop)(q:Rq)(r:Rp)(W:World)(H:HstAt W hb blk D L B G)(hB:B≤W.heap.size)(hw:W.cell? ⟨wb,0,none⟩=some (.pointer (some ⟨hb,0,none⟩)))(ha:Asks D L q r) :
  Calls Tryz.prog 60 #[.pointer (some ⟨wb,0,none⟩),.agg #[.int .u8 q.op,.int .u8 q.k0,.int .u8 q.k1,.int .u8 q.k2,.int .u8 q.k3,.int .u8 q.k4,.int .u8 q.k5,.int .u8 q.k6,.int .u8 q.k7,.int .u8 q.kd,.int .u64 q.x,.int .u64 q.y,.int .u64 q.n]] W fun e w'=>e=.returned (.tuple #[.agg #[.int .u8 r.c,.int .u64 r.a,.int .u64 r.b],.bool true])∧∃ G',HstAt w' hb blk D L B G'∧Keep G W w'∧∀ b,G' b→G b∨W.heap.size≤b:=by
 have hbs:=fun (w:World) (s:ByteArray)=>run_bytes_of_string (P:=Tryz.prog) w 9 76 5 s Tryz.underlying9 Tryz.underlying76 Tryz.underlying5
 have hwl:=jaN hw
 obtain⟨V,hV⟩:∃ V,V=(W.alloc (.cells #[.int .u8 q.op,.int .u8 q.k0,.int .u8 q.k1,.int .u8 q.k2,.int .u8 q.k3,.int .u8 q.k4,.int .u8 q.k5,.int .u8 q.k6,.int .u8 q.k7,.int .u8 q.kd,.int .u64 q.x,.int .u64 q.y,.int .u64 q.n] 65)).alloc (.cells #[.int .u8 0,.int .u64 0,.int .u64 0] 40):=⟨_,rfl⟩
 have v0:V.heap[W.heap.size]?=some (.cells #[.int .u8 q.op,.int .u8 q.k0,.int .u8 q.k1,.int .u8 q.k2,.int .u8 q.k3,.int .u8 q.k4,.int .u8 q.k5,.int .u8 q.k6,.int .u8 q.k7,.int .u8 q.kd,.int .u64 q.x,.int .u64 q.y,.int .u64 q.n] 65):=hV▸upB (ja1 _ _) _
 have v1:V.heap[W.heap.size+1]?=some (.cells #[.int .u8 0,.int .u64 0,.int .u64 0] 40):=hV▸heapN (by simp)
 have hBV:Below W.heap.size W V:=hV▸((Below.refl _ W).alloc (Nat.le_refl _) _).alloc (by simp) _
 have sV:V.heap.size=W.heap.size+2:=by rw [hV];simp
 have HR:=hide (jeB q ha.ok.1 V)
 have e0:=cellB v0
 have HA:=hide ha
 have HH:=hide H
 have HBV:=hide hBV
 have HSV:=hide sV
 have HV1:=hide v1
 have HW:=hide hw
 clear ha H hBV sV v1 hw v0
 go_enter Tryz.func60,Tryz.ntmps60
 go_upto_region 1 with fail
 rw [←hV]
 clear hV
 go_wp2_with fail
 refine HR.out.mono ?_
 rintro e w1 ⟨a1,c1,rfl,ho1,hb1⟩
 have hB1:Below W.heap.size W w1:=HBV.out.trans (hb1.mono HBV.out.size)
 have hen:encQs [q]=q.enc:=by simp [encQs]
 obtain⟨s1,hs1⟩:∃ s1,s1=strOfNums (encQs [q]):=⟨_,rfl⟩
 obtain⟨t1,ht1⟩:∃ t1,t1=strOfNums (encs [r]):=⟨_,rfl⟩
 have hcv:(convert 76 9 (.slice a1 q.enc.length c1)).run Tryz.prog w1.drew=.ok (.string s1) w1.drew:=by
  rw [hs1,hen]
  exact jc9 (w:=w1.drew) (base:=V.heap.size) (v:=.slice a1 q.enc.length c1) (bs:=q.enc) ho1 rfl
 have hw1:=(hB1.cell (p:=⟨wb,0,none⟩) hwl).trans HW.out
 have hH1:HstAt w1.drew hb blk D L B G:=HH.out.quiet hB1.size (fun k hk=>hB1.block k (HH.out.lt k hk))
 have hF:=jig hb blk D L L B G [q] [r] 0 w1.drew hH1 (Nat.le_trans hB hB1.size) (fun x hx=>by rw [List.mem_singleton.1 hx];exact HA.out.ok) (by simp) (by omega) HA.out.fm s1 t1 hs1 ht1
 rw [HA.out.fd] at hF
 have HF:=hide hF
 have x1:=(hb1.block (W.heap.size+1) (by have:=HSV.out;omega)).trans HV1.out
 have HX1:=hide x1
 have HB1:=hide hB1
 have HT1:=hide ht1
 have sV:=HSV.out
 have hs1':=hb1.size
 clear hF hH1 hs1 ht1 hB1 hb1 ho1 x1 hen e0 HR
 go_wp2_with fail
 go_cut [7,8] (fun s7 s8 wx=>s7=.string t1∧s8=.bool false∧∃ G',HstAt wx hb blk D L B G'∧Keep G w1.drew wx∧∀ b,G' b→G b∨w1.heap.size≤b)
 case first=>
  go_region_law (first | (refine jaj (by rfl) 14 jdd _ _ (by rfl) #[.pointer (some ⟨hb,0,none⟩),.int .i64 0,.int .u64 0,.string s1,.int .i64 (-1),.int .i64 (-1),.int .i64 0,.int .i64 0] (by simp only [List.map_toArray,List.map_cons,List.map_nil];rfl) HF.out ?_;rintro e w5 ⟨G5,rfl,hv5⟩;refine⟨_,rfl,?_⟩))
  all_goals (go_wp2_with fail;go_meet)
  all_goals exact⟨rfl,rfl,G5,hv5⟩
 case rest=>
  obtain⟨rfl,rfl,G2,q1,q2,q3⟩:=hcut
  obtain⟨Y,rfl⟩:∃ Y,Y=wc:=⟨_,rfl⟩
  have x2:=(q2.block (W.heap.size+1) (ltB HX1.out) (fun h=>by have:=HH.out.lt _ h;omega)).trans HX1.out
  have hsz:t1.size=18:=by
   rw [HT1.out,strOfNums_size,jb6]
   rfl
  have htd:∀ r'∈[r],r'.told:=fun r' h=>by rw [List.mem_singleton.1 h];exact HA.out.told
  have hnum:jaa t1=jai r.c r.a r.b ++ []:=by
   rw [HT1.out,jaO _ (jaR _ htd)]
   simp [encs]
  obtain⟨bk1,bk2,bk3⟩:=jej r HA.out.told.c1 HA.out.told.c9 HA.out.told.a HA.out.told.b []
  have HQ:=hide (And.intro q1 (And.intro q2 q3))
  have HX2:=hide x2
  have HNU:=hide hnum
  have HBK:=hide (And.intro bk1 (And.intro bk2 bk3))
  have s2:=q2.size
  clear hcv hw1 HF q1 q2 q3 x2 hnum bk1 bk2 bk3 htd
  have hcap:=grownCap_ge Y t1.size 0 5
  have hSl:=Sl.of_bytes Y t1 (grownCap Y t1.size 0 5) (by simpa using hcap)
  rw [HNU.out,hsz] at hSl
  have HSL:=hide hSl
  clear hcap hSl
  go_wp2_with fail
  obtain⟨bk1,bk2,bk3⟩:=HBK.out
  have hby:Bytes (jai r.c r.a r.b ++ []):=by
   rw [←HNU.out,HT1.out,jaO _ (jaR _ (fun r' h=>by rw [List.mem_singleton.1 h];exact HA.out.told))]
   exact jaR _ (fun r' h=>by rw [List.mem_singleton.1 h];exact HA.out.told)
  refine (jgQ _ (jai r.c r.a r.b ++ []) _ HSL.out (by rw [List.length_append];exact (by decide:18+0≤1048576)) hby.getD r bk3.symm 18 0 bk2.symm bk1.symm).mono ?_
  rintro e w6 ⟨rfl,hb6⟩
  have hb6':Below Y.heap.size Y w6:=((Below.refl _ Y).alloc (Nat.le_refl _) _).drew.trans (hb6.mono (by simp))
  have x6:=(hb6'.block (W.heap.size+1) (ltB HX2.out)).trans HX2.out
  obtain⟨Z,hZ⟩:∃ Z,Z=w6.alloc (.cells #[.int .u8 r.c,.int .u64 r.a,.int .u64 r.b] 40):=⟨_,rfl⟩
  have z6:Z.heap[W.heap.size+1]?=_:=hZ▸upB x6 _
  have zb:Z.heap[w6.heap.size]?=some (.cells #[.int .u8 r.c,.int .u64 r.a,.int .u64 r.b] 40):=hZ▸ja1 _ _
  have HB6:=hide (hb6'.trans (((Below.refl _ w6).alloc (Nat.le_refl _) _).mono hb6'.size:Below Y.heap.size w6 (w6.alloc (.cells #[.int .u8 r.c,.int .u64 r.a,.int .u64 r.b] 40))))
  rw [←hZ] at HB6
  clear hb6 hb6' x6 HSL bk1 bk2 bk3 hby
  go_upto_region 4 with fail
  rw [←hZ]
  clear hZ
  have d1:=cellB z6
  have d2:=ja2 z6
  have d3:=cellB zb
  clear z6 zb
  go_wp2_with fail
  refine bodyPost_ret (v:=.tuple #[.agg #[.int .u8 r.c,.int .u64 r.a,.int .u64 r.b],.bool true]) (by simp [results,Tryz.results60,go_sem,d1]) rfl ⟨rfl,?_⟩
  obtain⟨q1,q2,q3⟩:=HQ.out
  have hnG:¬G2 (W.heap.size+1):=fun h=>(q3 _ h).elim (fun h=>by have:=HH.out.lt _ h;omega) (fun h=>by omega)
  have hB6:=HB6.out
  refine⟨G2,?_,?_,fun b hb'=>(q3 b hb').imp id (fun h=>by omega)⟩
  ·refine q1.quiet (by simp;exact hB6.size) (fun k hk=>?_)
   have hkR:k≠W.heap.size+1:=fun e=>hnG (e▸hk)
   rw [ja0 hkR,ja0 hkR,ja0 hkR]
   exact hB6.block k (q1.lt k hk)
  ·have k0:Keep G W Y:=(Keep.of_below HB1.out.drew).trans q2
   have k1:Keep G W Z:=k0.trans (Keep.of_below hB6)
   exact ((k1.set (Or.inr (Nat.le_succ _)) _ _).set (Or.inr (Nat.le_succ _)) _ _).set (Or.inr (Nat.le_succ _)) _ _
end Go.Proofs.YtnlgndpcddngoaaGreatDoor
namespace Go.Proofs.YtnlgndpcddngoaaGreatDoor
open Go.ChangeShapes Go.WideShapes Go.ChangeAt Go.RowKit Go.Joins
theorem Tryz.cells28:Tryz.prog.cellsOf 65=13:=by kernel_rfl
theorem Tryz.cells23:Tryz.prog.cellsOf 63=8:=by kernel_rfl
theorem Tryz.cells26:Tryz.prog.cellsOf 30=3:=by kernel_rfl
theorem Tryz.cells5:Tryz.prog.cellsOf 5=1:=by kernel_rfl
theorem Tryz.cells24:Tryz.prog.cellsOf 23=1:=by kernel_rfl
theorem jln {cs:List Value}(h:cs.length=13):∃ c0 c1 c2 c3 c4 c5 c6 c7 c8 c9 c10 c11 c12,cs=[c0,c1,c2,c3,c4,c5,c6,c7,c8,c9,c10,c11,c12]:=by
 match cs,h with
 | [c0,c1,c2,c3,c4,c5,c6,c7,c8,c9,c10,c11,c12],_=>exact⟨c0,c1,c2,c3,c4,c5,c6,c7,c8,c9,c10,c11,c12,rfl⟩
theorem u8_of {H:Type}{enc:TypeId×Value→H}{W:World}{base n:Nat}{spare:Nat→Bool}{held:Bool}{c:Value}{x:DataW H×List MemPlace}(h:DataW.trod enc Tryz.prog W base spare held n 5 [c]=some x):∃ a,c=.int .u8 a∧0≤a∧a≤255:=by
 obtain⟨a,e,_,wa⟩:=DataW.trod_int Tryz.underlying5 h
 have hb:=bounds_u8 wa
 simp at e
 exact⟨a,e,hb.1,by omega⟩
theorem jeJ {H:Type}{enc:TypeId×Value→H}{W:World}{base n:Nat}{spare:Nat→Bool}{held:Bool}{c:Value}{x:DataW H×List MemPlace}(h:DataW.trod enc Tryz.prog W base spare held n 23 [c]=some x):∃ a,c=.int .u64 a∧0≤a∧a≤18446744073709551615:=by
 obtain⟨a,e,_,wa⟩:=DataW.trod_int Tryz.underlying23 h
 have hb:=bounds_u64 wa
 simp at e
 exact⟨a,e,hb.1,by omega⟩
theorem jl9 {H:Type}{enc:TypeId×Value→H}{W:World}{base fuel:Nat}{spare:Nat→Bool}{held:Bool}{cs:List Value}{x:DataW H×List MemPlace}
  (hl:cs.length=13) (hf:DataW.trod enc Tryz.prog W base spare held fuel 65 cs=some x):∃ q:Rq,(q.ok∧q.byt)∧cs=rqcl q:=by
 obtain⟨c0,c1,c2,c3,c4,c5,c6,c7,c8,c9,c10,c11,c12,rfl⟩:=jln hl
 obtain⟨y0,y1,y2,y3,n,_,_,t0,t1,t2,t3⟩:=trod_struct4 Tryz.underlying65 hf
 simp only [Tryz.cells5,Tryz.cells23,Tryz.cells26,Tryz.cells24] at t0 t1 t2 t3
 obtain⟨op,rfl,o1,o2⟩:=u8_of (c:=c0) t0
 obtain⟨nn,rfl,n1,n2⟩:=jeJ (c:=c12) t3
 obtain⟨xs,m,_,_,_,hxl,hk⟩:=DataW.trod_array Tryz.underlying63 t1
 obtain⟨z0,z1,z2,n',_,_,s0,s1,s2⟩:=Deep.trod_struct3 Tryz.underlying30 t2
 simp only [Tryz.cells5,Tryz.cells24] at s0 s1 s2
 obtain⟨kd,rfl,d1,d2⟩:=u8_of (c:=c9) s0
 obtain⟨x,rfl,x1,x2⟩:=jeJ (c:=c10) s1
 obtain⟨y,rfl,g1,g2⟩:=jeJ (c:=c11) s2
 have hkk:∀ i,i<8→∃ z,DataW.trod enc Tryz.prog W base spare held m 5 ((List.drop i [c1,c2,c3,c4,c5,c6,c7,c8]).take 1)=some z:=by
  intro i hi
  have:=hk i hi
  rw [Tryz.cells5,Nat.mul_one,List.getElem?_eq_getElem (by omega)] at this
  exact⟨_,this⟩
 obtain⟨_,e0⟩:=hkk 0 (by omega)
 obtain⟨_,e1⟩:=hkk 1 (by omega)
 obtain⟨_,e2⟩:=hkk 2 (by omega)
 obtain⟨_,e3⟩:=hkk 3 (by omega)
 obtain⟨_,e4⟩:=hkk 4 (by omega)
 obtain⟨_,e5⟩:=hkk 5 (by omega)
 obtain⟨_,e6⟩:=hkk 6 (by omega)
 obtain⟨_,e7⟩:=hkk 7 (by omega)
 obtain⟨k0,rfl,a0,b0'⟩:=u8_of (c:=c1) e0
 obtain⟨k1,rfl,a1,b1⟩:=u8_of (c:=c2) e1
 obtain⟨k2,rfl,a2,b2⟩:=u8_of (c:=c3) e2
 obtain⟨k3,rfl,a3,b3⟩:=u8_of (c:=c4) e3
 obtain⟨k4,rfl,a4,b4⟩:=u8_of (c:=c5) e4
 obtain⟨k5,rfl,a5,b5⟩:=u8_of (c:=c6) e5
 obtain⟨k6,rfl,a6,b6⟩:=u8_of (c:=c7) e6
 obtain⟨k7,rfl,a7,b7⟩:=u8_of (c:=c8) e7
 exact⟨⟨op,k0,k1,k2,k3,k4,k5,k6,k7,kd,x,y,nn⟩,⟨⟨⟨⟨a0,b0'⟩,⟨a1,b1⟩,⟨a2,b2⟩,⟨a3,b3⟩,⟨a4,b4⟩,⟨a5,b5⟩,⟨a6,b6⟩,⟨a7,b7⟩⟩,⟨x1,x2⟩,⟨g1,g2⟩,⟨n1,n2⟩⟩,⟨⟨o1,o2⟩,⟨d1,d2⟩⟩⟩,rfl⟩
end Go.Proofs.YtnlgndpcddngoaaGreatDoor
