import Derived.Test.YtnlgndpcddngoaaGreatDoorZd15
import Derived.Test.YtnlgndpcddngoaaGreatDoorZd16
import Derived.Test.YtnlgndpcddngoaaGreatDoorZd17
import Derived.Test.YtnlgndpcddngoaaGreatDoorZd21
import Derived.Test.YtnlgndpcddngoaaGreatDoorZd23
import Derived.Test.YtnlgndpcddngoaaGreatDoorZd26
import Derived.Test.YtnlgndpcddngoaaGreatDoorZd22
import Derived.Deep.RegionHeld3
import Derived.Maps.AppendAt
import Derived.Test.YtnlgndpcddngoaaGreatDoorZd27
import Derived.Test.YtnlgndpcddngoaaGreatDoorZd00
set_option linter.unusedVariables false
set_option linter.unusedSimpArgs false
set_option maxRecDepth 100000
set_option maxHeartbeats 4000000
namespace Go.Proofs.YtnlgndpcddngoaaGreatDoor
open Go.RowKit
theorem jlu (vb:Value)(bs:List Int)(w:World)(hs:Sl w vb bs)(hlen:bs.length≤1048576)(hr:∀ j,0≤bs.getD j 0∧bs.getD j 0≤255)(q:Rq)(hq:q=rdQ bs)(m er:Int)(hm:m=rdN bs)(her:er=rdErr bs) :
  Calls Tryz.prog 85 #[vb] w fun e w'=>e=.returned (.tuple #[.agg #[.int .u8 q.op,.int .u8 q.k0,.int .u8 q.k1,.int .u8 q.k2,.int .u8 q.k3,.int .u8 q.k4,.int .u8 q.k5,.int .u8 q.k6,.int .u8 q.k7,.int .u8 q.kd,.int .u64 q.x,.int .u64 q.y,.int .u64 q.n],.int .i64 m,.int .i64 er])∧Below w.heap.size w w':=by
 subst hq hm her
 rcases hs with ⟨rfl,rfl | ⟨g,so,cap,rfl⟩⟩ | ⟨hp,g,so,cap,rfl,hcap,hg,hc⟩
 ·exact jeU _ _ w
 ·exact jeU _ _ w
 have bad:∀ k:Int,rdErr bs=k→k≠0→(Calls Tryz.prog 85 #[.slice (some ⟨g,so,none⟩) bs.length cap] w fun e w'=>e=.returned (.tuple #[.agg #[.int .u8 0,.int .u8 0,.int .u8 0,.int .u8 0,.int .u8 0,.int .u8 0,.int .u8 0,.int .u8 0,.int .u8 0,.int .u8 0,.int .u64 0,.int .u64 0,.int .u64 0],.int .i64 0,.int .i64 k])∧Below w.heap.size w w')→
   Calls Tryz.prog 85 #[.slice (some ⟨g,so,none⟩) bs.length cap] w fun e w'=>e=.returned (.tuple #[.agg #[.int .u8 (rdQ bs).op,.int .u8 (rdQ bs).k0,.int .u8 (rdQ bs).k1,.int .u8 (rdQ bs).k2,.int .u8 (rdQ bs).k3,.int .u8 (rdQ bs).k4,.int .u8 (rdQ bs).k5,.int .u8 (rdQ bs).k6,.int .u8 (rdQ bs).k7,.int .u8 (rdQ bs).kd,.int .u64 (rdQ bs).x,.int .u64 (rdQ bs).y,.int .u64 (rdQ bs).n],.int .i64 (rdN bs),.int .i64 (rdErr bs)])∧Below w.heap.size w w':=by
  intro k hk hk0 h
  have e0:¬rdErr bs=0:=by omega
  have e2:rdQ bs=Rq.zero:=by unfold rdQ;rw [if_neg e0]
  have e3:rdN bs=0:=by unfold rdN;rw [if_neg e0]
  rw [e2,e3,hk]
  exact h
 cases bs with
 | nil=>simp at hp
 | cons b0 t=>
  have c0:w.cell? ⟨g,so,none⟩=some (.int .u8 b0):=hc 0 hp
  have r0:0≤b0∧b0≤255:=hr 0
  by_cases hlo:b0<1
  ·exact bad 2 (by simp [rdErr,hlo]) (by omega) (jgf g so _ cap b0 w hp hg c0 (by omega))
  by_cases hhi:26<b0
  ·exact bad 2 (by simp [rdErr,hhi]) (by omega) (jh2 g so _ cap b0 w hp hg c0 hhi r0.2)
  have hor:¬(b0<1∨26<b0):=by omega
  cases t with
  | nil=>exact bad 1 (by simp [rdErr,hor]) (by omega) (jhT g so _ cap b0 w hp hg c0 (by omega) (by omega) rfl)
  | cons b1 t=>
   have hn2:1<(b0 :: b1 :: t).length:=by simp
   have c1:w.cell? ⟨g,so+1,none⟩=some (.int .u8 b1):=hc 1 hn2
   by_cases heq:b0=jaf b1
   ·by_cases hle:(((b0 :: b1 :: t).length:Nat):Int)≤b0
    ·exact bad 1 (by simp only [rdErr];rw [if_neg hor,if_pos heq,if_pos hle]) (by omega) (jfQ g so _ cap b0 w hp hg c0 (by omega) (by omega) hn2 b1 c1 heq hle)
    ·have e1:rdErr (b0 :: b1 :: t)=0:=by simp only [rdErr];rw [if_neg hor,if_pos heq,if_neg hle]
     have e3:rdN (b0 :: b1 :: t)=b0+1:=by simp [rdN,e1]
     rw [e1,e3]
     by_cases h1:b1=1
     ·subst h1
      obtain rfl:b0=26:=heq
      rw [rdQ_1 _ e1 rfl]
      exact jlD g so _ cap (fun j=>(26 :: 1 :: t).getD j 0) w (by omega) hcap hlen hg hc hr rfl rfl
     by_cases h2:b1=2
     ·subst h2
      obtain rfl:b0=17:=heq
      rw [rdQ_2 _ e1 rfl]
      exact jlq g so _ cap (fun j=>(17 :: 2 :: t).getD j 0) w (by omega) hcap hlen hg hc hr rfl rfl
     by_cases h3:b1=3
     ·subst h3
      obtain rfl:b0=9:=heq
      rw [rdQ_3 _ e1 (Or.inl rfl)]
      exact jl1 g so _ cap (fun j=>(9 :: 3 :: t).getD j 0) w (by omega) hcap hlen hg hc hr rfl rfl
     by_cases h4:b1=4
     ·subst h4
      obtain rfl:b0=9:=heq
      rw [rdQ_3 _ e1 (Or.inr rfl)]
      exact jlB g so _ cap (fun j=>(9 :: 4 :: t).getD j 0) w (by omega) hcap hlen hg hc hr rfl rfl
     by_cases h5:b1=5
     ·subst h5
      obtain rfl:b0=1:=heq
      rw [rdQ_5 _ e1 (Or.inl rfl)]
      exact jlA g so _ cap (fun j=>(1 :: 5 :: t).getD j 0) w (by omega) hcap hlen hg hc hr rfl rfl
     by_cases h6:b1=6
     ·subst h6
      obtain rfl:b0=1:=heq
      rw [rdQ_5 _ e1 (Or.inr rfl)]
      exact jlC g so _ cap (fun j=>(1 :: 6 :: t).getD j 0) w (by omega) hcap hlen hg hc hr rfl rfl
     exact absurd heq (by simp [jaf,h1,h2,h3,h4,h5,h6];omega)
   ·exact bad 2 (by simp only [rdErr];rw [if_neg hor,if_neg heq]) (by omega) (jiO g so _ cap b0 w hp hg c0 (by omega) (by omega) hn2 b1 c1 heq)
theorem jgQ (vb:Value)(bs:List Int)(w:World)(hs:Sl w vb bs)(hlen:bs.length≤1048576)(hr:∀ j,0≤bs.getD j 0∧bs.getD j 0≤255)(r:Rp)(hq:r=rpQ bs)(m er:Int)(hm:m=rpN bs)(her:er=rpErr bs) :
  Calls Tryz.prog 56 #[vb] w fun e w'=>e=.returned (.tuple #[.agg #[.int .u8 r.c,.int .u64 r.a,.int .u64 r.b],.int .i64 m,.int .i64 er])∧Below w.heap.size w w':=by
 subst hq hm her
 rcases hs with ⟨rfl,rfl | ⟨g,so,cap,rfl⟩⟩ | ⟨hp,g,so,cap,rfl,hcap,hg,hc⟩
 ·exact jf2 _ _ w
 ·exact jf2 _ _ w
 have bad:∀ k:Int,rpErr bs=k→k≠0→(Calls Tryz.prog 56 #[.slice (some ⟨g,so,none⟩) bs.length cap] w fun e w'=>e=.returned (.tuple #[.agg #[.int .u8 0,.int .u64 0,.int .u64 0],.int .i64 0,.int .i64 k])∧Below w.heap.size w w')→
   Calls Tryz.prog 56 #[.slice (some ⟨g,so,none⟩) bs.length cap] w fun e w'=>e=.returned (.tuple #[.agg #[.int .u8 (rpQ bs).c,.int .u64 (rpQ bs).a,.int .u64 (rpQ bs).b],.int .i64 (rpN bs),.int .i64 (rpErr bs)])∧Below w.heap.size w w':=by
  intro k hk hk0 h
  have e0:¬rpErr bs=0:=by omega
  have e2:rpQ bs=⟨0,0,0⟩:=by unfold rpQ;rw [if_neg e0]
  have e3:rpN bs=0:=by unfold rpN;rw [if_neg e0]
  rw [e2,e3,hk]
  exact h
 cases bs with
 | nil=>simp at hp
 | cons b0 t=>
  have c0:w.cell? ⟨g,so,none⟩=some (.int .u8 b0):=hc 0 hp
  by_cases h17:b0=17
  ·have hor:¬(b0<17∨17<b0):=by omega
   cases t with
   | nil=>exact bad 1 (by simp [rpErr,hor]) (by omega) (jis g so _ cap b0 w hp hg c0 h17 rfl)
   | cons b1 t=>
    have hn2:1<(b0 :: b1 :: t).length:=by simp
    have c1:w.cell? ⟨g,so+1,none⟩=some (.int .u8 b1):=hc 1 hn2
    by_cases hlo:b1<1
    ·have hne:¬b0=jbZ b1:=by simp [jbZ,hlo,h17]
     exact bad 2 (by simp only [rpErr];rw [if_neg hor,if_neg hne]) (by omega) (jiA g so _ cap b0 w hp hg c0 h17 hn2 b1 c1 hlo)
    by_cases hhi:9<b1
    ·have hne:¬b0=jbZ b1:=by simp [jbZ,hhi,h17]
     exact bad 2 (by simp only [rpErr];rw [if_neg hor,if_neg hne]) (by omega) (jgr g so _ cap b0 w hp hg c0 h17 hn2 b1 c1 hlo hhi)
    have heq:b0=jbZ b1:=by simp [jbZ,hlo,hhi,h17]
    by_cases hle:(((b0 :: b1 :: t).length:Nat):Int)≤b0
    ·exact bad 1 (by simp only [rpErr];rw [if_neg hor,if_pos heq,if_pos hle]) (by omega) (jfq g so _ cap b0 w hp hg c0 h17 hn2 b1 c1 hlo hhi (by omega))
    ·have e1:rpErr (b0 :: b1 :: t)=0:=by simp only [rpErr];rw [if_neg hor,if_pos heq,if_neg hle]
     have e2:rpQ (b0 :: b1 :: t)=⟨b1,num8 (b0 :: b1 :: t) 2,num8 (b0 :: b1 :: t) 10⟩:=by unfold rpQ;rw [if_pos e1];rfl
     have e3:rpN (b0 :: b1 :: t)=18:=by unfold rpN;rw [if_pos e1]
     rw [e1,e2,e3]
     exact jkj g so _ cap (fun j=>(b0 :: b1 :: t).getD j 0) w (by omega) hcap hlen hg hc hr h17 hlo hhi
  ·have hor:b0<17∨17<b0:=by omega
   exact bad 2 (by simp only [rpErr];rw [if_pos hor]) (by omega) (jhg g so _ cap b0 w hp hg c0 h17)
end Go.Proofs.YtnlgndpcddngoaaGreatDoor
namespace Go.Proofs.YtnlgndpcddngoaaGreatDoor
open Go.RowKit Go.Maps
theorem car0 {V w2:World}{b:Nat}{X:Obj}(h:V.heap[b]?=some X)(hb:Below V.drew.heap.size V.drew w2):w2.heap[b]?=some X:=(hb.block b (ltB h)).trans h
theorem car1 {V w2:World}{o:Obj}{b:Nat}{X:Obj}(h:V.heap[b]?=some X)(hb:Below (V.alloc o).drew.heap.size (V.alloc o).drew w2):w2.heap[b]?=some X:=car0 (upB h o) hb
theorem car2 {V w2:World}{o o':Obj}{b:Nat}{X:Obj}(h:V.heap[b]?=some X)(hb:Below ((V.alloc o).alloc o').drew.heap.size ((V.alloc o).alloc o').drew w2):w2.heap[b]?=some X:=car0 (upB (upB h o) o') hb
theorem bel1 {V w2:World}{o:Obj}(hb:Below (V.alloc o).drew.heap.size (V.alloc o).drew w2):Below V.heap.size V w2:=((Below.refl V.heap.size V).alloc (Nat.le_refl _) o).drew.trans (hb.mono (by simp))
theorem bel2 {V w2:World}{o o':Obj}(hb:Below ((V.alloc o).alloc o').drew.heap.size ((V.alloc o).alloc o').drew w2):Below V.heap.size V w2:=(((Below.refl V.heap.size V).alloc (Nat.le_refl _) o).alloc (by simp) o').drew.trans (hb.mono (by simp;omega))
theorem set3 {V X:World}{B9 B10:Nat}{o:Obj}{d0 d1 d2 u0 u1 u2:Value}{t:TypeId}(h9:X.heap[B9]?=some o)(h10:X.heap[B10]?=some (.cells #[d0,d1,d2] t))(hne:B9≠B10)(l9:V.heap.size≤B9)(l10:V.heap.size≤B10)(hB:Below V.heap.size V X) :
  (((X.setCell ⟨B10,0,none⟩ u0).setCell ⟨B10,1,none⟩ u1).setCell ⟨B10,2,none⟩ u2).heap[B9]?=some o∧(((X.setCell ⟨B10,0,none⟩ u0).setCell ⟨B10,1,none⟩ u1).setCell ⟨B10,2,none⟩ u2).heap[B10]?=some (.cells #[u0,u1,u2] t)∧V.heap.size≤B9∧V.heap.size≤B10∧Below V.heap.size V (((X.setCell ⟨B10,0,none⟩ u0).setCell ⟨B10,1,none⟩ u1).setCell ⟨B10,2,none⟩ u2):=by
 refine⟨?_,?_,l9,l10,((hB.setCell l10 _).setCell l10 _).setCell l10 _⟩
 ·rw [ja0 hne,ja0 hne,ja0 hne];exact h9
 ·have h1:=ja4 h10 0 u0
  have h2:=ja4 h1 1 u1
  have h3:=ja4 h2 2 u2
  simpa using h3
theorem set8 {V X:World}{B9 B10:Nat}{c0 c1 c2 c3 c4 v0 v1 v2 v3 v4 d0 d1 d2 u0 u1 u2:Value}{t t':TypeId}(h9:X.heap[B9]?=some (.cells #[c0,c1,c2,c3,c4] t'))(h10:X.heap[B10]?=some (.cells #[d0,d1,d2] t))(hne:B9≠B10)(l9:V.heap.size≤B9)(l10:V.heap.size≤B10)(hB:Below V.heap.size V X) :
  ((((((((X.setCell ⟨B9,0,none⟩ v0).setCell ⟨B9,1,none⟩ v1).setCell ⟨B9,2,none⟩ v2).setCell ⟨B9,3,none⟩ v3).setCell ⟨B9,4,none⟩ v4).setCell ⟨B10,0,none⟩ u0).setCell ⟨B10,1,none⟩ u1).setCell ⟨B10,2,none⟩ u2).heap[B9]?=some (.cells #[v0,v1,v2,v3,v4] t')∧((((((((X.setCell ⟨B9,0,none⟩ v0).setCell ⟨B9,1,none⟩ v1).setCell ⟨B9,2,none⟩ v2).setCell ⟨B9,3,none⟩ v3).setCell ⟨B9,4,none⟩ v4).setCell ⟨B10,0,none⟩ u0).setCell ⟨B10,1,none⟩ u1).setCell ⟨B10,2,none⟩ u2).heap[B10]?=some (.cells #[u0,u1,u2] t)∧V.heap.size≤B9∧V.heap.size≤B10∧Below V.heap.size V ((((((((X.setCell ⟨B9,0,none⟩ v0).setCell ⟨B9,1,none⟩ v1).setCell ⟨B9,2,none⟩ v2).setCell ⟨B9,3,none⟩ v3).setCell ⟨B9,4,none⟩ v4).setCell ⟨B10,0,none⟩ u0).setCell ⟨B10,1,none⟩ u1).setCell ⟨B10,2,none⟩ u2):=by
 have h1:=ja4 h9 0 v0
 have h2:=ja4 h1 1 v1
 have h3:=ja4 h2 2 v2
 have h4:=ja4 h3 3 v3
 have h5:=ja4 h4 4 v4
 refine set3 (by simpa using h5) (d0:=d0) (d1:=d1) (d2:=d2) (t:=t) ?_ hne l9 l10 (((((hB.setCell l9 _).setCell l9 _).setCell l9 _).setCell l9 _).setCell l9 _)
 rw [ja0 hne.symm,ja0 hne.symm,ja0 hne.symm,ja0 hne.symm,ja0 hne.symm]
 exact h10
theorem carC {V w2:World}{o:Obj}(hb:Below (V.alloc o).drew.heap.size (V.alloc o).drew w2):w2.heap[V.heap.size]?=some o:=car0 (ja1 V o) hb
theorem carD {V w2:World}{o o':Obj}(hb:Below ((V.alloc o).alloc o').drew.heap.size ((V.alloc o).alloc o').drew w2):w2.heap[V.heap.size]?=some o∧w2.heap[V.heap.size+1]?=some o':=⟨car0 (upB (ja1 V o) o') hb,car0 (heapN (by simp)) hb⟩
theorem jfi (sb mp:Nat)(s0 s1 sp adm:Value)(time blk:Int)(es:Es)(k:Ky)(w:World)(hs:w.heap[sb]?=some (.cells #[s0,s1,.int .u64 time,.int .u64 blk,.map (some mp),sp,adm] 130))(hm:MapE w mp es)(hk:k.ok)(p1 p2:Qt)(hf:fndG k es=some (p1,p2))(n:Int)(q':Qt)(rc ra rb:Int)
  (h137:Hid (∀ w1,Calls Tryz.prog 137 #[.agg #[.int .u8 p1.kd,.int .u64 p1.x,.int .u64 p1.y,.int .u64 p1.lv,.int .u64 p1.wn],.int .u64 time,.int .u64 n] w1 fun e w'=>e=.returned (.tuple #[.agg #[.int .u8 q'.kd,.int .u64 q'.x,.int .u64 q'.y,.int .u64 q'.lv,.int .u64 q'.wn],.agg #[.int .u8 rc,.int .u64 ra,.int .u64 rb]])∧Below w1.heap.size w1 w')) (hno:rc≠2∨n=0) :
  Calls Tryz.prog 111 #[.pointer (some ⟨sb,2,none⟩),.agg #[.int .u8 k.k0,.int .u8 k.k1,.int .u8 k.k2,.int .u8 k.k3,.int .u8 k.k4,.int .u8 k.k5,.int .u8 k.k6,.int .u8 k.k7],.int .u64 n] w fun e w'=>e=.returned (.agg #[.int .u8 rc,.int .u64 ra,.int .u64 rb])∧Below w.heap.size w w':=by
 go_enter Tryz.func111,Tryz.ntmps111
 go_upto_region 1 with fail
 obtain⟨W,hW⟩:∃ W,W=(w.alloc (.cells #[.int .u8 k.k0,.int .u8 k.k1,.int .u8 k.k2,.int .u8 k.k3,.int .u8 k.k4,.int .u8 k.k5,.int .u8 k.k6,.int .u8 k.k7] 63)).alloc (.cells #[.int .u8 0,.int .u64 0,.int .u64 0] 40):=⟨_,rfl⟩
 rw [←hW]
 have hB:Below w.heap.size w W:=hW▸((Below.refl _ w).alloc (Nat.le_refl _) _).alloc (by simp) _
 have hk0:W.heap[w.heap.size]?=some (.cells #[.int .u8 k.k0,.int .u8 k.k1,.int .u8 k.k2,.int .u8 k.k3,.int .u8 k.k4,.int .u8 k.k5,.int .u8 k.k6,.int .u8 k.k7] 63):=hW▸upB (ja1 _ _) _
 have hr0:W.heap[w.heap.size+1]?=some (.cells #[.int .u8 0,.int .u64 0,.int .u64 0] 40):=hW▸heapN (by simp)
 have hs0:W.heap[sb]?=some (.cells #[s0,s1,.int .u64 time,.int .u64 blk,.map (some mp),sp,adm] 130):=hW▸upB (upB hs _) _
 have hm0:MapE W mp es:=MapG.kept hm (hB.block mp (MapG.lt hm))
 have hsb:=ltB hs
 clear hW hs hm
 have a1:=cellB hk0
 have a2:=upC hk0 (.cells #[.int .u8 0,.int .u64 0,.int .u64 0,.int .u64 0,.int .u64 0,.int .u8 0,.int .u64 0,.int .u64 0,.int .u64 0,.int .u64 0] 177)
 have a3:=cellB hs0
 have a4:=upC hs0 (.cells #[.int .u8 0,.int .u64 0,.int .u64 0,.int .u64 0,.int .u64 0,.int .u8 0,.int .u64 0,.int .u64 0,.int .u64 0,.int .u64 0] 177)
 have a5:=jaT (w:=W.drew) (MapG.kept hm0 rfl) hk hf
 have a6:=jaT (w:=(W.alloc (.cells #[.int .u8 0,.int .u64 0,.int .u64 0,.int .u64 0,.int .u64 0,.int .u8 0,.int .u64 0,.int .u64 0,.int .u64 0,.int .u64 0] 177)).drew) (MapG.kept hm0 (ja3 _ _ (MapG.lt hm0))) hk hf
 go_cut [7,8] (fun s5 s6 wx=>s5=.pointer (some ⟨W.heap.size,0,none⟩)∧s6=.bool true∧wx=(W.alloc (.cells #[.int .u8 p1.kd,.int .u64 p1.x,.int .u64 p1.y,.int .u64 p1.lv,.int .u64 p1.wn,.int .u8 p2.kd,.int .u64 p2.x,.int .u64 p2.y,.int .u64 p2.lv,.int .u64 p2.wn] 177)).drew)
 case first=>
  go_region
  all_goals (go_wp2_with fail;go_meet)
  all_goals exact⟨rfl,rfl,rfl⟩
 case rest=>
  obtain⟨rfl,rfl,rfl⟩:=hcut
  have hz0:(W.alloc (.cells #[.int .u8 p1.kd,.int .u64 p1.x,.int .u64 p1.y,.int .u64 p1.lv,.int .u64 p1.wn,.int .u8 p2.kd,.int .u64 p2.x,.int .u64 p2.y,.int .u64 p2.lv,.int .u64 p2.wn] 177)).heap[W.heap.size]?=some (.cells #[.int .u8 p1.kd,.int .u64 p1.x,.int .u64 p1.y,.int .u64 p1.lv,.int .u64 p1.wn,.int .u8 p2.kd,.int .u64 p2.x,.int .u64 p2.y,.int .u64 p2.lv,.int .u64 p2.wn] 177):=ja1 _ _
  have hk1:=upB hk0 (.cells #[.int .u8 p1.kd,.int .u64 p1.x,.int .u64 p1.y,.int .u64 p1.lv,.int .u64 p1.wn,.int .u8 p2.kd,.int .u64 p2.x,.int .u64 p2.y,.int .u64 p2.lv,.int .u64 p2.wn] 177)
  have hr1:=upB hr0 (.cells #[.int .u8 p1.kd,.int .u64 p1.x,.int .u64 p1.y,.int .u64 p1.lv,.int .u64 p1.wn,.int .u8 p2.kd,.int .u64 p2.x,.int .u64 p2.y,.int .u64 p2.lv,.int .u64 p2.wn] 177)
  have hs1:=upB hs0 (.cells #[.int .u8 p1.kd,.int .u64 p1.x,.int .u64 p1.y,.int .u64 p1.lv,.int .u64 p1.wn,.int .u8 p2.kd,.int .u64 p2.x,.int .u64 p2.y,.int .u64 p2.lv,.int .u64 p2.wn] 177)
  have hm1:MapE (W.alloc (.cells #[.int .u8 p1.kd,.int .u64 p1.x,.int .u64 p1.y,.int .u64 p1.lv,.int .u64 p1.wn,.int .u8 p2.kd,.int .u64 p2.x,.int .u64 p2.y,.int .u64 p2.lv,.int .u64 p2.wn] 177)) mp es:=MapG.kept hm0 (ja3 _ _ (MapG.lt hm0))
  have hB1:=hB.alloc hB.size (.cells #[.int .u8 p1.kd,.int .u64 p1.x,.int .u64 p1.y,.int .u64 p1.lv,.int .u64 p1.wn,.int .u8 p2.kd,.int .u64 p2.x,.int .u64 p2.y,.int .u64 p2.lv,.int .u64 p2.wn] 177)
  have hB0:=hB.size
  clear a1 a2 a3 a4 a5 a6 hk0 hr0 hs0 hm0
  obtain⟨V,hV⟩:∃ V,V=(W.alloc (.cells #[.int .u8 p1.kd,.int .u64 p1.x,.int .u64 p1.y,.int .u64 p1.lv,.int .u64 p1.wn,.int .u8 p2.kd,.int .u64 p2.x,.int .u64 p2.y,.int .u64 p2.lv,.int .u64 p2.wn] 177)).drew:=⟨_,rfl⟩
  rw [←hV]
  have hz2:V.heap[W.heap.size]?=some (.cells #[.int .u8 p1.kd,.int .u64 p1.x,.int .u64 p1.y,.int .u64 p1.lv,.int .u64 p1.wn,.int .u8 p2.kd,.int .u64 p2.x,.int .u64 p2.y,.int .u64 p2.lv,.int .u64 p2.wn] 177):=hV▸hz0
  have hk2:V.heap[w.heap.size]?=some (.cells #[.int .u8 k.k0,.int .u8 k.k1,.int .u8 k.k2,.int .u8 k.k3,.int .u8 k.k4,.int .u8 k.k5,.int .u8 k.k6,.int .u8 k.k7] 63):=hV▸hk1
  have hr2:V.heap[w.heap.size+1]?=some (.cells #[.int .u8 0,.int .u64 0,.int .u64 0] 40):=hV▸hr1
  have hs2:V.heap[sb]?=some (.cells #[s0,s1,.int .u64 time,.int .u64 blk,.map (some mp),sp,adm] 130):=hV▸hs1
  have hm2:MapE V mp es:=hV▸MapG.kept hm1 rfl
  have hB2:Below w.heap.size w V:=hV▸hB1.drew
  clear hV hz0 hk1 hr1 hs1 hm1 hB1
  have lz:=ltB hz2
  have lr:=ltB hr2
  have ls:=ltB hs2
  go_upto_region 4 with fail
  go_cut [9,10] (fun s9 s10 wx=>∃ (X:World) (B9 B10:Nat),X=wx∧s9=.pointer (some ⟨B9,0,none⟩)∧s10=.pointer (some ⟨B10,0,none⟩)∧X.heap[B9]?=some (.cells #[.int .u8 q'.kd,.int .u64 q'.x,.int .u64 q'.y,.int .u64 q'.lv,.int .u64 q'.wn] 173)∧X.heap[B10]?=some (.cells #[.int .u8 rc,.int .u64 ra,.int .u64 rb] 40)∧V.heap.size≤B9∧V.heap.size≤B10∧Below V.heap.size V X)
  case first=>
   have c0:=cellB hz2 0
   have c1:=cellB hz2 1
   have c2:=cellB hz2 2
   have c3:=cellB hz2 3
   have c4:=cellB hz2 4
   have c5:=cellB hs2 2
   simp at c0 c1 c2 c3 c4 c5
   have n1:V.heap.size≠W.heap.size:=by omega
   have n2:V.heap.size+1≠W.heap.size:=by omega
   have n3:V.heap.size≠sb:=by omega
   have n4:V.heap.size+1≠sb:=by omega
   have HZ2:=hide hz2
   have HS2:=hide hs2
   clear hz2 hk2 hr2 hs2 hm2 hB2 hB hk hf hB0
   go_region_held3 (fun w'=>w'.cell? ⟨W.heap.size,0,none⟩=some (.int .u8 p1.kd)∧w'.cell? ⟨W.heap.size,1,none⟩=some (.int .u64 p1.x)∧w'.cell? ⟨W.heap.size,2,none⟩=some (.int .u64 p1.y)∧w'.cell? ⟨W.heap.size,3,none⟩=some (.int .u64 p1.lv)∧w'.cell? ⟨W.heap.size,4,none⟩=some (.int .u64 p1.wn)∧w'.cell? ⟨sb,2,none⟩=some (.int .u64 time)) (first | go_keep) (first
     | (go_at_call 137;refine (h137.out _).mono ?_;rintro e w2 ⟨rfl,hb2⟩
        have sz2:=hb2.size
        have hzz:=(by first | exact car2 HZ2.out hb2 | exact car1 HZ2.out hb2 | exact car0 HZ2.out hb2:w2.heap[W.heap.size]?=some (.cells #[.int .u8 p1.kd,.int .u64 p1.x,.int .u64 p1.y,.int .u64 p1.lv,.int .u64 p1.wn,.int .u8 p2.kd,.int .u64 p2.x,.int .u64 p2.y,.int .u64 p2.lv,.int .u64 p2.wn] 177))
        have hss:=(by first | exact car2 HS2.out hb2 | exact car1 HS2.out hb2 | exact car0 HS2.out hb2:w2.heap[sb]?=some (.cells #[s0,s1,.int .u64 time,.int .u64 blk,.map (some mp),sp,adm] 130))
        have d0:=cellB hzz 0
        have d1:=cellB hzz 1
        have d2:=cellB hzz 2
        have d3:=cellB hzz 3
        have d4:=cellB hzz 4
        have d5:=cellB hss 2
        simp at d0 d1 d2 d3 d4 d5 sz2
        have m1:w2.heap.size≠W.heap.size:=by omega
        have m2:w2.heap.size+1≠W.heap.size:=by omega
        have m3:w2.heap.size≠sb:=by omega
        have m4:w2.heap.size+1≠sb:=by omega
        first
          | (have hx0:Below V.drew.heap.size V.drew w2:=hb2;have HBV:=hide ((Below.refl V.heap.size V).drew.trans hx0);clear hx0)
          | (have hx0:Below (V.alloc (.cells #[.int .u8 0,.int .u64 0,.int .u64 0,.int .u64 0,.int .u64 0] 173)).drew.heap.size (V.alloc (.cells #[.int .u8 0,.int .u64 0,.int .u64 0,.int .u64 0,.int .u64 0] 173)).drew w2:=hb2;have hx9:=carC hx0;have HBV:=hide (bel1 hx0);have x1:=cellB hx9;have x2:=ja2 hx9;have x3:=upC hx9 (.cells #[.int .u8 0,.int .u64 0,.int .u64 0,.int .u64 0,.int .u64 0] 173);have x4:=upF hx9 (.cells #[.int .u8 0,.int .u64 0,.int .u64 0,.int .u64 0,.int .u64 0] 173);have x5:=upC hx9 (.cells #[.int .u8 0,.int .u64 0,.int .u64 0] 40);have x6:=upF hx9 (.cells #[.int .u8 0,.int .u64 0,.int .u64 0] 40);have x9:=upC hx9 (.cells #[.int .u8 q'.kd,.int .u64 q'.x,.int .u64 q'.y,.int .u64 q'.lv,.int .u64 q'.wn] 173);have x10:=upF hx9 (.cells #[.int .u8 q'.kd,.int .u64 q'.x,.int .u64 q'.y,.int .u64 q'.lv,.int .u64 q'.wn] 173);have x7:¬V.heap.size=w2.heap.size:=(by omega);have x8:¬w2.heap.size=V.heap.size:=(by omega);have HX9:=hide hx9;clear hx9 hx0)
          | (have hx0:Below (V.alloc (.cells #[.int .u8 0,.int .u64 0,.int .u64 0] 40)).drew.heap.size (V.alloc (.cells #[.int .u8 0,.int .u64 0,.int .u64 0] 40)).drew w2:=hb2;have hx9:=carC hx0;have HBV:=hide (bel1 hx0);have x1:=cellB hx9;have x2:=ja2 hx9;have x3:=upC hx9 (.cells #[.int .u8 0,.int .u64 0,.int .u64 0,.int .u64 0,.int .u64 0] 173);have x4:=upF hx9 (.cells #[.int .u8 0,.int .u64 0,.int .u64 0,.int .u64 0,.int .u64 0] 173);have x5:=upC hx9 (.cells #[.int .u8 0,.int .u64 0,.int .u64 0] 40);have x6:=upF hx9 (.cells #[.int .u8 0,.int .u64 0,.int .u64 0] 40);have x9:=upC hx9 (.cells #[.int .u8 q'.kd,.int .u64 q'.x,.int .u64 q'.y,.int .u64 q'.lv,.int .u64 q'.wn] 173);have x10:=upF hx9 (.cells #[.int .u8 q'.kd,.int .u64 q'.x,.int .u64 q'.y,.int .u64 q'.lv,.int .u64 q'.wn] 173);have x7:¬V.heap.size=w2.heap.size:=(by omega);have x8:¬w2.heap.size=V.heap.size:=(by omega);have HX9:=hide hx9;clear hx9 hx0)
          | (have hx0:Below ((V.alloc (.cells #[.int .u8 0,.int .u64 0,.int .u64 0,.int .u64 0,.int .u64 0] 173)).alloc (.cells #[.int .u8 0,.int .u64 0,.int .u64 0] 40)).drew.heap.size ((V.alloc (.cells #[.int .u8 0,.int .u64 0,.int .u64 0,.int .u64 0,.int .u64 0] 173)).alloc (.cells #[.int .u8 0,.int .u64 0,.int .u64 0] 40)).drew w2:=hb2;obtain⟨hx9,hy9⟩:=carD hx0;have HBV:=hide (bel2 hx0);have x1:=cellB hx9;have x2:=ja2 hx9;have y1:=cellB hy9;have y2:=ja2 hy9;have HX9:=hide hx9;have HY9:=hide hy9;clear hx9 hy9 hx0)
          | (have hx0:Below ((V.alloc (.cells #[.int .u8 0,.int .u64 0,.int .u64 0] 40)).alloc (.cells #[.int .u8 0,.int .u64 0,.int .u64 0,.int .u64 0,.int .u64 0] 173)).drew.heap.size ((V.alloc (.cells #[.int .u8 0,.int .u64 0,.int .u64 0] 40)).alloc (.cells #[.int .u8 0,.int .u64 0,.int .u64 0,.int .u64 0,.int .u64 0] 173)).drew w2:=hb2;obtain⟨hx9,hy9⟩:=carD hx0;have HBV:=hide (bel2 hx0);have x1:=cellB hx9;have x2:=ja2 hx9;have y1:=cellB hy9;have y2:=ja2 hy9;have HX9:=hide hx9;have HY9:=hide hy9;clear hx9 hy9 hx0)
        have t1:=cellB (upB (ja1 w2 (.cells #[.int .u8 0,.int .u64 0,.int .u64 0,.int .u64 0,.int .u64 0] 173)) (.cells #[.int .u8 0,.int .u64 0,.int .u64 0] 40))
        have t2:=ja2 (upB (ja1 w2 (.cells #[.int .u8 0,.int .u64 0,.int .u64 0,.int .u64 0,.int .u64 0] 173)) (.cells #[.int .u8 0,.int .u64 0,.int .u64 0] 40))
        have t3:=cellB (upB (ja1 w2 (.cells #[.int .u8 0,.int .u64 0,.int .u64 0] 40)) (.cells #[.int .u8 0,.int .u64 0,.int .u64 0,.int .u64 0,.int .u64 0] 173))
        have t4:=ja2 (upB (ja1 w2 (.cells #[.int .u8 0,.int .u64 0,.int .u64 0] 40)) (.cells #[.int .u8 0,.int .u64 0,.int .u64 0,.int .u64 0,.int .u64 0] 173))
        have t5:=cellB (ja1 w2 (.cells #[.int .u8 0,.int .u64 0,.int .u64 0] 40))
        have t6:=ja2 (ja1 w2 (.cells #[.int .u8 0,.int .u64 0,.int .u64 0] 40))
        have t7:=cellB (ja1 w2 (.cells #[.int .u8 0,.int .u64 0,.int .u64 0,.int .u64 0,.int .u64 0] 173))
        have t8:=ja2 (ja1 w2 (.cells #[.int .u8 0,.int .u64 0,.int .u64 0,.int .u64 0,.int .u64 0] 173))
        have HB3:=hide hb2
        clear hb2 hzz hss))
   all_goals (go_wp2_with fail;go_meet)
   ·exact⟨_,_,_,rfl,rfl,rfl,upB (ja1 _ _) _,heapN (by simp),HBV.out.size,Nat.le_succ_of_le HBV.out.size,(HBV.out.alloc HBV.out.size _).alloc (by have:=HBV.out.size;simp;omega) _⟩
   ·exact⟨_,_,_,rfl,rfl,rfl,heapN (by simp),upB (ja1 _ _) _,Nat.le_succ_of_le HBV.out.size,HBV.out.size,(HBV.out.alloc HBV.out.size _).alloc (by have:=HBV.out.size;simp;omega) _⟩
   ·exact⟨_,_,_,rfl,rfl,rfl,set8 (upB HX9.out _) (ja1 _ _) x7 (Nat.le_refl _) HBV.out.size (HBV.out.alloc HBV.out.size _)⟩
   ·exact⟨_,_,_,rfl,rfl,rfl,set8 HX9.out HY9.out (by omega) (by omega) (by omega) HBV.out⟩
   ·exact⟨_,_,_,rfl,rfl,rfl,set3 (ja1 _ _) (upB HX9.out _) x8 HBV.out.size (Nat.le_refl _) (HBV.out.alloc HBV.out.size _)⟩
   ·exact⟨_,_,_,rfl,rfl,rfl,set8 HY9.out HX9.out (by omega) (by omega) (by omega) HBV.out⟩
  case rest=>
   obtain⟨X,B9,B10,rfl,rfl,rfl,g9,g10,l9,l10,hBX⟩:=hcut
   have hkX:=(hBX.block _ (ltB hk2)).trans hk2
   have hrX:=(hBX.block _ (ltB hr2)).trans hr2
   have hzX:=(hBX.block _ (ltB hz2)).trans hz2
   have hsX:=(hBX.block _ (ltB hs2)).trans hs2
   have hmX:MapE X mp es:=MapG.kept hm2 (hBX.block mp (MapG.lt hm2))
   have hBw:Below w.heap.size w X:=hB2.trans (hBX.mono hB2.size)
   have hVw:=hB2.size
   have hsw:=hBw.size
   have lrX:=ltB hrX
   have l10X:=ltB g10
   have l9X:=ltB g9
   have l9r:¬w.heap.size+1=B10:=by omega
   have l9s:¬B10=w.heap.size+1:=by omega
   clear hk2 hr2 hz2 hs2 hm2 hBX hB2
   have b1:=cellB g10
   have b2:=cellB hrX
   have b3:=ja2 hrX
   have HBW:=hide hBw
   clear g9 g10 hkX hrX hzX hsX hmX hBw
   rcases hno with h | h
   ·have h':(rc==2)=false:=by simp [h]
    go_wp2
    refine bodyPost_ret (v:=.agg #[.int .u8 rc,.int .u64 ra,.int .u64 rb]) (by simp [results,Tryz.results111,go_sem,b2]) rfl ⟨rfl,?_⟩
    repeat (refine Below.setCell ?_ (by simp <;> omega) _)
    exact HBW.out
   ·subst h
    by_cases h2:rc=2
    ·have h':(rc==2)=true:=by simp [h2]
     go_wp2
     refine bodyPost_ret (v:=.agg #[.int .u8 rc,.int .u64 ra,.int .u64 rb]) (by simp [results,Tryz.results111,go_sem,b2,h2]) rfl ⟨rfl,?_⟩
     repeat (refine Below.setCell ?_ (by simp <;> omega) _)
     exact HBW.out
    ·have h':(rc==2)=false:=by simp [h2]
     go_wp2
     refine bodyPost_ret (v:=.agg #[.int .u8 rc,.int .u64 ra,.int .u64 rb]) (by simp [results,Tryz.results111,go_sem,b2]) rfl ⟨rfl,?_⟩
     repeat (refine Below.setCell ?_ (by simp <;> omega) _)
     exact HBW.out
end Go.Proofs.YtnlgndpcddngoaaGreatDoor
namespace Go.Proofs.YtnlgndpcddngoaaGreatDoor
open Go.RowKit
theorem jej (r:Rp)(h1:1≤r.c)(h9:r.c≤9)(ha:0≤r.a∧r.a≤18446744073709551615)(hb:0≤r.b∧r.b≤18446744073709551615)(t:List Int) :
  rpErr (jai r.c r.a r.b ++ t)=0∧rpN (jai r.c r.a r.b ++ t)=18∧rpQ (jai r.c r.a r.b ++ t)=r:=by
 have e0:jai r.c r.a r.b ++ t=17 :: r.c :: (be8 r.a ++ (be8 r.b ++ t)):=by simp [jai]
 have hl:(jai r.c r.a r.b ++ t).length=18+t.length:=by rw [List.length_append];rfl
 have hE:rpErr (jai r.c r.a r.b ++ t)=0:=by
  rw [e0]
  simp only [rpErr]
  rw [if_neg (by omega),if_pos (by unfold jbZ;rw [if_neg (by omega)]),if_neg]
  rw [←e0,hl];omega
 refine⟨hE,by unfold rpN;rw [if_pos hE],?_⟩
 unfold rpQ
 rw [if_pos hE]
 have hc:(jai r.c r.a r.b ++ t).getD 1 0=r.c:=by rw [e0];rfl
 have hA:num8 (jai r.c r.a r.b ++ t) 2=r.a:=by
  rw [e0]
  refine Eq.trans ?_ (jh7 r.a ha.1 ha.2)
  unfold num8
  simp [rdTo,be8,List.getD]
 have hB:num8 (jai r.c r.a r.b ++ t) 10=r.b:=by
  rw [e0]
  refine Eq.trans ?_ (jh7 r.b hb.1 hb.2)
  unfold num8
  simp [rdTo,be8,List.getD]
 rw [hc,hA,hB]
structure Rp.told (r:Rp):Prop where
 c1:1≤r.c
 c9:r.c≤9
 a:0≤r.a∧r.a≤18446744073709551615
 b:0≤r.b∧r.b≤18446744073709551615
theorem jaR (rs:List Rp)(h:∀ r∈rs,r.told):Bytes (encs rs):=by
 intro x hx
 unfold encs at hx
 obtain⟨r,hr,hx⟩:=List.mem_flatMap.1 hx
 have ht:=h r hr
 have hb:∀ (v:Int) x,x∈be8 v→0≤x∧x≤255:=by
  intro v x hx
  simp only [be8,List.mem_cons,List.not_mem_nil,or_false] at hx
  rcases hx with rfl | rfl | rfl | rfl | rfl | rfl | rfl | rfl <;> exact jfb v _
 simp only [jai,List.mem_append,List.mem_cons,List.not_mem_nil,or_false] at hx
 have:=ht.c1
 have:=ht.c9
 rcases hx with (hx | hx) | hx
 ·omega
 ·exact hb _ _ hx
 ·exact hb _ _ hx
end Go.Proofs.YtnlgndpcddngoaaGreatDoor
namespace Go.Proofs.YtnlgndpcddngoaaGreatDoor
open Go.RowKit Go.Maps
structure OpF (w:World)(db mb nb:Nat)(fs:Fs)(im:Bool→Option Ig)(l f:Int):Prop where
 hd:w.heap[db]?=some (.cells #[.map (some mb),.map (some nb),.slice none 0 0,.int .i64 l,.int .i64 f,.bool false] 88)
 hl:l≠0
 hf:f≠0
 hD:DirAt w nb fs
 hI:Files fs im
 some_:∃ b,im b≠none
 rel:∀ a b,im false=some a→im true=some b→b.turn=nextT a.turn∨a.turn=nextT b.turn
theorem OpF.kept {w w':World}{db mb nb:Nat}{fs:Fs}{im:Bool→Option Ig}{l f:Int}(h:OpF w db mb nb fs im l f)(hb:Below w.heap.size w w'):OpF w' db mb nb fs im l f:=
 ⟨(hb.block db (ltB h.hd)).trans h.hd,h.hl,h.hf,h.hD.kept (hb.block nb h.hD.map.lt) (fun p hp=>hb.block _ (ltB (h.hD.str p hp))),h.hI,h.some_,h.rel⟩
theorem jdZ (A B g db mb nb:Nat)(fs:Fs)(im:Bool→Option Ig)(l f:Int)(w:World)(hA:w.heap[A]?=some (.cells #[.pointer (some ⟨g,0,none⟩)] 122))(hB:w.heap[B]?=some (.cells #[.int .u64 0,.int .u64 0,.slice none 0 0] 169))(hg:w.cell? ⟨g,0,none⟩=some (.iface 78 (.pointer (some ⟨db,0,none⟩))))(hT:TabOk w g 1)(hgd:g≠db)(hgn:g≠nb)(hgs:∀ p∈fs,p.2.1≠g)(hBg:B≠g)(hBd:B≠db)(h:OpF w db mb nb fs im l f) :
  Calls Tryz.prog 117 #[.pointer (some ⟨A,0,none⟩),.pointer (some ⟨B,0,none⟩)] w fun e w'=>e=.returned .nilIface∧∃ (i:Ig) (a:Option Addr) (c:Nat),Best im i∧w'.heap[B]?=some (.cells #[.int .u64 i.turn,.int .u64 i.time,.slice a i.ks.length c] 169)∧w'.ownsRow w.heap.size 175 13 (.slice a i.ks.length c) i.ks.length (rrow i.es i.ks)∧w'.heap[db]?=some (.cells #[.map (some mb),.map (some nb),.slice none 0 0,.int .i64 (decM l),.int .i64 (decM f),.bool false] 88)∧TabOk w' g 1∧(∀ j,(j<1∨260≤j)→w'.cell? ⟨g,j,none⟩=w.cell? ⟨g,j,none⟩∧w'.frozen? ⟨g,j,none⟩=w.frozen? ⟨g,j,none⟩)∧Keep (fun c=>c=B∨c=g∨c=db) w w':=by
 have HL:=hide (jiV g db mb nb fs im l f w hg hT hgd hgn hgs h.hd h.hl h.hf h.hD h.hI h.some_ h.rel)
 have a1:=cellB hA
 have lB:=ltB hB
 clear hg h hT hgs
 go_enter Tryz.func117,Tryz.ntmps117
 go_wp2_with fail
 refine HL.out.mono ?_
 rintro e w1 ⟨i,a,c,q1,rfl,q2,q3,q4,q5,q6⟩
 have h1:=(q6.block B lB (fun h=>h.elim hBg hBd)).trans hB
 have e1:=cellB h1
 have e2:=ja2 h1
 have HQ:=hide (And.intro q1 (And.intro q2 (And.intro q3 (And.intro q4 (And.intro q5 q6)))))
 clear q1 q2 q3 q4 q5 q6 a1
 go_wp2
 go_ret
 obtain⟨q1,q2,q3,q4,q5,q6⟩:=HQ.out
 have nB:∀ x,x≠B→(((w1.setCell ⟨B,0,none⟩ (.int .u64 i.turn)).setCell ⟨B,1,none⟩ (.int .u64 i.time)).setCell ⟨B,2,none⟩ (.slice a i.ks.length c)).heap[x]?=w1.heap[x]?:=fun x hx=>(ja0 hx _ _).trans ((ja0 hx _ _).trans (ja0 hx _ _))
 refine⟨rfl,i,a,c,q1,by simpa using ja4 (ja4 (ja4 h1 0 (.int .u64 i.turn)) 1 (.int .u64 i.time)) 2 (.slice a i.ks.length c),ja7 q2 (fun x hx=>nB x (fun e=>by have:=(ja5 q2 hx).1;omega)),(nB db (fun e=>hBd e.symm)).trans q3,q4.block (nB g (fun e=>hBg e.symm)),fun j hj=>⟨(World.cell?_of_block (w:=w1) (nB g (fun e=>hBg e.symm))).trans (q5 j hj).1,(World.frozen?_of_block (w:=w1) (nB g (fun e=>hBg e.symm))).trans (q5 j hj).2⟩,?_⟩
 refine Keep.set (b:=B) (Keep.set (b:=B) (Keep.set (b:=B) ?_ (Or.inl (Or.inl rfl)) _ _) (Or.inl (Or.inl rfl)) _ _) (Or.inl (Or.inl rfl)) _ _
 exact q6.mono (fun x h _=>Or.inr h)
theorem jdJ (db mb nb:Nat)(fs:Fs)(im:Bool→Option Ig)(l f:Int)(w:World)(h:OpF w db mb nb fs im l f) :
  Calls Tryz.prog 76 #[.iface 78 (.pointer (some ⟨db,0,none⟩))] w fun e w'=>∃ (g:Nat) (i:Ig) (a:Option Addr) (c:Nat),e=.returned (.tuple #[.pointer (some ⟨g,0,none⟩),.agg #[.int .u64 i.turn,.int .u64 i.time,.slice a i.ks.length c],.nilIface])∧w.heap.size≤g∧Best im i∧StoAt w' g db i.turn∧w'.ownsRow w.heap.size 175 13 (.slice a i.ks.length c) i.ks.length (rrow i.es i.ks)∧w'.heap[db]?=some (.cells #[.map (some mb),.map (some nb),.slice none 0 0,.int .i64 (decM l),.int .i64 (decM f),.bool false] 88)∧Keep (fun c=>c=db) w w':=by
 have hmf:∀ (fn:Fn) (first cap:Array Value) (w:World),(Instr.makeFunc fn first cap).run Tryz.prog w=.ok (.func fn first cap) w:=fun _ _ _ _=>rfl
 obtain⟨zc,hzc,z0,z1,z2,z3,z4,z5⟩:=jci db
 obtain⟨V,hV⟩:∃ V,V=(((w.alloc (.cells #[.int .u64 0,.int .u64 0,.slice none 0 0] 169)).alloc (.cells zc 230)).alloc (.cells #[.pointer (some ⟨w.heap.size+1,0,none⟩)] 122)).alloc (.cells #[.int .u64 0,.int .u64 0,.slice none 0 0] 169):=⟨_,rfl⟩
 have h0:V.heap[w.heap.size]?=some (.cells #[.int .u64 0,.int .u64 0,.slice none 0 0] 169):=hV▸upB (upB (upB (ja1 _ _) _) _) _
 have h1:V.heap[w.heap.size+1]?=some (.cells zc 230):=hV▸upB (upB (heapN (by simp)) _) _
 have h2:V.heap[w.heap.size+2]?=some (.cells #[.pointer (some ⟨w.heap.size+1,0,none⟩)] 122):=hV▸upB (heapN (by simp)) _
 have h3:V.heap[w.heap.size+3]?=some (.cells #[.int .u64 0,.int .u64 0,.slice none 0 0] 169):=hV▸heapN (by simp)
 have hsV:V.heap.size=w.heap.size+4:=by rw [hV];simp
 have hB:Below w.heap.size w V:=hV▸((((Below.refl _ w).alloc (Nat.le_refl _) _).alloc (by simp) _).alloc (by simp;omega) _).alloc (by simp;omega) _
 have hdl:=ltB h.hd
 have hnl:=h.hD.map.lt
 have hfl:∀ p∈fs,p.2.1<w.heap.size:=fun p hp=>ltB (h.hD.str p hp)
 obtain⟨U,hU⟩:∃ U,U=V.alloc (.cells #[.nilIface] 97):=⟨_,rfl⟩
 have hBU:Below w.heap.size w U:=hU▸hB.alloc hB.size _
 have hsU:U.heap.size=w.heap.size+5:=by rw [hU];simp;omega
 have u1:U.heap[w.heap.size+1]?=some (.cells zc 230):=hU▸upB h1 _
 have cU:=cellB u1
 have fU:=ja2 u1
 have tU:TabOk U (w.heap.size+1) 1:=⟨⟨false,(cU 1).trans z1,fun j hj=>⟨0,(cU _).trans (z3 j hj),fun h=>by cases h⟩⟩,(cU 2).trans z2,fun j _=>fU _⟩
 have HG:=jca 117 #[.pointer (some ⟨w.heap.size+2,0,none⟩),.pointer (some ⟨w.heap.size+3,0,none⟩)] jbu V (fun w2=>∃ (i:Ig) (a:Option Addr) (c:Nat),Best im i∧w2.heap[w.heap.size+3]?=some (.cells #[.int .u64 i.turn,.int .u64 i.time,.slice a i.ks.length c] 169)∧w2.ownsRow U.heap.size 175 13 (.slice a i.ks.length c) i.ks.length (rrow i.es i.ks)∧w2.heap[db]?=some (.cells #[.map (some mb),.map (some nb),.slice none 0 0,.int .i64 (decM l),.int .i64 (decM f),.bool false] 88)∧TabOk w2 (w.heap.size+1) 1∧(∀ j,(j<1∨260≤j)→w2.cell? ⟨w.heap.size+1,j,none⟩=U.cell? ⟨w.heap.size+1,j,none⟩∧w2.frozen? ⟨w.heap.size+1,j,none⟩=U.frozen? ⟨w.heap.size+1,j,none⟩)∧Keep (fun c=>c=w.heap.size+3∨c=w.heap.size+1∨c=db) U w2) (by
   rw [←hU]
   refine (jdZ (w.heap.size+2) (w.heap.size+3) (w.heap.size+1) db mb nb fs im l f U (hU▸upB h2 _) (hU▸upB h3 _) ((cU 0).trans z0) tU (by omega) (by omega) (fun p hp e=>by have:=hfl p hp;omega) (by omega) (by omega) (h.kept hBU)).mono ?_
   rintro e w2 ⟨rfl,i,a,c,q1,q2,q3,q4,q5,q6,q7⟩
   refine⟨rfl,?_,i,a,c,q1,q2,q3,q4,q5,q6,q7⟩
   exact (q7.block V.heap.size (by omega) (fun h=>by omega)).trans (hU▸ja1 _ _))
 have HG:=hide HG
 have HB:=hide hB
 have HBU:=hide hBU
 have HSV:=hide (And.intro hsV hsU)
 have HZ:=hide (And.intro cU (And.intro fU (And.intro z4 z5)))
 have HZ0:=hide z0
 have HUU:=hide hU
 clear h hB hBU hsV hsU z0 z1 z2 z3 z4 z5 tU u1 cU fU hU
 go_enter Tryz.func76,Tryz.ntmps76
 go_upto_region 3 with fail
 rw [←hzc,←hV]
 clear hV hzc
 go_wp2_with fail
 refine HG.out.mono ?_
 rintro e w1 ⟨rfl,w2,⟨i,a,c,p1,p2,p3,p4,p5,p6,p7⟩,hb,hw1⟩
 obtain⟨sV,sU⟩:=HSV.out
 obtain⟨cU,fU,z4,z5⟩:=HZ.out
 have X:∀ k,k≠V.heap.size→w1.heap[k]?=w2.heap[k]?:=fun k hk=>by rw [hw1,ja0 hk]
 have Z:∀ k,k<V.heap.size→k≠w.heap.size+3→k≠w.heap.size+1→k≠db→w1.heap[k]?=V.heap[k]?:=fun k hk n1 n2 n3=>(X k (by omega)).trans ((p7.block k (by omega) (fun h=>by omega)).trans (by rw [HUU.out];exact ja3 _ _ hk))
 have g0:=(Z w.heap.size (by omega) (by omega) (by omega) (by omega)).trans h0
 have g2:=(Z (w.heap.size+2) (by omega) (by omega) (by omega) (by omega)).trans h2
 have g3:=(X (w.heap.size+3) (by omega)).trans p2
 have gd:=(X db (by omega)).trans p4
 have gs:w1.heap[w.heap.size+1]?=w2.heap[w.heap.size+1]?:=X _ (by omega)
 have kw1:Keep (fun c=>c=db) w w1:=by
  rw [hw1]
  refine Keep.set (b:=V.heap.size) ?_ (Or.inr (by omega)) _ _
  exact (Keep.of_below HBU.out).then p7 (fun i hi h=>by omega)
 have gc:∀ j,(j<1∨260≤j)→w1.cell? ⟨w.heap.size+1,j,none⟩=zc[j]?∧w1.frozen? ⟨w.heap.size+1,j,none⟩=false:=fun j hj=>⟨(World.cell?_of_block (w:=w2) gs).trans ((p6 j hj).1.trans (cU j)),(World.frozen?_of_block (w:=w2) gs).trans ((p6 j hj).2.trans (fU j))⟩
 have gt:TabOk w1 (w.heap.size+1) 1:=p5.block gs
 obtain⟨Y,hY⟩:∃ Y,Y=w1.setCell ⟨w.heap.size+1,260,none⟩ (.int .u64 i.turn):=⟨_,rfl⟩
 have hS:StoAt Y (w.heap.size+1) db i.turn:=by
  rw [hY]
  refine⟨fun j hj=>?_,(World.cell?_setCell_other _ _ _ _ (by simp)).trans ((gc 0 (Or.inl (by omega))).1.trans HZ0.out),gt.set (Or.inr (by omega)) _,World.cell?_setCell_same _ _ _ ((gc 260 (Or.inr (by omega))).1.trans z4),(World.cell?_setCell_other _ _ _ _ (by simp)).trans ((gc 261 (Or.inr (by omega))).1.trans z5)⟩
  rw [World.frozen?_setCell]
  by_cases h1:j<1∨260≤j
  ·exact (gc j h1).2
  ·have:=gt.fro (j - 1) (by omega)
   rwa [show 1+(j - 1)=j by omega] at this
 have NY:∀ k,k≠w.heap.size+1→Y.heap[k]?=w1.heap[k]?:=fun k hk=>by rw [hY,ja0 hk]
 have y0:=(NY w.heap.size (by omega)).trans g0
 have y2:=(NY (w.heap.size+2) (by omega)).trans g2
 have y3:=(NY (w.heap.size+3) (by omega)).trans g3
 have yd:=(NY db (by omega)).trans gd
 have hKY:Keep (fun c=>c=db) w Y:=hY▸Keep.set (b:=w.heap.size+1) kw1 (Or.inr (by omega)) _ _
 have hoY:Y.ownsRow U.heap.size 175 13 (.slice a i.ks.length c) i.ks.length (rrow i.es i.ks):=ja7 p3 (fun x hx=>by
   have:=(ja5 p3 hx).1
   exact (NY x (by omega)).trans (X x (by omega)))
 have c1:=(gc 260 (Or.inr (by omega))).1.trans z4
 have c1':=(gc 260 (Or.inr (by omega))).2
 have c2:=cellB g2
 have c3:=cellB g3
 have HS:=hide hS
 have HKY:=hide hKY
 have HP1:=hide p1
 have HOY:=hide hoY
 have HYD:=hide yd
 clear hb hw1 p1 p2 p3 p4 p5 p6 p7 X Z gd gs kw1 gc gt hS NY yd hKY hoY cU fU z4 z5 h0 h1 h2 h3
 go_upto_region 7 with fail
 rw [←hY]
 clear hY c1 c1' c2 c3 g0 g2 g3
 have d0:=cellB y0
 have d0':=ja2 y0
 have d2:=cellB y2
 have d3:=cellB y3
 go_region
 all_goals go_wp2
 all_goals refine bodyPost_ret (v:=.tuple #[.pointer (some ⟨w.heap.size+1,0,none⟩),.agg #[.int .u64 i.turn,.int .u64 i.time,.slice a i.ks.length c],.nilIface]) (by simp [results,Tryz.results76,go_sem,d0,d0']) rfl ?_
 all_goals (
   have hX:∀ x,x≠w.heap.size→(((Y.drew.setCell ⟨w.heap.size,0,none⟩ (.int .u64 i.turn)).setCell ⟨w.heap.size,1,none⟩ (.int .u64 i.time)).setCell ⟨w.heap.size,2,none⟩ (.slice a i.ks.length c)).heap[x]?=Y.heap[x]?:=fun x hx=>(ja0 hx _ _).trans ((ja0 hx _ _).trans (ja0 hx _ _))
   refine⟨w.heap.size+1,i,a,c,rfl,by omega,HP1.out,HS.out.kept (hX _ (by omega)),?_,(hX db (by omega)).trans HYD.out,?_⟩
   · have h2:=ja7 HOY.out (fun x hx=>hX x (by have:=(ja5 HOY.out hx).1;omega))
     refine⟨h2.1,?_⟩
     rcases h2.2 with h | ⟨x,cap',cur,e1,e2,e3⟩
     · exact Or.inl h
     · exact Or.inr ⟨x,cap',cur,e1,by omega,e3⟩
   · refine Keep.drew (Keep.set (b:=w.heap.size) (Keep.set (b:=w.heap.size) (Keep.set (b:=w.heap.size) ?_ (Or.inr (Nat.le_refl _)) _ _) (Or.inr (Nat.le_refl _)) _ _) (Or.inr (Nat.le_refl _)) _ _)
     exact HKY.out)
def opE (es:Es)(ks:List Ky):Es:=ks.map fun k=>(k,(jag es k,jag es k))
theorem jiB (es:Es)(ks:List Ky)(k:Ky)(h:k ∉ ks):putG k (jag es k,jag es k) (opE es ks)=opE es (ks ++ [k]):=by
 have hn:fndG k (opE es ks)=none:=jaM (by unfold opE;rw [List.map_map];simpa using h)
 unfold putG
 rw [hn]
 unfold opE
 simp
theorem jhq (es:Es):∀ (ks:List Ky) (j:Nat) (k:Ky),ks[j]?=some k→∀ x,x<13→(rrow es ks)[j * 13+x]?=(kvals k ++ qvals (jag es k))[x]?
 | [],j,k,h,_,_=>by simp at h
 | k0 :: r,0,k,h,x,hx=>by
  have e:k0=k:=by simpa using h
  subst e
  unfold rrow
  rw [List.flatMap_cons,Nat.zero_mul,Nat.zero_add,List.getElem?_append_left (by simpa [kvals,qvals] using hx)]
 | k0 :: r,j+1,k,h,x,hx=>by
  have h':r[j]?=some k:=by simpa using h
  have ih:=jhq es r j k h' x hx
  unfold rrow at ih ⊢
  rw [List.flatMap_cons,List.getElem?_append_right (by simp [kvals,qvals];omega)]
  rw [show (j+1) * 13+x - (kvals k0 ++ qvals (jag es k0)).length=j * 13+x by simp [kvals,qvals];omega]
  exact ih
theorem jho {w:World}{base e sz:Nat}{v:Value}{n:Nat}{xs:List Value}(h:w.ownsRow base e sz v n xs){x:Nat}(hx:v.ownBlock=some x){m:Array MapEntry}{cl:Nat}(hm:w.heap[x]?=some (.map m cl)):False:=by
 rcases h.2 with ⟨rfl,_⟩ | ⟨g',cap',cur,rfl,_,hh,_⟩
 ·simp [Value.ownBlock] at hx
 ·simp [Value.ownBlock] at hx
  subst hx
  rw [hm] at hh
  cases hh
theorem jco (db mb nb:Nat)(fs:Fs)(im:Bool→Option Ig)(l f:Int)(blk:Int)(w:World)(h:OpF w db mb nb fs im l f)(hnd:∀ b i,im b=some i→i.ks.Nodup) :
  Calls Tryz.prog 50 #[.iface 78 (.pointer (some ⟨db,0,none⟩)),.int .u64 blk] w fun e w'=>∃ (g mp:Nat) (i:Ig),e=.returned (.tuple #[.agg #[.int .u64 i.time,.int .u64 blk,.map (some mp),.pointer (some ⟨g,0,none⟩)],.nilIface])∧Best im i∧w.heap.size≤g∧w.heap.size≤mp∧g≠mp∧MapE w' mp (opE i.es i.ks)∧StoAt w' g db i.turn∧w'.heap[db]?=some (.cells #[.map (some mb),.map (some nb),.slice none 0 0,.int .i64 (decM l),.int .i64 (decM f),.bool false] 88)∧Keep (fun c=>c=db) w w':=by
 have hmm:=@run_makeMap Tryz.prog
 obtain⟨V,hV⟩:∃ V,V=w.alloc (.cells #[.int .u64 0,.int .u64 0,.map none,.pointer none] 124):=⟨_,rfl⟩
 have h0:V.heap[w.heap.size]?=some (.cells #[.int .u64 0,.int .u64 0,.map none,.pointer none] 124):=hV▸ja1 _ _
 have hB:Below w.heap.size w V:=hV▸(Below.refl _ w).alloc (Nat.le_refl _) _
 have hsV:V.heap.size=w.heap.size+1:=by rw [hV];simp
 have hdl:=ltB h.hd
 have HO:=hide (jdJ db mb nb fs im l f V (h.kept hB))
 have HB:=hide hB
 have HSV:=hide hsV
 have HI:=hide h.hI
 have HND:=hide hnd
 clear h hB hsV hnd
 go_enter Tryz.func50,Tryz.ntmps50
 go_upto_region 1 with fail
 rw [←hV]
 clear hV
 go_wp2_with fail
 refine HO.out.mono ?_
 rintro e w1 ⟨g,i,a,c,rfl,hgl,hbest,hS1,ho1,hd1,hk1⟩
 have sV:=HSV.out
 obtain⟨Y,hY⟩:∃ Y,Y=(w1.alloc (.cells #[.int .u64 i.turn,.int .u64 i.time,.slice a i.ks.length c] 169)).alloc (.map #[] 0):=⟨_,rfl⟩
 obtain⟨mp,hmp⟩:∃ mp,mp=w1.heap.size+1:=⟨_,rfl⟩
 have hs1:=hk1.size
 have g0:=(hk1.block w.heap.size (by omega) (by omega)).trans h0
 have up:∀ x,x<w1.heap.size→Y.heap[x]?=w1.heap[x]?:=fun x hx=>by rw [hY,ja3 _ _ (by simp;omega),ja3 _ _ hx]
 have y0:=(up w.heap.size (by omega)).trans g0
 have y1:Y.heap[w1.heap.size]?=some (.cells #[.int .u64 i.turn,.int .u64 i.time,.slice a i.ks.length c] 169):=hY▸upB (ja1 _ _) _
 have y2:Y.heap[mp]?=some (.map #[] 0):=by rw [hmp,hY];exact heapN (by simp)
 have hSY:StoAt Y g db i.turn:=hS1.kept (up g hS1.lt)
 have hoY:Y.ownsRow V.heap.size 175 13 (.slice a i.ks.length c) i.ks.length (rrow i.es i.ks):=ja7 ho1 (fun x hx=>up x (ja5 ho1 hx).2)
 have hdY:=(up db (by omega)).trans hd1
 have hKY:Keep (fun c=>c=db) w Y:=by rw [hY];exact (((Keep.of_below HB.out).then hk1 (fun _ _ h=>h)).alloc _).alloc _
 have hgl1:=hS1.lt
 have hsY:Y.heap.size=w1.heap.size+2:=by rw [hY];simp
 have hiok:i.ok:=((HI.out _).2 i hbest.1).1
 have hind:i.ks.Nodup:=HND.out _ i hbest.1
 have HS:=hide hSY
 have HKY:=hide hKY
 have HOY:=hide hoY
 have HDY:=hide hdY
 have HL:=hide (And.intro hgl (And.intro hs1 (And.intro hgl1 (And.intro hmp (And.intro hsY sV)))))
 have HBT:=hide hbest
 have HIO:=hide (And.intro hiok hind)
 have hl12:(i.ks.length:Int)≤12:=by have:=hiok.len;omega
 clear hS1 ho1 hd1 hk1 hSY hKY hoY hdY h0 g0 hgl hs1 hgl1 sV up hbest hiok hind hsY
 go_upto_region 5 with fail
 rw [←hY]
 rw [←hmp]
 clear hY hmp
 have e1:=cellB y1
 go_wp2_with fail
 go_loopw [26] (fun s wr=>∃ j:Nat,j≤i.ks.length∧s=.int .i64 j∧MapE wr mp (opE i.es (i.ks.take j))∧Keep (fun c=>c=mp) Y wr) (fun s _=>i.ks.length - (intOf s).toNat)
 case atStart=>exact⟨0,Nat.zero_le _,rfl,MapG.empty y2,Keep.refl _ _⟩
 case round=>
  obtain⟨j,hj,rfl,hm,hk⟩:=hrel
  by_cases hlt:j<i.ks.length
  ·obtain⟨l1,l2,l3,l4,l5,l6⟩:=HL.out
   have hmpY:mp<Y.heap.size:=by omega
   obtain⟨k,hkj⟩:∃ k,i.ks[j]?=some k:=⟨_,List.getElem?_eq_getElem hlt⟩
   obtain⟨q,hq⟩:∃ q,q=jag i.es k:=⟨_,rfl⟩
   obtain⟨rbk,rcp,hre,hrb,hrl⟩:=HOY.out.form (by omega)
   injection hre with hra hrn hrc
   subst hra
   have hnm:rbk≠mp:=fun e=>jho HOY.out (x:=mp) (by rw [←e];rfl) y2
   have hcR:∀ x,x<13→wr.cell? ⟨rbk,j * 13+x,none⟩=(kvals k ++ qvals q)[x]?:=fun x hx=>by
    rw [World.cell?_of_block (w:=Y) (hk.block rbk hrl hnm),HOY.out.cellAt (j * 13+x) (by omega),jhq i.es i.ks j k hkj x hx,hq]
   have r0:wr.cell? ⟨rbk,j * 13,none⟩=some (.int .u8 k.k0):=hcR 0 (by omega)
   have r1:wr.cell? ⟨rbk,j * 13+1,none⟩=some (.int .u8 k.k1):=hcR 1 (by omega)
   have r2:wr.cell? ⟨rbk,j * 13+2,none⟩=some (.int .u8 k.k2):=hcR 2 (by omega)
   have r3:wr.cell? ⟨rbk,j * 13+3,none⟩=some (.int .u8 k.k3):=hcR 3 (by omega)
   have r4:wr.cell? ⟨rbk,j * 13+4,none⟩=some (.int .u8 k.k4):=hcR 4 (by omega)
   have r5:wr.cell? ⟨rbk,j * 13+5,none⟩=some (.int .u8 k.k5):=hcR 5 (by omega)
   have r6:wr.cell? ⟨rbk,j * 13+6,none⟩=some (.int .u8 k.k6):=hcR 6 (by omega)
   have r7:wr.cell? ⟨rbk,j * 13+7,none⟩=some (.int .u8 k.k7):=hcR 7 (by omega)
   have r8:wr.cell? ⟨rbk,j * 13+8,none⟩=some (.int .u8 q.kd):=hcR 8 (by omega)
   have r9:wr.cell? ⟨rbk,j * 13+9,none⟩=some (.int .u64 q.x):=hcR 9 (by omega)
   have r10:wr.cell? ⟨rbk,j * 13+10,none⟩=some (.int .u64 q.y):=hcR 10 (by omega)
   have r11:wr.cell? ⟨rbk,j * 13+11,none⟩=some (.int .u64 q.lv):=hcR 11 (by omega)
   have r12:wr.cell? ⟨rbk,j * 13+12,none⟩=some (.int .u64 q.wn):=hcR 12 (by omega)
   have hkok:k.ok:=(HIO.out.1.rec_ k (List.mem_of_getElem? hkj)).1
   have hknot:k ∉ i.ks.take j:=fun hmem=>by
    have h:=HIO.out.2
    rw [←List.take_append_drop j i.ks] at h
    have hd:(i.ks.drop j)[0]?=some k:=by rw [List.getElem?_drop,Nat.add_zero];exact hkj
    exact (List.nodup_append.1 h).2.2 k hmem k (List.mem_of_getElem? hd) rfl
   have htk:i.ks.take (j+1)=i.ks.take j ++ [k]:=by rw [List.take_add_one,hkj];rfl
   obtain⟨W,hW⟩:∃ W,W=wr.alloc (.cells #[.int .u8 k.k0,.int .u8 k.k1,.int .u8 k.k2,.int .u8 k.k3,.int .u8 k.k4,.int .u8 k.k5,.int .u8 k.k6,.int .u8 k.k7,.int .u8 q.kd,.int .u64 q.x,.int .u64 q.y,.int .u64 q.lv,.int .u64 q.wn] 175):=⟨_,rfl⟩
   obtain⟨R,hR⟩:∃ R,R=wr.heap.size:=⟨_,rfl⟩
   have hr0:W.heap[R]?=some (.cells #[.int .u8 k.k0,.int .u8 k.k1,.int .u8 k.k2,.int .u8 k.k3,.int .u8 k.k4,.int .u8 k.k5,.int .u8 k.k6,.int .u8 k.k7,.int .u8 q.kd,.int .u64 q.x,.int .u64 q.y,.int .u64 q.lv,.int .u64 q.wn] 175):=by rw [hR,hW];exact ja1 _ _
   have hmW:MapE W mp (opE i.es (i.ks.take j)):=MapG.kept hm (hW▸ja3 _ _ (MapG.lt hm))
   have hlen:(opE i.es (i.ks.take j)).length≤1000:=by unfold opE;rw [List.length_map,List.length_take];have:=HIO.out.1.len;omega
   obtain⟨w3,hrun,hTn,hM3⟩:=MapG.store mkey hmW hlen hkok (q,q) undE
   have hrun':(Instr.mapUpdate 121 (.map (some mp)) (.agg #[.int .u8 k.k0,.int .u8 k.k1,.int .u8 k.k2,.int .u8 k.k3,.int .u8 k.k4,.int .u8 k.k5,.int .u8 k.k6,.int .u8 k.k7]) (.agg #[.int .u8 q.kd,.int .u64 q.x,.int .u64 q.y,.int .u64 q.lv,.int .u64 q.wn,.int .u8 q.kd,.int .u64 q.x,.int .u64 q.y,.int .u64 q.lv,.int .u64 q.wn])).run Tryz.prog W=.ok () w3:=hrun
   have hM4:MapE w3 mp (opE i.es (i.ks.take (j+1))):=by rw [htk,←jiB i.es _ k hknot,←hq];exact hM3
   have hK3:Keep (fun c=>c=mp) Y w3:=(hW▸hk.alloc _:Keep (fun c=>c=mp) Y W).then (Keep.turned hTn) (fun _ _ h=>h)
   have HM4:=hide hM4
   have HK3:=hide hK3
   have HLT:=hide hlt
   have hjl:(j:Int)<(i.ks.length:Int):=by omega
   clear hrun hM3 hTn hM4 hK3 hmW hlen htk hknot hkok hcR hm hk hkj hq l1 l2 l3 l4 l5 l6 hmpY hj hlt
   go_upto_region 8 with fail
   rw [←hW,←hR]
   clear hW hR r0 r1 r2 r3 r4 r5 r6 r7 r8 r9 r10 r11 r12
   have c1:=cellB hr0
   go_wp2
   go_roundw
   case rel=>exact⟨j+1,by have:=HLT.out;omega,by go_num,HM4.out,HK3.out⟩
   case measure=>have:=HLT.out;simp [intOf];omega
  ·obtain rfl:j=i.ks.length:=by omega
   have n0:w.heap.size≠mp:=by have:=HL.out;omega
   have n1:w1.heap.size≠mp:=by have:=HL.out;omega
   have z0:=(hk.block w.heap.size (ltB y0) n0).trans y0
   have z1:=(hk.block w1.heap.size (ltB y1) n1).trans y1
   have c0:=cellB z0
   have c0':=ja2 z0
   have c1:=cellB z1
   have HM:=hide hm
   have HK:=hide hk
   clear hm hk
   go_wp2
   rw [List.take_length] at HM
   obtain⟨l1,l2,l3,l4,l5,l6⟩:=HL.out
   refine bodyPost_ret (v:=.tuple #[.agg #[.int .u64 i.time,.int .u64 blk,.map (some mp),.pointer (some ⟨g,0,none⟩)],.nilIface]) (by simp [results,Tryz.results50,go_sem,c0,c0']) rfl ⟨g,mp,i,rfl,HBT.out,by omega,by omega,by omega,?_⟩
   have hX:∀ x,x≠w.heap.size→((((wr.setCell ⟨w.heap.size,0,none⟩ (.int .u64 i.time)).setCell ⟨w.heap.size,1,none⟩ (.int .u64 blk)).setCell ⟨w.heap.size,2,none⟩ (.map (some mp))).setCell ⟨w.heap.size,3,none⟩ (.pointer (some ⟨g,0,none⟩))).heap[x]?=wr.heap[x]?:=fun x hx=>(ja0 hx _ _).trans ((ja0 hx _ _).trans ((ja0 hx _ _).trans (ja0 hx _ _)))
   refine⟨MapG.kept HM.out (hX mp (fun e=>n0 e.symm)),HS.out.kept ((hX g (by omega)).trans (HK.out.block g HS.out.lt (by omega))),(hX db (by omega)).trans ((HK.out.block db (ltB HDY.out) (by omega)).trans HDY.out),?_⟩
   refine Keep.set (b:=w.heap.size) (Keep.set (b:=w.heap.size) (Keep.set (b:=w.heap.size) (Keep.set (b:=w.heap.size) ?_ (Or.inr (Nat.le_refl _)) _ _) (Or.inr (Nat.le_refl _)) _ _) (Or.inr (Nat.le_refl _)) _ _) (Or.inr (Nat.le_refl _)) _ _
   exact HKY.out.then HK.out (fun x hx h=>by omega)
theorem lastE (g db mb nb:Nat)(fs:Fs)(l f er l' f':Int)(dn:Bool)(w:World)(hg:w.cell? ⟨g,0,none⟩=some (.iface 78 (.pointer (some ⟨db,0,none⟩))))
  (hd:w.heap[db]?=some (.cells #[.map (some mb),.map (some nb),.slice none 0 0,.int .i64 l,.int .i64 f,.bool false] 88)) (hD:DirAt w nb fs) (hne:fs≠[]) (h:WFail l f er l' f' dn) :
  Calls Tryz.prog 118 #[.pointer (some ⟨g,0,none⟩)] w fun e w'=>e=.returned (.tuple #[.agg #[.int .u64 0,.int .u64 0,.slice none 0 0],.iface 53 (.int .i64 er)])∧w'.heap[db]?=some (.cells #[.map (some mb),.map (some nb),.slice none 0 0,.int .i64 l',.int .i64 f',.bool dn] 88)∧Keep (fun c=>c=db) w w':=by
 obtain⟨V,hV⟩:∃ V,V=w.alloc (.cells #[.int .u64 0,.int .u64 0,.slice none 0 0] 169):=⟨_,rfl⟩
 have hgl:=jaN hg
 have hdl:=ltB hd
 have h0:V.heap[w.heap.size]?=some (.cells #[.int .u64 0,.int .u64 0,.slice none 0 0] 169):=hV▸ja1 _ _
 have hBV:Below w.heap.size w V:=hV▸(Below.refl _ w).alloc (Nat.le_refl _) _
 have hgV:V.cell? ⟨g,0,none⟩=some (.iface 78 (.pointer (some ⟨db,0,none⟩))):=(hBV.cell (p:=⟨g,0,none⟩) hgl).trans hg
 have hdV:V.heap[db]?=_:=(hBV.block db hdl).trans hd
 have hDV:DirAt V nb fs:=hD.kept (hBV.block nb hD.map.lt) (fun p hp=>hBV.block _ (ltB (hD.str p hp)))
 have hmn:=jbc (.pointer (some ⟨db,0,none⟩))
 have hms:=jbo (.pointer (some ⟨db,0,none⟩))
 have HNM:=hide (jc7 db nb _ _ _ _ fs V hdV hDV)
 have sV:V.heap.size=w.heap.size+1:=by rw [hV];simp
 have HSV:=hide sV
 have HBV:=hide hBV
 have HDV:=hide hdV
 have HWF:=hide h
 clear hD hDV hd hdV hBV sV hg h
 go_enter Tryz.func118,Tryz.ntmps118
 go_upto_region 1 with fail
 rw [←hV]
 clear hV
 go_wp2_with fail
 refine HNM.out.mono ?_
 rintro e wN ⟨nv,bs,rfl,hbs,hnl,hnm,hbN⟩
 have hbne:bs≠[]:=by
  intro e
  obtain⟨p,r,hfs⟩:∃ p r,fs=p :: r:=by
   cases fs with
   | nil=>exact absurd rfl hne
   | cons p r=>exact⟨p,r,rfl⟩
  have:=(hbs p.1).2 (by rw [hfs];simp [fndG])
  rw [e] at this
  cases this
 have sV:=HSV.out
 have gN:wN.cell? ⟨g,0,none⟩=some (.iface 78 (.pointer (some ⟨db,0,none⟩))):=(hbN.cell (p:=⟨g,0,none⟩) (by show g<V.heap.size;omega)).trans hgV
 have dN:=(hbN.block db (by omega)).trans HDV.out
 have iN:=(hbN.block w.heap.size (by omega)).trans h0
 obtain⟨na,nc,hnve,_⟩:=hnm
 have hnm:NmAt wN nv bs:=⟨na,nc,hnve,by assumption⟩
 have HHO:=hide (jbX nv bs wN hnm hnl hbne)
 have HSY:=hide (syncE db _ _ _ l f er l' f' dn wN dN HWF.out)
 have HBN:=hide (HBV.out.trans (hbN.mono HBV.out.size))
 have HIN:=hide iN
 subst hnve
 clear hnm hbN dN hbs hgV sV iN h0
 go_wp2_with fail
 refine HHO.out.mono ?_
 rintro e wx ⟨rfl,he⟩
 have he':=he.symm
 clear he
 subst he'
 go_wp2_with fail
 refine HSY.out.mono ?_
 rintro e w2 ⟨rfl,hd2,hk2⟩
 have hi2:=(hk2.block w.heap.size (ltB HIN.out) (fun e=>by omega)).trans HIN.out
 have c2:=cellB hi2
 have f2:=ja2 hi2
 have HQ:=hide (And.intro hd2 ((Keep.of_below (S:=fun c=>c=db) HBN.out).trans hk2))
 clear hd2 hk2
 go_wp2_with fail
 refine bodyPost_ret (v:=.tuple #[.agg #[.int .u64 0,.int .u64 0,.slice none 0 0],.iface 53 (.int .i64 er)]) (by simp [results,Tryz.results118,go_sem,c2]) rfl ⟨rfl,?_,?_⟩
 ·rw [ja0 (by omega),ja0 (by omega),ja0 (by omega)]
  exact HQ.out.1
 ·exact Keep.set (b:=w.heap.size) (Keep.set (b:=w.heap.size) (Keep.set (b:=w.heap.size) HQ.out.2 (Or.inr (Nat.le_refl _)) _ _) (Or.inr (Nat.le_refl _)) _ _) (Or.inr (Nat.le_refl _)) _ _
structure OpE (w:World)(db mb nb:Nat)(fs:Fs)(l f er l' f':Int)(dn:Bool):Prop where
 hd:w.heap[db]?=some (.cells #[.map (some mb),.map (some nb),.slice none 0 0,.int .i64 l,.int .i64 f,.bool false] 88)
 hD:DirAt w nb fs
 ne:fs≠[]
 wf:WFail l f er l' f' dn
theorem OpE.kept {w w':World}{db mb nb:Nat}{fs:Fs}{l f er l' f':Int}{dn:Bool}(h:OpE w db mb nb fs l f er l' f' dn)(hb:Below w.heap.size w w'):OpE w' db mb nb fs l f er l' f' dn:=
 ⟨(hb.block db (ltB h.hd)).trans h.hd,h.hD.kept (hb.block nb h.hD.map.lt) (fun p hp=>hb.block _ (ltB (h.hD.str p hp))),h.ne,h.wf⟩
theorem jhW (A B g db mb nb:Nat)(fs:Fs)(l f er l' f':Int)(dn:Bool)(w:World)(hA:w.heap[A]?=some (.cells #[.pointer (some ⟨g,0,none⟩)] 122))(hB:w.heap[B]?=some (.cells #[.int .u64 0,.int .u64 0,.slice none 0 0] 169))(hg:w.cell? ⟨g,0,none⟩=some (.iface 78 (.pointer (some ⟨db,0,none⟩))))(hBd:B≠db)(h:OpE w db mb nb fs l f er l' f' dn) :
  Calls Tryz.prog 117 #[.pointer (some ⟨A,0,none⟩),.pointer (some ⟨B,0,none⟩)] w fun e w'=>e=.returned (.iface 53 (.int .i64 er))∧w'.heap[db]?=some (.cells #[.map (some mb),.map (some nb),.slice none 0 0,.int .i64 l',.int .i64 f',.bool dn] 88)∧Keep (fun c=>c=B∨c=db) w w':=by
 have HL:=hide (lastE g db mb nb fs l f er l' f' dn w hg h.hd h.hD h.ne h.wf)
 have a1:=cellB hA
 have lB:=ltB hB
 clear hg h
 go_enter Tryz.func117,Tryz.ntmps117
 go_wp2_with fail
 refine HL.out.mono ?_
 rintro e w1 ⟨rfl,q3,q6⟩
 have h1:=(q6.block B lB hBd).trans hB
 have e1:=cellB h1
 have e2:=ja2 h1
 have HQ:=hide (And.intro q3 q6)
 clear q3 q6 a1
 go_wp2
 go_ret
 obtain⟨q3,q6⟩:=HQ.out
 refine⟨rfl,?_,?_⟩
 ·rw [ja0 (fun e=>hBd e.symm),ja0 (fun e=>hBd e.symm),ja0 (fun e=>hBd e.symm)]
  exact q3
 ·exact Keep.set (S:=fun c=>c=B∨c=db) (b:=B) (Keep.set (S:=fun c=>c=B∨c=db) (b:=B) (Keep.set (S:=fun c=>c=B∨c=db) (b:=B) (q6.mono (fun x h _=>Or.inr h)) (Or.inl (Or.inl rfl)) _ _) (Or.inl (Or.inl rfl)) _ _) (Or.inl (Or.inl rfl)) _ _
theorem jfM (db mb nb:Nat)(fs:Fs)(l f er l' f':Int)(dn:Bool)(w:World)(h:OpE w db mb nb fs l f er l' f' dn) :
  Calls Tryz.prog 76 #[.iface 78 (.pointer (some ⟨db,0,none⟩))] w fun e w'=>e=.returned (.tuple #[.pointer none,.agg #[.int .u64 0,.int .u64 0,.slice none 0 0],.iface 53 (.int .i64 er)])∧w'.heap[db]?=some (.cells #[.map (some mb),.map (some nb),.slice none 0 0,.int .i64 l',.int .i64 f',.bool dn] 88)∧Keep (fun c=>c=db) w w':=by
 have hmf:∀ (fn:Fn) (first cap:Array Value) (w:World),(Instr.makeFunc fn first cap).run Tryz.prog w=.ok (.func fn first cap) w:=fun _ _ _ _=>rfl
 obtain⟨zc,hzc,z0,z1,z2,z3,z4,z5⟩:=jci db
 obtain⟨V,hV⟩:∃ V,V=(((w.alloc (.cells #[.int .u64 0,.int .u64 0,.slice none 0 0] 169)).alloc (.cells zc 230)).alloc (.cells #[.pointer (some ⟨w.heap.size+1,0,none⟩)] 122)).alloc (.cells #[.int .u64 0,.int .u64 0,.slice none 0 0] 169):=⟨_,rfl⟩
 have h0:V.heap[w.heap.size]?=some (.cells #[.int .u64 0,.int .u64 0,.slice none 0 0] 169):=hV▸upB (upB (upB (ja1 _ _) _) _) _
 have h1:V.heap[w.heap.size+1]?=some (.cells zc 230):=hV▸upB (upB (heapN (by simp)) _) _
 have h2:V.heap[w.heap.size+2]?=some (.cells #[.pointer (some ⟨w.heap.size+1,0,none⟩)] 122):=hV▸upB (heapN (by simp)) _
 have h3:V.heap[w.heap.size+3]?=some (.cells #[.int .u64 0,.int .u64 0,.slice none 0 0] 169):=hV▸heapN (by simp)
 have hsV:V.heap.size=w.heap.size+4:=by rw [hV];simp
 have hB:Below w.heap.size w V:=hV▸((((Below.refl _ w).alloc (Nat.le_refl _) _).alloc (by simp) _).alloc (by simp;omega) _).alloc (by simp;omega) _
 have hdl:=ltB h.hd
 obtain⟨U,hU⟩:∃ U,U=V.alloc (.cells #[.nilIface] 97):=⟨_,rfl⟩
 have hBU:Below w.heap.size w U:=hU▸hB.alloc hB.size _
 have hsU:U.heap.size=w.heap.size+5:=by rw [hU];simp;omega
 have u1:U.heap[w.heap.size+1]?=some (.cells zc 230):=hU▸upB h1 _
 have cU:=cellB u1
 have HG:=jgZ 117 #[.pointer (some ⟨w.heap.size+2,0,none⟩),.pointer (some ⟨w.heap.size+3,0,none⟩)] jbu V er (fun w2=>w2.heap[db]?=some (.cells #[.map (some mb),.map (some nb),.slice none 0 0,.int .i64 l',.int .i64 f',.bool dn] 88)∧Keep (fun c=>c=w.heap.size+3∨c=db) U w2) (by
   rw [←hU]
   refine (jhW (w.heap.size+2) (w.heap.size+3) (w.heap.size+1) db mb nb fs l f er l' f' dn U (hU▸upB h2 _) (hU▸upB h3 _) ((cU 0).trans z0) (by omega) (h.kept hBU)).mono ?_
   rintro e w2 ⟨rfl,q4,q7⟩
   refine⟨rfl,?_,q4,q7⟩
   exact (q7.block V.heap.size (by omega) (fun h=>by omega)).trans (hU▸ja1 _ _))
 have HG:=hide HG
 have HB:=hide hB
 have HBU:=hide hBU
 have HSV:=hide (And.intro hsV hsU)
 have HUU:=hide hU
 clear h hB hBU hsV hsU z0 z1 z2 z3 z4 z5 u1 cU hU
 go_enter Tryz.func76,Tryz.ntmps76
 go_upto_region 3 with fail
 rw [←hzc,←hV]
 clear hV hzc
 go_wp2_with fail
 refine HG.out.mono ?_
 rintro e w1 ⟨rfl,w2,⟨p4,p7⟩,hb,hw1⟩
 obtain⟨sV,sU⟩:=HSV.out
 have X:∀ k,k≠V.heap.size→w1.heap[k]?=w2.heap[k]?:=fun k hk=>by rw [hw1,ja0 hk]
 have g0:w1.heap[w.heap.size]?=_:=(X w.heap.size (by omega)).trans ((p7.block w.heap.size (by omega) (fun h=>by omega)).trans ((by rw [HUU.out];exact ja3 _ _ (by omega):U.heap[w.heap.size]?=V.heap[w.heap.size]?).trans h0))
 have gd:=(X db (by omega)).trans p4
 have kw1:Keep (fun c=>c=db) w w1:=by
  rw [hw1]
  refine Keep.set (b:=V.heap.size) ?_ (Or.inr (by omega)) _ _
  exact (Keep.of_below HBU.out).then p7 (fun i hi h=>by omega)
 have c2:=cellB g0
 have f2:=ja2 g0
 have HQ:=hide (And.intro gd kw1)
 clear gd kw1 X hw1 p4 p7 hb
 go_wp2_with fail
 refine bodyPost_ret (v:=.tuple #[.pointer none,.agg #[.int .u64 0,.int .u64 0,.slice none 0 0],.iface 53 (.int .i64 er)]) (by simp [results,Tryz.results76,go_sem,c2]) rfl ⟨rfl,?_,?_⟩
 ·rw [ja0 (by omega),ja0 (by omega),ja0 (by omega)]
  exact HQ.out.1
 ·exact Keep.set (b:=w.heap.size) (Keep.set (b:=w.heap.size) (Keep.set (b:=w.heap.size) HQ.out.2 (Or.inr (Nat.le_refl _)) _ _) (Or.inr (Nat.le_refl _)) _ _) (Or.inr (Nat.le_refl _)) _ _
theorem jht (db mb nb:Nat)(fs:Fs)(l f er l' f':Int)(dn:Bool)(blk:Int)(w:World)(h:OpE w db mb nb fs l f er l' f' dn) :
  Calls Tryz.prog 50 #[.iface 78 (.pointer (some ⟨db,0,none⟩)),.int .u64 blk] w fun e w'=>e=.returned (.tuple #[.agg #[.int .u64 0,.int .u64 0,.map none,.pointer none],.iface 53 (.int .i64 er)])∧w'.heap[db]?=some (.cells #[.map (some mb),.map (some nb),.slice none 0 0,.int .i64 l',.int .i64 f',.bool dn] 88)∧Keep (fun c=>c=db) w w':=by
 obtain⟨V,hV⟩:∃ V,V=w.alloc (.cells #[.int .u64 0,.int .u64 0,.map none,.pointer none] 124):=⟨_,rfl⟩
 have h0:V.heap[w.heap.size]?=some (.cells #[.int .u64 0,.int .u64 0,.map none,.pointer none] 124):=hV▸ja1 _ _
 have hB:Below w.heap.size w V:=hV▸(Below.refl _ w).alloc (Nat.le_refl _) _
 have hsV:V.heap.size=w.heap.size+1:=by rw [hV];simp
 have hdl:=ltB h.hd
 have HO:=hide (jfM db mb nb fs l f er l' f' dn V (h.kept hB))
 have HB:=hide hB
 have HSV:=hide hsV
 clear h hB hsV
 go_enter Tryz.func50,Tryz.ntmps50
 go_upto_region 1 with fail
 rw [←hV]
 clear hV
 go_wp2_with fail
 refine HO.out.mono ?_
 rintro e w1 ⟨rfl,hd1,hk1⟩
 have sV:=HSV.out
 have g0:w1.heap[w.heap.size]?=_:=(hk1.block w.heap.size (by omega) (by omega)).trans h0
 obtain⟨Y,hY⟩:∃ Y,Y=w1.alloc (.cells #[.int .u64 0,.int .u64 0,.slice none 0 0] 169):=⟨_,rfl⟩
 have y0:Y.heap[w.heap.size]?=_:=hY▸upB g0 _
 have hBY:Below w1.heap.size w1 Y:=hY▸(Below.refl _ w1).alloc (Nat.le_refl _) _
 have hs1:=hk1.size
 have HQ:=hide (And.intro ((hBY.block db (ltB hd1)).trans hd1) (((Keep.of_below (S:=fun c=>c=db) HB.out).trans hk1).trans (Keep.of_below hBY)))
 clear hd1 hk1 hBY
 go_upto_region 3 with fail
 rw [←hY]
 clear hY
 have c2:=cellB y0
 have f2:=ja2 y0
 go_wp2_with fail
 refine bodyPost_ret (v:=.tuple #[.agg #[.int .u64 0,.int .u64 0,.map none,.pointer none],.iface 53 (.int .i64 er)]) (by simp [results,Tryz.results50,go_sem,c2]) rfl ⟨rfl,?_,?_⟩
 ·rw [ja0 (by omega),ja0 (by omega),ja0 (by omega),ja0 (by omega)]
  exact HQ.out.1
 ·exact Keep.set (b:=w.heap.size) (Keep.set (b:=w.heap.size) (Keep.set (b:=w.heap.size) (Keep.set (b:=w.heap.size) HQ.out.2 (Or.inr (Nat.le_refl _)) _ _) (Or.inr (Nat.le_refl _)) _ _) (Or.inr (Nat.le_refl _)) _ _) (Or.inr (Nat.le_refl _)) _ _
theorem openE (db mb nb:Nat)(fs:Fs)(l f er l' f':Int)(dn:Bool)(blk:Int)(w:World)(h:OpE w db mb nb fs l f er l' f' dn) :
  Calls Tryz.prog 34 #[.iface 78 (.pointer (some ⟨db,0,none⟩)),.int .u64 blk] w fun e w'=>e=.returned (.tuple #[.pointer none,.iface 53 (.int .i64 er)])∧w'.heap[db]?=some (.cells #[.map (some mb),.map (some nb),.slice none 0 0,.int .i64 l',.int .i64 f',.bool dn] 88)∧Keep (fun c=>c=db) w w':=by
 have HO:=hide (jht db mb nb fs l f er l' f' dn blk w h)
 clear h
 go_enter Tryz.func34,Tryz.ntmps34
 go_wp2_with fail
 refine HO.out.mono ?_
 rintro e w1 ⟨rfl,hd1,hk1⟩
 have hBY:Below w1.heap.size w1 (w1.alloc (.cells #[.int .u64 0,.int .u64 0,.map none,.pointer none] 124)):=(Below.refl _ w1).alloc (Nat.le_refl _) _
 have HQ:=hide (And.intro ((hBY.block db (ltB hd1)).trans hd1) (hk1.trans (Keep.of_below hBY)))
 clear hd1 hk1 hBY
 go_wp2
 go_ret2
 exact⟨rfl,HQ.out⟩
end Go.Proofs.YtnlgndpcddngoaaGreatDoor
