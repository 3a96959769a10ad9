import Derived.Test.YtnlgndpcddngoaaGreatDoorZd00
import Derived.Test.YtnlgndpcddngoaaGreatDoorZd17
import Derived.Test.YtnlgndpcddngoaaGreatDoorZd19
import Derived.Test.YtnlgndpcddngoaaGreatDoorZd20
import Derived.Test.YtnlgndpcddngoaaGreatDoorZd11
import Derived.Deep.RegionWith
import Derived.Laws.AppendOwnNone
import Derived.Lib.AppendZerosOnto
import Derived.Lib.AppendZeros
import Derived.LoopN
import Derived.Deep.RegionHeld3
import Derived.Maps.AppendAt
import Derived.Laws.IdiomStrings
import Derived.Laws.BytesArg
import Derived.Test.YtnlgndpcddngoaaGreatDoorZd02
import Derived.Deep.AppendLies
import Derived.Laws.StructEq
import Derived.Lib.BytesEntry
import Derived.Laws.Externs
import Derived.Sort.Grow
import Derived.Deep.DeepCutAuto
import Derived.Shelf.SlSortCmp.InsertionK
import Derived.Shelf.SlIter.Collect
import Derived.Laws.LoneSync
import Derived.Laws.Small
import Derived.Defers
import Derived.RegionCalls
import Derived.Recover
import Derived.Laws.Pointers
import Derived.Laws.EntriesVeiled
set_option linter.unusedVariables false
set_option linter.unusedSimpArgs false
set_option maxRecDepth 100000
set_option maxHeartbeats 4000000
namespace Go.Proofs.YtnlgndpcddngoaaGreatDoor
open Go.RowKit
theorem rdQ_1 (bs:List Int)(h0:rdErr bs=0)(h1:bs.getD 1 0=1):rdQ bs=⟨1,bs.getD 2 0,bs.getD 3 0,bs.getD 4 0,bs.getD 5 0,bs.getD 6 0,bs.getD 7 0,bs.getD 8 0,bs.getD 9 0,bs.getD 10 0,num8 bs 11,num8 bs 19,0⟩:=by
 unfold rdQ;rw [if_pos h0,if_pos h1]
theorem rdQ_2 (bs:List Int)(h0:rdErr bs=0)(h1:bs.getD 1 0=2):rdQ bs=⟨2,bs.getD 2 0,bs.getD 3 0,bs.getD 4 0,bs.getD 5 0,bs.getD 6 0,bs.getD 7 0,bs.getD 8 0,bs.getD 9 0,0,0,0,num8 bs 10⟩:=by
 unfold rdQ;rw [if_pos h0,if_neg (by omega),if_pos h1]
theorem rdQ_3 (bs:List Int)(h0:rdErr bs=0)(h1:bs.getD 1 0=3∨bs.getD 1 0=4):rdQ bs=⟨bs.getD 1 0,bs.getD 2 0,bs.getD 3 0,bs.getD 4 0,bs.getD 5 0,bs.getD 6 0,bs.getD 7 0,bs.getD 8 0,bs.getD 9 0,0,0,0,0⟩:=by
 unfold rdQ;rw [if_pos h0,if_neg (by omega),if_neg (by omega),if_pos h1]
theorem rdQ_5 (bs:List Int)(h0:rdErr bs=0)(h1:bs.getD 1 0=5∨bs.getD 1 0=6):rdQ bs=⟨bs.getD 1 0,0,0,0,0,0,0,0,0,0,0,0,0⟩:=by
 unfold rdQ;rw [if_pos h0,if_neg (by omega),if_neg (by omega),if_neg (by omega)]
def errV (k:Int):Value:=if k=0 then .nilIface else .iface 53 (.int .i64 k)
theorem jaQ (v:Value)(k:Int)(w:World)
  (hbody:Hid (∀ w1,Below w.heap.size w w1→Calls Tryz.prog 103 #[.agg #[.int .u8 1,.int .u8 26,.func (.func 66) #[] #[]],v] w1 fun e w'=>e=.returned (.tuple #[.slice none 0 0,.iface 53 (.int .i64 k)])∧Below w1.heap.size w1 w')) :
  Calls Tryz.prog 72 #[v] w fun e w'=>e=.returned (.tuple #[.agg #[.int .u8 0,.int .u8 0,.int .u8 0,.int .u8 0,.int .u8 0,.int .u8 0,.int .u8 0,.int .u8 0,.int .u8 0,.int .u8 0,.int .u64 0,.int .u64 0,.int .u64 0],.int .i64 0,.iface 53 (.int .i64 k)])∧Below w.heap.size w w':=by
 go_enter Tryz.func72,Tryz.ntmps72
 go_wp2_with fail
 refine (jav _).mono ?_
 rintro e w1 ⟨rfl,hb1⟩
 have hB1:Below w.heap.size w w1:=((Below.refl _ w).alloc (Nat.le_refl _) _).trans (hb1.mono (by simp))
 have hs1:w.heap.size<w1.heap.size:=by have:=hb1.size;simp at this;omega
 go_wp2_with fail
 refine (hbody.out w1 hB1).mono ?_
 rintro e w2 ⟨rfl,hb2⟩
 have hB2:Below w.heap.size w w2:=hB1.trans (hb2.mono (by omega))
 have hR:∀ j,w2.cell? ⟨w.heap.size,j,none⟩=(#[.int .u8 0,.int .u8 0,.int .u8 0,.int .u8 0,.int .u8 0,.int .u8 0,.int .u8 0,.int .u8 0,.int .u8 0,.int .u8 0,.int .u64 0,.int .u64 0,.int .u64 0]:Array Value)[j]?:=fun j=>(hb2.cell (p:=⟨w.heap.size,j,none⟩) hs1).trans ((hb1.cell (p:=⟨w.heap.size,j,none⟩) (by simp)).trans (jam w _ _ j))
 have hRf:∀ j,w2.frozen? ⟨w.heap.size,j,none⟩=false:=fun j=>(hb2.frozen (p:=⟨w.heap.size,j,none⟩) hs1).trans ((hb1.frozen (p:=⟨w.heap.size,j,none⟩) (by simp)).trans (by simp))
 clear hb1 hb2
 go_wp2
 refine bodyPost_ret (v:=.tuple #[.agg #[.int .u8 0,.int .u8 0,.int .u8 0,.int .u8 0,.int .u8 0,.int .u8 0,.int .u8 0,.int .u8 0,.int .u8 0,.int .u8 0,.int .u64 0,.int .u64 0,.int .u64 0],.int .i64 0,.iface 53 (.int .i64 k)]) (by simp [results,Tryz.results72,go_sem,hR]) rfl ⟨rfl,?_⟩
 repeat (refine Below.setCell ?_ (by first | exact Nat.le_refl _ | (show _≤w2.heap.size;omega)) _)
 exact hB2
theorem jcT (ao:Option Addr)(cap:Nat)(w:World) :
  Calls Tryz.prog 72 #[.slice ao 0 cap] w fun e w'=>e=.returned (.tuple #[.agg #[.int .u8 0,.int .u8 0,.int .u8 0,.int .u8 0,.int .u8 0,.int .u8 0,.int .u8 0,.int .u8 0,.int .u8 0,.int .u8 0,.int .u64 0,.int .u64 0,.int .u64 0],.int .i64 0,.iface 53 (.int .i64 1)])∧Below w.heap.size w w':=by
 refine jaQ _ 1 w ?_
 intro w1 _
 refine jcL 1 26 66 _ w1 ?_
 intro w2 _
 exact jlz ao cap w2
theorem je7 (g so cap:Nat)(b0:Int)(t:List Int)(w:World)(hcap:(b0 :: t).length≤cap)(hlen:(b0 :: t).length≤1048576)(hg:g<w.heap.size)
  (hc:∀ j,j<(b0 :: t).length→w.cell? ⟨g,so+j,none⟩=some (.int .u8 ((b0 :: t).getD j 0))) (hr:∀ j,0≤(b0 :: t).getD j 0∧(b0 :: t).getD j 0≤255) (q:Rq) (hq:q=rdQ (b0 :: t)) :
  Calls Tryz.prog 72 #[.slice (some ⟨g,so,none⟩) (b0 :: t).length cap] w fun e w'=>e=.returned (.tuple #[.agg #[.int .u8 q.op,.int .u8 q.k0,.int .u8 q.k1,.int .u8 q.k2,.int .u8 q.k3,.int .u8 q.k4,.int .u8 q.k5,.int .u8 q.k6,.int .u8 q.k7,.int .u8 q.kd,.int .u64 q.x,.int .u64 q.y,.int .u64 q.n],.int .i64 (rdN (b0 :: t)),errV (rdErr (b0 :: t))])∧Below w.heap.size w w':=by
 have c0:w.cell? ⟨g,so,none⟩=some (.int .u8 b0):=hc 0 (by simp)
 have r0:0≤b0∧b0≤255:=hr 0
 by_cases hlo:b0<1
 ·have e1:rdErr (b0 :: t)=2:=by simp [rdErr,hlo]
  have e2:rdQ (b0 :: t)=Rq.zero:=by simp [rdQ,e1]
  have e3:rdN (b0 :: t)=0:=by simp [rdN,e1]
  subst hq
  rw [e1,e2,e3]
  refine jaQ _ 2 w ?_
  intro w1 hB
  refine jbO 1 26 66 _ w1 ?_
  intro w2 hB2
  have hB3:=hB.trans (hB2.mono hB.size)
  exact jll g so _ cap b0 w2 (by simp) (Nat.lt_of_lt_of_le hg hB3.size) ((hB3.cell (p:=⟨g,so,none⟩) hg).trans c0) hlo
 by_cases hhi:26<b0
 ·have e1:rdErr (b0 :: t)=2:=by simp [rdErr,hhi]
  have e2:rdQ (b0 :: t)=Rq.zero:=by simp [rdQ,e1]
  have e3:rdN (b0 :: t)=0:=by simp [rdN,e1]
  subst hq
  rw [e1,e2,e3]
  refine jaQ _ 2 w ?_
  intro w1 hB
  refine jbO 1 26 66 _ w1 ?_
  intro w2 hB2
  have hB3:=hB.trans (hB2.mono hB.size)
  exact jls g so _ cap b0 w2 (by simp) (Nat.lt_of_lt_of_le hg hB3.size) ((hB3.cell (p:=⟨g,so,none⟩) hg).trans c0) hlo hhi
 have hor:¬(b0<1∨26<b0):=by omega
 cases t with
 | nil=>
  have e1:rdErr [b0]=1:=by simp [rdErr,hor]
  have e2:rdQ [b0]=Rq.zero:=by simp [rdQ,e1]
  have e3:rdN [b0]=0:=by simp [rdN,e1]
  subst hq
  rw [e1,e2,e3]
  refine jaQ _ 1 w ?_
  intro w1 hB
  refine jcL 1 26 66 _ w1 ?_
  intro w2 hB2
  have hB3:=hB.trans (hB2.mono hB.size)
  exact jlv g so _ cap b0 w2 (by simp) (Nat.lt_of_lt_of_le hg hB3.size) ((hB3.cell (p:=⟨g,so,none⟩) hg).trans c0) hlo hhi (by simp)
 | cons b1 t=>
  have c1:w.cell? ⟨g,so+1,none⟩=some (.int .u8 b1):=hc 1 (by simp)
  by_cases heq:b0=jaf b1
  ·by_cases hle:(((b0 :: b1 :: t).length:Nat):Int)≤b0
   ·have e1:rdErr (b0 :: b1 :: t)=1:=by simp only [rdErr];rw [if_neg hor,if_pos heq,if_pos hle]
    have e2:rdQ (b0 :: b1 :: t)=Rq.zero:=by simp [rdQ,e1]
    have e3:rdN (b0 :: b1 :: t)=0:=by simp [rdN,e1]
    subst hq
    rw [e1,e2,e3]
    refine jaQ _ 1 w ?_
    intro w1 hB
    refine jex 1 26 66 g so _ cap b0 w1 (by simp) r0.1 r0.2 (Nat.lt_of_lt_of_le hg hB.size) ((hB.cell (p:=⟨g,so,none⟩) hg).trans c0) hle ?_
    intro w2 hB2
    have hB3:=hB.trans (hB2.mono hB.size)
    refine (jhf g so _ cap b0 b1 w2 (by simp) (Nat.lt_of_lt_of_le hg hB3.size) ((hB3.cell (p:=⟨g,so,none⟩) hg).trans c0) ((hB3.cell (p:=⟨g,so+1,none⟩) hg).trans c1) hlo hhi).mono ?_
    rintro e w3 ⟨rfl,hb⟩
    exact⟨by rw [if_pos heq],hb⟩
   ·have e1:rdErr (b0 :: b1 :: t)=0:=by simp only [rdErr];rw [if_neg hor,if_pos heq,if_neg hle]
    have e3:rdN (b0 :: b1 :: t)=b0+1:=by simp [rdN,e1]
    have eV:errV 0=.nilIface:=rfl
    rw [e1,e3,eV]
    have hcj:∀ j,j≤b0.toNat→w.cell? ⟨g,so+j,none⟩=some (.int .u8 ((b0 :: b1 :: t).getD j 0)):=fun j hj=>hc j (by omega)
    by_cases h1:b1=1
    ·subst h1
     obtain rfl:b0=26:=heq
     have e2:q=_:=hq.trans (rdQ_1 _ e1 rfl)
     subst e2
     exact rreq1 g so _ cap _ _ _ _ _ _ _ _ w (by omega) hcap hlen hg c0 c1 (hcj 2 (by decide)) (hcj 3 (by decide)) (hcj 4 (by decide)) (hcj 5 (by decide)) (hcj 6 (by decide)) (hcj 7 (by decide)) (hcj 8 (by decide)) (hcj 9 (by decide)) _ (hcj 10 (by decide)) _ _ (fun j hj=>by rw [Nat.add_assoc];exact hcj (11+j) (by show _≤26;omega)) (fun j=>hr (11+j)) (fun j hj=>by rw [Nat.add_assoc];exact hcj (19+j) (by show _≤26;omega)) (fun j=>hr (19+j))
    by_cases h2:b1=2
    ·subst h2
     obtain rfl:b0=17:=heq
     have e2:q=_:=hq.trans (rdQ_2 _ e1 rfl)
     subst e2
     exact rreq2 g so _ cap _ _ _ _ _ _ _ _ w (by omega) hcap hlen hg c0 c1 (hcj 2 (by decide)) (hcj 3 (by decide)) (hcj 4 (by decide)) (hcj 5 (by decide)) (hcj 6 (by decide)) (hcj 7 (by decide)) (hcj 8 (by decide)) (hcj 9 (by decide)) _ (fun j hj=>by rw [Nat.add_assoc];exact hcj (10+j) (by show _≤17;omega)) (fun j=>hr (10+j))
    by_cases h3:b1=3
    ·subst h3
     obtain rfl:b0=9:=heq
     have e2:q=_:=hq.trans (rdQ_3 _ e1 (Or.inl rfl))
     subst e2
     exact rreq3 g so _ cap _ _ _ _ _ _ _ _ w (by omega) hcap hlen hg c0 c1 (hcj 2 (by decide)) (hcj 3 (by decide)) (hcj 4 (by decide)) (hcj 5 (by decide)) (hcj 6 (by decide)) (hcj 7 (by decide)) (hcj 8 (by decide)) (hcj 9 (by decide))
    by_cases h4:b1=4
    ·subst h4
     obtain rfl:b0=9:=heq
     have e2:q=_:=hq.trans (rdQ_3 _ e1 (Or.inr rfl))
     subst e2
     exact rreq4 g so _ cap _ _ _ _ _ _ _ _ w (by omega) hcap hlen hg c0 c1 (hcj 2 (by decide)) (hcj 3 (by decide)) (hcj 4 (by decide)) (hcj 5 (by decide)) (hcj 6 (by decide)) (hcj 7 (by decide)) (hcj 8 (by decide)) (hcj 9 (by decide))
    by_cases h5:b1=5
    ·subst h5
     obtain rfl:b0=1:=heq
     have e2:q=_:=hq.trans (rdQ_5 _ e1 (Or.inl rfl))
     subst e2
     exact rreq5 g so _ cap w (by omega) hcap hlen hg c0 c1
    by_cases h6:b1=6
    ·subst h6
     obtain rfl:b0=1:=heq
     have e2:q=_:=hq.trans (rdQ_5 _ e1 (Or.inr rfl))
     subst e2
     exact rreq6 g so _ cap w (by omega) hcap hlen hg c0 c1
    exact absurd heq (by simp [jaf,h1,h2,h3,h4,h5,h6];omega)
  ·have e1:rdErr (b0 :: b1 :: t)=2:=by simp only [rdErr];rw [if_neg hor,if_neg heq]
   have e2:rdQ (b0 :: b1 :: t)=Rq.zero:=by simp [rdQ,e1]
   have e3:rdN (b0 :: b1 :: t)=0:=by simp [rdN,e1]
   subst hq
   rw [e1,e2,e3]
   refine jaQ _ 2 w ?_
   intro w1 hB
   refine jbO 1 26 66 _ w1 ?_
   intro w2 hB2
   have hB3:=hB.trans (hB2.mono hB.size)
   refine (jhf g so _ cap b0 b1 w2 (by simp) (Nat.lt_of_lt_of_le hg hB3.size) ((hB3.cell (p:=⟨g,so,none⟩) hg).trans c0) ((hB3.cell (p:=⟨g,so+1,none⟩) hg).trans c1) hlo hhi).mono ?_
   rintro e w3 ⟨rfl,hb⟩
   exact⟨by rw [if_neg heq],hb⟩
theorem jfb (v:Int)(j:Nat):0≤nb v j∧nb v j≤255:=by unfold nb;omega
theorem jh7 (v:Int)(h0:0≤v)(h1:v≤18446744073709551615):rdTo (fun j=>(be8 v).getD j 0) 8=v:=by
 simp only [rdTo,be8,List.getD_cons_succ,List.getD_cons_zero,nb]
 omega
def rpErr (bs:List Int):Int:=
 match bs with
 | []=>1
 | b0 :: t=>if b0<17∨17<b0 then 2 else
  match t with
  | []=>1
  | b1 :: _=>if b0=jbZ b1 then (if (bs.length:Int)≤b0 then 1 else 0) else 2
def rpN (bs:List Int):Int:=if rpErr bs=0 then 18 else 0
def rpQ (bs:List Int):Rp:=if rpErr bs=0 then ⟨bs.getD 1 0,num8 bs 2,num8 bs 10⟩ else ⟨0,0,0⟩
theorem jf2 (ao:Option Addr)(cap:Nat)(w:World)  :
  Calls Tryz.prog 56 #[.slice ao 0 cap] w fun e w'=>e=.returned (.tuple #[.agg #[.int .u8 0,.int .u64 0,.int .u64 0],.int .i64 0,.int .i64 1])∧Below w.heap.size w w':=by
 go_enter Tryz.func56,Tryz.ntmps56
 go_wp2
 refine bodyPost_ret (v:=.tuple #[.agg #[.int .u8 0,.int .u64 0,.int .u64 0],.int .i64 0,.int .i64 1]) (by simp [results,Tryz.results56,go_sem]) rfl ⟨rfl,?_⟩
 exact (Below.refl _ w).alloc (Nat.le_refl _) _
theorem jhg (g so n cap:Nat)(b0:Int)(w:World)(hn:0<n)(hg:g<w.heap.size)(hc0:w.cell? ⟨g,so,none⟩=some (.int .u8 b0))(h0:¬b0=17) :
  Calls Tryz.prog 56 #[.slice (some ⟨g,so,none⟩) n cap] w fun e w'=>e=.returned (.tuple #[.agg #[.int .u8 0,.int .u64 0,.int .u64 0],.int .i64 0,.int .i64 2])∧Below w.heap.size w w':=by
 have hn0:(0:Int)<n:=by omega
 have hnd:decide ((0:Int)<n)=true:=by simpa using hn0
 have hc0':∀ o1,(w.alloc o1).cell? ⟨g,so,none⟩=some (.int .u8 b0):=fun o1=>by rw [World.cell?_alloc_past _ _ _ hg];exact hc0
 have hz:(b0 != 17)=true:=by simpa using h0
 go_enter Tryz.func56,Tryz.ntmps56
 go_wp2
 refine bodyPost_ret (v:=.tuple #[.agg #[.int .u8 0,.int .u64 0,.int .u64 0],.int .i64 0,.int .i64 2]) (by simp [results,Tryz.results56,go_sem]) rfl ⟨rfl,?_⟩
 exact (Below.refl _ w).alloc (Nat.le_refl _) _
theorem jis (g so n cap:Nat)(b0:Int)(w:World)(hn:0<n)(hg:g<w.heap.size)(hc0:w.cell? ⟨g,so,none⟩=some (.int .u8 b0))(h0:b0=17)(hn1:n=1) :
  Calls Tryz.prog 56 #[.slice (some ⟨g,so,none⟩) n cap] w fun e w'=>e=.returned (.tuple #[.agg #[.int .u8 0,.int .u64 0,.int .u64 0],.int .i64 0,.int .i64 1])∧Below w.heap.size w w':=by
 have hn0:(0:Int)<n:=by omega
 have hnd:decide ((0:Int)<n)=true:=by simpa using hn0
 have hc0':∀ o1,(w.alloc o1).cell? ⟨g,so,none⟩=some (.int .u8 b0):=fun o1=>by rw [World.cell?_alloc_past _ _ _ hg];exact hc0
 subst h0
 have _:=hn
 have hn2:decide ((1:Int)<n)=false:=by simp;omega
 have hlt:decide ((n:Int)<18)=true:=by simp;omega
 go_enter Tryz.func56,Tryz.ntmps56
 go_wp2
 refine bodyPost_ret (v:=.tuple #[.agg #[.int .u8 0,.int .u64 0,.int .u64 0],.int .i64 0,.int .i64 1]) (by simp [results,Tryz.results56,go_sem]) rfl ⟨rfl,?_⟩
 exact (Below.refl _ w).alloc (Nat.le_refl _) _
theorem jiA (g so n cap:Nat)(b0:Int)(w:World)(hn:0<n)(hg:g<w.heap.size)(hc0:w.cell? ⟨g,so,none⟩=some (.int .u8 b0))(h0:b0=17)(hn1:1<n)(b1:Int)(hc1:w.cell? ⟨g,so+1,none⟩=some (.int .u8 b1))(hlo:b1<1) :
  Calls Tryz.prog 56 #[.slice (some ⟨g,so,none⟩) n cap] w fun e w'=>e=.returned (.tuple #[.agg #[.int .u8 0,.int .u64 0,.int .u64 0],.int .i64 0,.int .i64 2])∧Below w.heap.size w w':=by
 have hn0:(0:Int)<n:=by omega
 have hnd:decide ((0:Int)<n)=true:=by simpa using hn0
 have hc0':∀ o1,(w.alloc o1).cell? ⟨g,so,none⟩=some (.int .u8 b0):=fun o1=>by rw [World.cell?_alloc_past _ _ _ hg];exact hc0
 subst h0
 have hn2:decide ((1:Int)<n)=true:=by simp;omega
 have hnI:(1:Int)<n:=by omega
 have hc1':∀ o1,(w.alloc o1).cell? ⟨g,so+1,none⟩=some (.int .u8 b1):=fun o1=>by rw [World.cell?_alloc_past _ _ _ hg];exact hc1
 have hd1:decide (b1<1)=true:=by simpa using hlo
 go_enter Tryz.func56,Tryz.ntmps56
 go_wp2
 refine bodyPost_ret (v:=.tuple #[.agg #[.int .u8 0,.int .u64 0,.int .u64 0],.int .i64 0,.int .i64 2]) (by simp [results,Tryz.results56,go_sem]) rfl ⟨rfl,?_⟩
 exact (Below.refl _ w).alloc (Nat.le_refl _) _
theorem jgr (g so n cap:Nat)(b0:Int)(w:World)(hn:0<n)(hg:g<w.heap.size)(hc0:w.cell? ⟨g,so,none⟩=some (.int .u8 b0))(h0:b0=17)(hn1:1<n)(b1:Int)(hc1:w.cell? ⟨g,so+1,none⟩=some (.int .u8 b1))(hlo:¬b1<1)(hhi:9<b1) :
  Calls Tryz.prog 56 #[.slice (some ⟨g,so,none⟩) n cap] w fun e w'=>e=.returned (.tuple #[.agg #[.int .u8 0,.int .u64 0,.int .u64 0],.int .i64 0,.int .i64 2])∧Below w.heap.size w w':=by
 have hn0:(0:Int)<n:=by omega
 have hnd:decide ((0:Int)<n)=true:=by simpa using hn0
 have hc0':∀ o1,(w.alloc o1).cell? ⟨g,so,none⟩=some (.int .u8 b0):=fun o1=>by rw [World.cell?_alloc_past _ _ _ hg];exact hc0
 subst h0
 have hn2:decide ((1:Int)<n)=true:=by simp;omega
 have hnI:(1:Int)<n:=by omega
 have hc1':∀ o1,(w.alloc o1).cell? ⟨g,so+1,none⟩=some (.int .u8 b1):=fun o1=>by rw [World.cell?_alloc_past _ _ _ hg];exact hc1
 have hd1:decide (b1<1)=false:=by simpa using hlo
 have hd2:decide (9<b1)=true:=by simpa using hhi
 go_enter Tryz.func56,Tryz.ntmps56
 go_wp2
 refine bodyPost_ret (v:=.tuple #[.agg #[.int .u8 0,.int .u64 0,.int .u64 0],.int .i64 0,.int .i64 2]) (by simp [results,Tryz.results56,go_sem]) rfl ⟨rfl,?_⟩
 exact (Below.refl _ w).alloc (Nat.le_refl _) _
theorem jfq (g so n cap:Nat)(b0:Int)(w:World)(hn:0<n)(hg:g<w.heap.size)(hc0:w.cell? ⟨g,so,none⟩=some (.int .u8 b0))(h0:b0=17)(hn1:1<n)(b1:Int)(hc1:w.cell? ⟨g,so+1,none⟩=some (.int .u8 b1))(hlo:¬b1<1)(hhi:¬9<b1)(hs:n<18) :
  Calls Tryz.prog 56 #[.slice (some ⟨g,so,none⟩) n cap] w fun e w'=>e=.returned (.tuple #[.agg #[.int .u8 0,.int .u64 0,.int .u64 0],.int .i64 0,.int .i64 1])∧Below w.heap.size w w':=by
 have hn0:(0:Int)<n:=by omega
 have hnd:decide ((0:Int)<n)=true:=by simpa using hn0
 have hc0':∀ o1,(w.alloc o1).cell? ⟨g,so,none⟩=some (.int .u8 b0):=fun o1=>by rw [World.cell?_alloc_past _ _ _ hg];exact hc0
 subst h0
 have hn2:decide ((1:Int)<n)=true:=by simp;omega
 have hnI:(1:Int)<n:=by omega
 have hc1':∀ o1,(w.alloc o1).cell? ⟨g,so+1,none⟩=some (.int .u8 b1):=fun o1=>by rw [World.cell?_alloc_past _ _ _ hg];exact hc1
 have hd1:decide (b1<1)=false:=by simpa using hlo
 have hd2:decide (9<b1)=false:=by simpa using hhi
 have hlt:decide ((n:Int)<18)=true:=by simp;omega
 go_enter Tryz.func56,Tryz.ntmps56
 go_wp2
 refine bodyPost_ret (v:=.tuple #[.agg #[.int .u8 0,.int .u64 0,.int .u64 0],.int .i64 0,.int .i64 1]) (by simp [results,Tryz.results56,go_sem]) rfl ⟨rfl,?_⟩
 exact (Below.refl _ w).alloc (Nat.le_refl _) _
theorem jkj (g so n cap:Nat)(b:Nat→Int)(w:World)(hn:18≤n)(hnc:n≤cap)(hn1:n≤1048576)(hg:g<w.heap.size)(hb:∀ j,j<n→w.cell? ⟨g,so+j,none⟩=some (.int .u8 (b j)))(hr:∀ j,0≤b j∧b j≤255)(hb0:b 0=17)(hlo:¬b 1<1)(hhi:¬9<b 1) :
  Calls Tryz.prog 56 #[.slice (some ⟨g,so,none⟩) n cap] w fun e w'=>e=.returned (.tuple #[.agg #[.int .u8 (b 1),.int .u64 (rdTo (fun j=>b (2+j)) 8),.int .u64 (rdTo (fun j=>b (10+j)) 8)],.int .i64 18,.int .i64 0])∧Below w.heap.size w w':=by
 have hn0:(0:Int)<n:=by omega
 have hnd:decide ((0:Int)<n)=true:=by simpa using hn0
 have hn2:decide ((1:Int)<n)=true:=by simp;omega
 have hnI:(1:Int)<n:=by omega
 have hnI2:(2:Int)≤n:=by omega
 have hnI10:(10:Int)≤n:=by omega
 have hncI:(n:Int)≤cap:=by omega
 have hcap:¬cap=2:=by omega
 have hcap2:¬cap=10:=by omega
 have hlt:decide ((n:Int)<18)=false:=by simp;omega
 have hd1:decide (b 1<1)=false:=by simpa using hlo
 have hd2:decide (9<b 1)=false:=by simpa using hhi
 have hcj:∀ o1 j,j<n→(w.alloc o1).cell? ⟨g,so+j,none⟩=some (.int .u8 (b j)):=fun o1 j hj=>by rw [World.cell?_alloc_past _ _ _ hg];exact hb j hj
 have HC:=hide hcj
 have HR:=hide hr
 have hc0':∀ o1,(w.alloc o1).cell? ⟨g,so,none⟩=some (.int .u8 17):=fun o1=>(hcj o1 0 (by omega)).trans (by rw [hb0])
 have hc1':∀ o1,(w.alloc o1).cell? ⟨g,so+1,none⟩=some (.int .u8 (b 1)):=fun o1=>hcj o1 1 (by omega)
 clear hb hr hcj hb0
 go_enter Tryz.func56,Tryz.ntmps56
 go_wp2_with fail
 refine (jce g (so+2) (n - 2) (cap - 2) (fun j=>b (2+j)) _ (by omega) (by omega) (fun j hj=>by rw [Nat.add_assoc];exact HC.out _ (2+j) (by omega)) (fun j=>HR.out (2+j))).mono ?_
 rintro e w' ⟨rfl,rfl⟩
 go_wp2_with fail
 refine (jce g (so+10) (n - 10) (cap - 10) (fun j=>b (10+j)) _ (by omega) (by omega) (fun j hj=>by rw [Nat.add_assoc];exact HC.out _ (10+j) (by omega)) (fun j=>HR.out (10+j))).mono ?_
 rintro e w' ⟨rfl,rfl⟩
 go_wp2
 refine bodyPost_ret (v:=.tuple #[.agg #[.int .u8 (b 1),.int .u64 (rdTo (fun j=>b (2+j)) 8),.int .u64 (rdTo (fun j=>b (10+j)) 8)],.int .i64 18,.int .i64 0]) (by simp [results,Tryz.results56,go_sem]) rfl ⟨rfl,?_⟩
 exact (Below.refl _ w).alloc (Nat.le_refl _) _
theorem jdu {w:World}{base:Nat}{v:Value}{n:Nat}{bs:List Int}(h:w.ownsRow base 5 1 v n (bs.map (Value.int .u8)))(hnp:0<n)(hn:bs.length=n) :
  ∃ g cap,v=.slice (some ⟨g,0,none⟩) n cap∧base≤g∧g<w.heap.size∧n≤cap∧∀ j,j<n→w.cell? ⟨g,j,none⟩=some (.int .u8 (bs.getD j 0)):=by
 rcases h.2 with ⟨_,h0⟩ | ⟨g,cap,cur,hv,hb,hg,hnc,_⟩
 ·omega
 ·refine⟨g,cap,hv,hb,(Array.getElem?_eq_some_iff.1 hg).1,hnc,fun j hj=>?_⟩
  subst hv
  rw [h.cellAt j (by omega)]
  simp [List.getD,List.getElem?_eq_getElem (show j<bs.length by omega)]
def Src (w:World)(vb:Value)(bs:List Int):Prop:=
 (bs=[]∧(vb=.slice none 0 0∨∃ sg so cap,vb=.slice (some ⟨sg,so,none⟩) 0 cap))∨
 (0<bs.length∧∃ sg so cap,vb=.slice (some ⟨sg,so,none⟩) bs.length cap∧sg<w.heap.size∧∀ j u,(bs.map (Value.int .u8))[j]?=some u→w.cell? ⟨sg,so+j,none⟩=some u)
theorem jgv (w:World):Calls Tryz.prog 75 #[.slice none 0 0,.int .i64 0] w fun e w'=>e=.returned (.slice none 0 0)∧w'=w:=by
 go_enter Tryz.func75,Tryz.ntmps75
 go_wp2
 go_ret
 exact⟨rfl,rfl⟩
theorem jik (n:Nat)(hn:0<n)(hn1:n≤4194304)(w:World) :
  Calls Tryz.prog 75 #[.slice none 0 0,.int .i64 n] w fun e w'=>∃ v,e=.returned v∧w'.ownsRow w.heap.size 5 1 v 0 []∧Below w.heap.size w w':=by
 obtain⟨i0,hi,hz0,hz1,hz2⟩:=info_parts Tryz.info5
 have hold:(Builtin.firstCells i0.size 0 (.slice none 0 0)).run Tryz.prog w.drew=.ok ([]:List Value).toArray w.drew:=run_firstCells_none w.drew i0.size 0 0 0
 have hrz:∀ ty,(Builtin.append_ #[76,3] ty #[.slice none 0 0,.int .i64 n]).run Tryz.prog w=
   .ok (.slice (some ⟨w.heap.size,0,none⟩) n (grownCap w n 0 5)) (w.drew.alloc (.cells (([]:List Value).toArray ++ Builtin.zeroCells (Value.int .u8 0).cells n ++ Builtin.zeroCells (Value.int .u8 0).cells (grownCap w n 0 5 - n)) 5)):=fun ty=>by
  have h:=Lib.run_append_grow_zeros (P:=Tryz.prog) w 76 3 ty 5 i0 (.int .u8 0) .i64 .i64 Tryz.underlying76 Tryz.underlying3 hi hz0 none 0 0 [] hold n hn (by omega) (by omega) (by omega) (by rw [hz2];omega)
   (by rw [Nat.zero_add];exact growslice_fits (by omega) (by rw [hz2];omega))
  rw [Nat.zero_add] at h
  exact h
 have hGn:n≤grownCap w n 0 5:=grownCap_ge w _ _ _
 have hGm:=grownCap_le_maxLen w n 0 5 (by unfold maxLen;omega)
 obtain⟨G,hG⟩:∃ G,G=grownCap w n 0 5:=⟨_,rfl⟩
 rw [←hG] at hrz hGn hGm
 clear hold hG
 have hGm':G≤9223372036854775807:=by unfold maxLen at hGm;omega
 have h1:¬((n:Int)<0):=by omega
 have h4:(n:Int) > 0:=by omega
 go_enter Tryz.func75,Tryz.ntmps75
 go_wp2_with (at_builtin;refine Lib.wpList_append_run _ rfl _ _ _ _ rfl _ _ rfl rfl _ _ (hrz _) ?_)
 go_ret
 refine⟨_,rfl,⟨rfl,Or.inr ⟨w.heap.size,G,_,rfl,Nat.le_refl _,heapN (by simp),Nat.zero_le _,hGm,?_,by simp⟩⟩,((Below.refl _ w).drew).alloc (Nat.le_refl _) _⟩
 simp [Builtin.zeroCells]
 omega
theorem Src.shape {w:World}{v:Value}{bs:List Int}(h:Src w v bs):∃ a c,v=.slice a bs.length c:=by
 rcases h with ⟨rfl,rfl | ⟨sg,so,cap,rfl⟩⟩ | ⟨_,sg,so,cap,rfl,_⟩
 ·exact⟨_,_,rfl⟩
 ·exact⟨_,_,rfl⟩
 ·exact⟨_,_,rfl⟩
theorem Src.kept {w w':World}{v:Value}{bs:List Int}(h:Src w v bs)(hs:w.heap.size≤w'.heap.size)(hk:∀ g o n c,v=.slice (some ⟨g,o,none⟩) n c→g<w.heap.size→w'.heap[g]?=w.heap[g]?):Src w' v bs:=by
 rcases h with h | ⟨h1,sg,so,cap,rfl,h2,h3⟩
 ·exact Or.inl h
 ·exact Or.inr ⟨h1,sg,so,cap,rfl,Nat.lt_of_lt_of_le h2 hs,fun j u hj=>(World.cell?_of_block (w:=w) (hk sg so _ _ rfl h2)).trans (h3 j u hj)⟩
theorem Src.below {w w':World}{v:Value}{bs:List Int}{B:Nat}(h:Src w v bs)(hb:Below B w w')(hB:w.heap.size≤B):Src w' v bs:=
 h.kept hb.size fun g _ _ _ _ hg=>hb.block g (Nat.lt_of_lt_of_le hg hB)
theorem Src.of_own {w:World}{base:Nat}{v:Value}{n:Nat}{bs:List Int}(h:w.ownsRow base 5 1 v n (bs.map (Value.int .u8))):Src w v bs:=by
 have hn:bs.length=n:=by simpa using h.1
 rcases h.2 with ⟨h1,h2⟩ | ⟨g,cap,cur,hv,hb,hg,hnc,_⟩
 ·exact Or.inl ⟨List.length_eq_zero_iff.1 (hn.trans h2),Or.inl h1⟩
 ·by_cases h0:bs=[]
  ·subst h0
   simp at hn
   subst hn
   exact Or.inl ⟨rfl,Or.inr ⟨g,0,cap,hv⟩⟩
  ·have hp:0<bs.length:=List.length_pos_iff.2 h0
   obtain⟨g,cap,hv,_,hgl,_,hc⟩:=jdu h (by omega) hn
   refine Or.inr ⟨hp,g,0,cap,by rw [hv,hn],hgl,fun j u hj=>?_⟩
   have hjl:j<bs.length:=by
    have:=(List.getElem?_eq_some_iff.1 hj).1
    simpa using this
   rw [Nat.zero_add,hc j (by omega),←hj]
   simp [List.getD,List.getElem?_eq_getElem hjl]
theorem jb3 {ops:Array Oper}{rest:List Oper}{o:Oper}{a:Act}{Q:Exit→Act→World→Prop}{w:World}(hgd:o.guard=none)(s x:Operand)
  (ho:o.op=.call { callee:=.builtin .append,args:=#[s,x],argTypes:=#[76,76] }) (base:Nat) (v:Value) (n:Nat) (b0:List Int) (hs:a.eval s=v) (hown:w.ownsRow base 5 1 v n (b0.map (Value.int .u8)))
  (vx:Value) (bs:List Int) (hx:a.eval x=vx) (hsrc:Src w vx bs) (hb:n+bs.length≤4194304) (hbase:base≤w.heap.size)
  (h:∀ v' w',w'.ownsRow base 5 1 v' (n+bs.length) ((b0 ++ bs).map (Value.int .u8))→w.grownBy w' v.ownBlock→wpList Tryz.prog ops Q rest (a.put o.dst v') w'):wpList Tryz.prog ops Q (o :: rest) a w:=by
 obtain⟨i0,hi,hz0,hz1,hz2⟩:=info_parts Tryz.info5
 have main:∀ (ad:Addr) (m c:Nat),vx=.slice (some ad) m c→bs.length=m→(∀ j u,(bs.map (Value.int .u8))[j]?=some u→w.cell? (ad.add j)=some u)→wpList Tryz.prog ops Q (o :: rest) a w:=by
  intro ad m c e1 e2 e3
  subst e1
  refine wpList_append_own (w:=w) hgd s x 76 ho base 5 i0 (.int .u8 0) 1 1 Tryz.underlying76 hi hz0 hz1 hz2 rfl (by decide) v n _ hs hown ad m c (bs.map (Value.int .u8)) hx (by simpa using e2) e3 (ints_oneCell _ _) (by unfold maxLen;omega) (by omega) hbase ?_
  intro v' w' h1 h2 _
  refine h v' w' ?_ h2
  rw [e2,List.map_append]
  exact h1
 rcases hsrc with ⟨rfl,rfl | ⟨sg,so,cap,rfl⟩⟩ | ⟨_,sg,so,cap,e,_,hc⟩
 ·refine wpList_append_own_none hgd s x 76 ho base 5 i0 1 Tryz.underlying76 hi v n _ hs hown hx ?_
  refine h v w ?_ (World.grownBy.refl w _)
  simpa using hown
 ·exact main ⟨sg,so,none⟩ 0 cap rfl rfl (fun j u hj=>by simp at hj)
 ·exact main ⟨sg,so,none⟩ bs.length cap e rfl (fun j u hj=>by rw [Addr.add_lit];exact hc j u hj)
theorem jhY (n:Nat)(k:Int)(hk:k=n)(hn1:n≤4194304)(w:World) :
  Calls Tryz.prog 75 #[.slice none 0 0,.int .i64 k] w fun e w'=>∃ v,e=.returned v∧w'.ownsRow w.heap.size 5 1 v 0 (([]:List Int).map (Value.int .u8))∧Below w.heap.size w w':=by
 subst hk
 by_cases h:n=0
 ·subst h
  refine (jgv w).mono ?_
  rintro e w' ⟨rfl,rfl⟩
  exact⟨_,rfl,World.ownsRow_nil _ _ _ _,Below.refl _ _⟩
 ·exact jik n (by omega) hn1 w
theorem jkH (A:Nat)(v1 v2:Value)(b1 b2:List Int)(t:TypeId)(w:World)(hA:w.heap[A]?=some (.cells #[v1,v2] t))(hs1:Src w v1 b1)(hs2:Src w v2 b2)(hl1:b1.length≤1048576)(hl2:b2.length≤1048576) :
  Calls Tryz.prog 49 #[.slice (some ⟨A,0,none⟩) 2 2] w fun e w'=>∃ v',e=.returned v'∧w'.ownsRow w.heap.size 5 1 v' (b1.length+b2.length) ((b1 ++ b2).map (Value.int .u8))∧Below w.heap.size w w':=by
 obtain⟨x1,c1,e1⟩:=hs1.shape
 obtain⟨x2,c2,e2⟩:=hs2.shape
 have HS1:=hide hs1
 have HS2:=hide hs2
 have lA:=ltB hA
 clear hs1 hs2
 subst e1 e2
 have a1:=cellB hA
 obtain⟨n1,hn1⟩:∃ n,n=b1.length:=⟨_,rfl⟩
 obtain⟨n2,hn2⟩:∃ n,n=b2.length:=⟨_,rfl⟩
 rw [←hn1] at a1 hl1 ⊢
 rw [←hn2] at a1 hl2 ⊢
 have HN1:=hide hn1
 have HN2:=hide hn2
 clear hn1 hn2
 go_enter Tryz.func49,Tryz.ntmps49
 go_wp2
 refine wp_loop_rounds 3 ?_
 rw [rounds_succ]
 go_wp2
 rw [rounds_succ]
 go_wp2
 rw [rounds_succ]
 go_wp2_with fail
 refine (jhY (n1+n2) _ (by omega) (by omega) w).mono ?_
 rintro e w1 ⟨u0,rfl,hown0,hb0⟩
 have g1:=cellB ((hb0.block A lA).trans hA)
 have hs0:=hb0.size
 rw [←HN1.out,←HN2.out] at g1
 clear a1
 go_wp2
 refine wp_loop_rounds 3 ?_
 rw [rounds_succ]
 go_wp2_with (at_builtin;refine jb3 rfl _ _ rfl w.heap.size u0 0 [] rfl hown0 _ b1 (by exact congrArg (fun z=>Value.slice x1 z c1) HN1.out) (HS1.out.below hb0 (Nat.le_refl _)) (by rw [←HN1.out];omega) (by omega) ?_;intro u1 w2 hown1 hgr1)
 have hb2:Below w.heap.size w w2:=hb0.grown hgr1 hs0 (fun k hk=>(hown0.lt k hk).1)
 have g2:=cellB ((hb2.block A lA).trans hA)
 rw [←HN1.out,←HN2.out] at g2
 have hs2:=hb2.size
 clear g1
 rw [rounds_succ]
 go_wp2_with (at_builtin;refine jb3 rfl _ _ rfl w.heap.size u1 (0+b1.length) ([] ++ b1) rfl hown1 _ b2 (by exact congrArg (fun z=>Value.slice x2 z c2) HN2.out) (HS2.out.below hb2 (Nat.le_refl _)) (by rw [←HN1.out,←HN2.out];omega) (by omega) ?_;intro u2 w3 hown2 hgr2)
 have hb3:Below w.heap.size w w3:=hb2.grown hgr2 hs2 (fun k hk=>(hown1.lt k hk).1)
 rw [rounds_succ]
 go_wp2
 go_ret
 refine⟨_,rfl,?_,hb3⟩
 have:=hown2
 rw [Nat.zero_add,←HN1.out,←HN2.out] at this
 exact this
def Sl (w:World)(vb:Value)(bs:List Int):Prop:=
 (bs=[]∧(vb=.slice none 0 0∨∃ g o c,vb=.slice (some ⟨g,o,none⟩) 0 c))∨
 (0<bs.length∧∃ g o c,vb=.slice (some ⟨g,o,none⟩) bs.length c∧bs.length≤c∧g<w.heap.size∧∀ j,j<bs.length→w.cell? ⟨g,o+j,none⟩=some (.int .u8 (bs.getD j 0)))
theorem Sl.kept {w w':World}{v:Value}{bs:List Int}(h:Sl w v bs)(hs:w.heap.size≤w'.heap.size)(hk:∀ g o n c,v=.slice (some ⟨g,o,none⟩) n c→g<w.heap.size→w'.heap[g]?=w.heap[g]?):Sl w' v bs:=by
 rcases h with h | ⟨h1,sg,so,cap,rfl,h0,h2,h3⟩
 ·exact Or.inl h
 ·exact Or.inr ⟨h1,sg,so,cap,rfl,h0,Nat.lt_of_lt_of_le h2 hs,fun j hj=>(World.cell?_of_block (w:=w) (hk sg so _ _ rfl h2)).trans (h3 j hj)⟩
theorem Sl.below {w w':World}{v:Value}{bs:List Int}{B:Nat}(h:Sl w v bs)(hb:Below B w w')(hB:w.heap.size≤B):Sl w' v bs:=
 h.kept hb.size fun g _ _ _ _ hg=>hb.block g (Nat.lt_of_lt_of_le hg hB)
theorem Sl.src {w:World}{v:Value}{bs:List Int}(h:Sl w v bs):Src w v bs:=by
 rcases h with h | ⟨h1,sg,so,cap,rfl,h0,h2,h3⟩
 ·exact Or.inl h
 ·refine Or.inr ⟨h1,sg,so,cap,rfl,h2,fun j u hj=>?_⟩
  have hjl:j<bs.length:=by
   have:=(List.getElem?_eq_some_iff.1 hj).1
   simpa using this
  rw [h3 j hjl,←hj]
  simp [List.getD,List.getElem?_eq_getElem hjl]
theorem Sl.of_own {w:World}{base:Nat}{v:Value}{n:Nat}{bs:List Int}(h:w.ownsRow base 5 1 v n (bs.map (Value.int .u8))):Sl w v bs:=by
 have hn:bs.length=n:=by simpa using h.1
 rcases h.2 with ⟨h1,h2⟩ | ⟨g,cap,cur,hv,hb,hg,hnc,_⟩
 ·exact Or.inl ⟨List.length_eq_zero_iff.1 (hn.trans h2),Or.inl h1⟩
 ·by_cases h0:bs=[]
  ·subst h0
   simp at hn
   subst hn
   exact Or.inl ⟨rfl,Or.inr ⟨g,0,cap,hv⟩⟩
  ·have hp:0<bs.length:=List.length_pos_iff.2 h0
   obtain⟨g,cap,hv,_,hgl,hnc,hc⟩:=jdu h (by omega) hn
   exact Or.inr ⟨hp,g,0,cap,by rw [hv,hn],by omega,hgl,fun j hj=>by rw [Nat.zero_add,hc j (by omega)]⟩
theorem Sl.shape {w:World}{v:Value}{bs:List Int}(h:Sl w v bs):∃ a c,v=.slice a bs.length c:=h.src.shape
theorem jgS (vb:Value)(bs:List Int)(w:World)(hs:Sl w vb bs)(hlen:bs.length≤1048576)(hr:∀ j,0≤bs.getD j 0∧bs.getD j 0≤255)(q:Rq)(hq:q=rdQ bs)(m er:Int)(hm:m=rdN bs)(her:er=rdErr bs) :
  Calls Tryz.prog 72 #[vb] w fun e w'=>e=.returned (.tuple #[.agg #[.int .u8 q.op,.int .u8 q.k0,.int .u8 q.k1,.int .u8 q.k2,.int .u8 q.k3,.int .u8 q.k4,.int .u8 q.k5,.int .u8 q.k6,.int .u8 q.k7,.int .u8 q.kd,.int .u64 q.x,.int .u64 q.y,.int .u64 q.n],.int .i64 m,errV er])∧Below w.heap.size w w':=by
 subst hm her
 rcases hs with ⟨rfl,rfl | ⟨g,o,c,rfl⟩⟩ | ⟨hp,g,o,c,rfl,h0,h2,h3⟩
 ·subst hq;exact jcT _ _ w
 ·subst hq;exact jcT _ _ w
 ·cases bs with
  | nil=>simp at hp
  | cons b0 t=>exact je7 g o c b0 t w h0 hlen h2 h3 hr q hq
abbrev rqc (q:Rq):Array Value:=#[.int .u8 q.op,.int .u8 q.k0,.int .u8 q.k1,.int .u8 q.k2,.int .u8 q.k3,.int .u8 q.k4,.int .u8 q.k5,.int .u8 q.k6,.int .u8 q.k7,.int .u8 q.kd,.int .u64 q.x,.int .u64 q.y,.int .u64 q.n]
def jbn:Value→Nat
 | .slice _ n _=>n
 | _=>0
theorem jb6 (rs:List Rp):(encs rs).length=18 * rs.length:=by
 unfold encs
 induction rs with
 | nil=>rfl
 | cons r t ih=>rw [List.flatMap_cons,List.length_append,ih];simp [jai,be8];omega
theorem jcd (rs:List Rp)(r:Rp):encs (rs ++ [r])=encs rs ++ jai r.c r.a r.b:=by simp [encs]
theorem jaV {w w':World}{base:Nat}{v:Value}{n:Nat}{xs:List Value}(h:w.ownsRow base 5 1 v n xs)(hb:∀ g,v.ownBlock=some g→w'.heap[g]?=w.heap[g]?):w'.ownsRow base 5 1 v n xs:=by
 obtain⟨h1,h2⟩:=h
 refine⟨h1,?_⟩
 rcases h2 with h2 | ⟨g,cap,cur,hv,hg,hh,r⟩
 ·exact Or.inl h2
 ·exact Or.inr ⟨g,cap,cur,hv,hg,(hb g (by rw [hv];rfl)).trans hh,r⟩
theorem jdB {w:World}{base:Nat}{v:Value}{n:Nat}{xs:List Value}(h:w.ownsRow base 5 1 v n xs):∃ a c,v=.slice a n c:=by
 rcases h.2 with ⟨rfl,rfl⟩ | ⟨g,cap,cur,hv,_⟩
 ·exact⟨_,_,rfl⟩
 ·exact⟨_,_,hv⟩
theorem jdM {w:World}{b:Nat}{c0 c1 c2 c3 c4 c5 c6 c7 c8 c9 c10 c11 c12:Value}{t:TypeId}{fr:Nat×Nat}(h:w.heap[b]?=some (.cells #[c0,c1,c2,c3,c4,c5,c6,c7,c8,c9,c10,c11,c12] t fr))(v0 v1 v2 v3 v4 v5 v6 v7 v8 v9 v10 v11 v12:Value) :
  (((((((((((((w.setCell ⟨b,0,none⟩ v0).setCell ⟨b,1,none⟩ v1).setCell ⟨b,2,none⟩ v2).setCell ⟨b,3,none⟩ v3).setCell ⟨b,4,none⟩ v4).setCell ⟨b,5,none⟩ v5).setCell ⟨b,6,none⟩ v6).setCell ⟨b,7,none⟩ v7).setCell ⟨b,8,none⟩ v8).setCell ⟨b,9,none⟩ v9).setCell ⟨b,10,none⟩ v10).setCell ⟨b,11,none⟩ v11).setCell ⟨b,12,none⟩ v12).heap[b]?=some (.cells #[v0,v1,v2,v3,v4,v5,v6,v7,v8,v9,v10,v11,v12] t fr):=by
 simpa using (ja4 (ja4 (ja4 (ja4 (ja4 (ja4 (ja4 (ja4 (ja4 (ja4 (ja4 (ja4 (ja4 h 0 v0) 1 v1) 2 v2) 3 v3) 4 v4) 5 v5) 6 v6) 7 v7) 8 v8) 9 v9) 10 v10) 11 v11) 12 v12)
theorem jcf {ops:Array Oper}{o:Oper}{a:Act}{w:World}{K:Act→World→Prop}{Q:Exit→Act→World→Prop}{E:Prop}(hg:o.guard=none)(s x:Operand)
  (hop:o.op=.call { callee:=.builtin .append,args:=#[s,x],argTypes:=#[76,76] }) (base:Nat) (v:Value) (n:Nat) (b0:List Int) (hs:a.eval s=v) (hown:w.ownsRow base 5 1 v n (b0.map (Value.int .u8)))
  (ad:Addr) (m c:Nat) (bs:List Int) (hx:a.eval x=.slice (some ad) m c) (hm:bs.length=m) (hc:∀ j u,(bs.map (Value.int .u8))[j]?=some u→w.cell? (ad.add j)=some u) (hb:n+m≤4194304) (hbase:base≤w.heap.size)
  (hK:∀ v' w',w'.ownsRow base 5 1 v' (n+m) ((b0 ++ bs).map (Value.int .u8))→w.grownBy w' v.ownBlock→(v'.ownBlock=v.ownBlock∨v'.ownBlock=some w.heap.size)→K (a.put o.dst v') w') :
  if Region.wanted o (yielded ops a.tmps)=true then Oper.wp Tryz.prog o a w K Q else E:=by
 have hw:Region.wanted o (yielded ops a.tmps)=true:=by simp [Region.wanted,hg]
 rw [if_pos hw]
 obtain⟨i0,hi,hz0,hz1,hz2⟩:=info_parts Tryz.info5
 obtain⟨v',w',hr,h2,h3,h4,h5⟩:=run_append_own_at (P:=Tryz.prog) (w:=w) base 76 o.type 5 i0 (.int .u8 0) 1 1 Tryz.underlying76 hi hz0 hz1 hz2 rfl (by decide) v n _ hown ad m c (bs.map (Value.int .u8)) (by simpa using hm) hc (ints_oneCell _ _) (by unfold maxLen;omega) (by omega) hbase
 unfold Oper.wp execOp
 simp only [hop,resolve,invoke,builtin,Sem.run_bind,Sem.run_pure,Result.andThen_ok,List.map_toArray,List.map_cons,List.map_nil,hs,hx,hr]
 exact hK v' w' (by rw [List.map_append];exact h2) h3 h5
theorem jau {ops:Array Oper}{rest:List Oper}{o:Oper}{a:Act}{Q:Exit→Act→World→Prop}{w:World}(hgd:o.guard=none)(s x:Operand)
  (ho:o.op=.call { callee:=.builtin .append,args:=#[s,x],argTypes:=#[76,76] }) (base:Nat) (v:Value) (n:Nat) (b0:List Int) (hs:a.eval s=v) (hown:w.ownsRow base 5 1 v n (b0.map (Value.int .u8)))
  (vx:Value) (bs:List Int) (hx:a.eval x=vx) (hsrc:Src w vx bs) (hb:n+bs.length≤4194304) (hbase:base≤w.heap.size)
  (h:∀ v' w',w'.ownsRow base 5 1 v' (n+bs.length) ((b0 ++ bs).map (Value.int .u8))→w.grownBy w' v.ownBlock→(v'.ownBlock=v.ownBlock∨v'.ownBlock=some w.heap.size)→wpList Tryz.prog ops Q rest (a.put o.dst v') w'):wpList Tryz.prog ops Q (o :: rest) a w:=by
 obtain⟨i0,hi,hz0,hz1,hz2⟩:=info_parts Tryz.info5
 have main:∀ (ad:Addr) (m c:Nat),vx=.slice (some ad) m c→bs.length=m→(∀ j u,(bs.map (Value.int .u8))[j]?=some u→w.cell? (ad.add j)=some u)→wpList Tryz.prog ops Q (o :: rest) a w:=by
  intro ad m c e1 e2 e3
  subst e1
  refine wpList_append_own_at (w:=w) hgd s x 76 ho base 5 i0 (.int .u8 0) 1 1 Tryz.underlying76 hi hz0 hz1 hz2 rfl (by decide) v n _ hs hown ad m c (bs.map (Value.int .u8)) hx (by simpa using e2) e3 (ints_oneCell _ _) (by unfold maxLen;omega) (by omega) hbase ?_
  intro v' w' h1 h2 _ h4
  refine h v' w' ?_ h2 h4
  rw [e2,List.map_append]
  exact h1
 rcases hsrc with ⟨rfl,rfl | ⟨sg,so,cap,rfl⟩⟩ | ⟨_,sg,so,cap,e,_,hc⟩
 ·refine wpList_append_own_none hgd s x 76 ho base 5 i0 1 Tryz.underlying76 hi v n _ hs hown hx ?_
  refine h v w ?_ (World.grownBy.refl w _) (Or.inl rfl)
  simpa using hown
 ·exact main ⟨sg,so,none⟩ 0 cap rfl rfl (fun j u hj=>by simp at hj)
 ·exact main ⟨sg,so,none⟩ bs.length cap e rfl (fun j u hj=>by rw [Addr.add_lit];exact hc j u hj)
def jaa (s:ByteArray):List Int:=s.data.toList.map (fun b=>(b.toNat:Int))
theorem jap (s:ByteArray):(jaa s).length=s.size:=by simp [jaa]
theorem jaO (xs:List Int)(h:Bytes xs):jaa (strOfNums xs)=xs:=by
 unfold jaa
 rw [strOfNums_data,List.map_map]
 conv=>rhs;rw [←List.map_id xs]
 apply List.map_congr_left
 intro x hx
 have:=h x hx
 simp
 omega
theorem jbi (s:ByteArray):Bytes (jaa s):=by
 intro x hx
 obtain⟨b,_,rfl⟩:=List.mem_map.1 hx
 have:=b.toNat_lt
 omega
theorem jc9 {w:World}{base n:Nat}{v:Value}{bs:List Int}(h:w.ownsRow base 5 1 v n (bs.map (Value.int .u8)))(hn:bs.length=n):(convert 76 9 v).run Tryz.prog w=.ok (.string (strOfNums bs)) w:=by
 rcases h.2 with ⟨h2,h0⟩ | ⟨g,cap,cur,hv,_⟩
 ·have hb:bs=[]:=List.eq_nil_of_length_eq_zero (by omega)
  subst hb h2
  exact run_convert_bytes_nil w 76 5 Tryz.underlying76 Tryz.underlying5 0 0 9 Tryz.underlying9
 ·subst hv
  refine run_convert_bytes_arg (P:=Tryz.prog) w 76 5 Tryz.underlying76 Tryz.underlying5 g 0 n cap bs hn (fun i hi=>?_) 9 Tryz.underlying9
  rw [Nat.zero_add,h.cellAt i (by omega)]
  simp [List.getD,List.getElem?_eq_getElem (show i<bs.length by omega)]
def Rq.enc (q:Rq):List Int:=jbY q.op q.k0 q.k1 q.k2 q.k3 q.k4 q.k5 q.k6 q.k7 q.kd q.x q.y q.n
def encQs (qs:List Rq):List Int:=qs.flatMap Rq.enc
theorem jgo (q:Rq):q.enc.length≤27:=by
 have:=jdn q.op q.k0 q.k1 q.k2 q.k3 q.k4 q.k5 q.k6 q.k7 q.kd q.x q.y q.n
 have h:=jg7 (b:=q.op)
 unfold Rq.enc
 split at this <;> omega
theorem jcw (qs:List Rq):(encQs qs).length≤27 * qs.length:=by
 unfold encQs
 induction qs with
 | nil=>simp
 | cons q t ih=>rw [List.flatMap_cons,List.length_append];have:=jgo q;simp only [List.length_cons];omega
def ptrs (cb:Nat→Nat)(m:Nat):List Value:=(List.range m).map fun i=>.pointer (some ⟨cb i,0,none⟩)
theorem Sl.of_bytes (w2:World)(S:ByteArray)(c:Nat)(hc:S.size≤c):Sl ((w2.alloc (.cells (bytesRow S c) 5 ((bytesRow S c).size,(bytesRow S c).size+1))).drew) (.slice (some ⟨w2.heap.size,0,none⟩) S.size c) (jaa S):=by
 have hl:=jap S
 by_cases h0:S.size=0
 ·exact .inl ⟨List.eq_nil_of_length_eq_zero (by omega),.inr ⟨w2.heap.size,0,c,by rw [h0]⟩⟩
 ·refine .inr ⟨by omega,w2.heap.size,0,c,by rw [hl],by omega,by simp,?_⟩
  intro j hj
  show (w2.alloc _).cell? ⟨w2.heap.size,0+j,none⟩=_
  rw [Nat.zero_add,World.cell?_alloc_mark]
  have hjs:j<S.data.size:=by simpa [hl] using hj
  unfold bytesRow jaa
  rw [Array.getElem?_append_left (by simpa using hjs)]
  simp only [List.getD,Array.getElem?_map,List.getElem?_map,Array.getElem?_toList,Array.getElem?_eq_getElem hjs,Option.map_some,Option.getD_some]
theorem jbA (S:ByteArray)(c:Nat):S.size≤(bytesRow S c).size:=by
 unfold bytesRow
 rw [Array.size_append]
 simp
structure Wb (w3 wr:World)(b n:Nat):Prop where
 os:wr.os=w3.os
 tape:wr.tape=w3.tape
 output:wr.output=w3.output
 size:wr.heap.size=w3.heap.size
 blk:∀ k,k≠b→wr.heap[k]?=w3.heap[k]?
 cur:∃ cur fz,wr.heap[b]?=some (.cells cur 5 (fz,fz+1))∧n≤cur.size∧n≤fz
theorem Wb.step {w3 wr:World}{b n:Nat}(h:Wb w3 wr b n)(j:Nat)(u:Value):Wb w3 (wr.setCell ⟨b,j,none⟩ u) b n:=by
 obtain⟨cur,fz,h1,h2,h3⟩:=h.cur
 exact⟨h.os,h.tape,h.output,by rw [World.size_setCell];exact h.size,fun k hk=>(ja0 hk _ _).trans (h.blk k hk),_,fz,ja4 h1 j u,by simpa using h2,h3⟩
theorem Wb.cell {w3 wr:World}{b n:Nat}(h:Wb w3 wr b n)(j:Nat)(hj:j<n):(∃ u,wr.cell? ⟨b,j,none⟩=some u)∧wr.frozen? ⟨b,j,none⟩=false:=by
 obtain⟨cur,fz,h1,h2,h3⟩:=h.cur
 refine⟨⟨cur[j]'(by omega),by rw [cellB h1];simp⟩,?_⟩
 simp [World.frozen?,h1]
 omega
def pickM (c n:Int):Int:=(if c<0 then -(c+1) else c) % n
theorem jcb (c n:Int)(hn:0<n):0≤pickM c n∧pickM c n<n:=by
 unfold pickM
 exact⟨Int.emod_nonneg _ (by omega),Int.emod_lt_of_pos _ hn⟩
theorem jbh (a b:Int)(w:World)(ha:0≤a∧a≤18446744073709551615)(hb:0≤b∧b≤18446744073709551615) :
  Calls Tryz.prog 151 #[.int .u64 a,.int .u64 b] w fun e w'=>e=.returned (.tuple #[.int .u64 (ja6 (a+b)),.bool (decide (a+b≤18446744073709551615))])∧w'=w:=by
 have e1:IntKind.u64.wrap (18446744073709551615 - b)=18446744073709551615 - b:=by rw [IntKind.wrap_u64];omega
 by_cases h:a+b≤18446744073709551615
 ·have e2:IntKind.u64.wrap (a+b)=a+b:=by rw [IntKind.wrap_u64];omega
  have e3:¬18446744073709551615 - b<a:=by omega
  have e4:ja6 (a+b)=a+b:=by unfold ja6;rw [if_pos h]
  have e5:decide (a+b≤18446744073709551615)=true:=by simpa using h
  rw [e4,e5]
  clear e4 e5 h
  go_enter Tryz.func151,Tryz.ntmps151
  go_wp2
  go_ret2
  exact⟨rfl,rfl⟩
 ·have e3:18446744073709551615 - b<a:=by omega
  have e4:ja6 (a+b)=18446744073709551615:=by unfold ja6;rw [if_neg h]
  have e5:decide (a+b≤18446744073709551615)=false:=by simpa using h
  rw [e4,e5]
  clear e4 e5 h
  go_enter Tryz.func151,Tryz.ntmps151
  go_wp2
  go_ret2
  exact⟨rfl,rfl⟩
theorem jdc (a b:Int)(w:World)(ha:0≤a∧a≤18446744073709551615)(hb:0≤b∧b≤18446744073709551615) :
  Calls Tryz.prog 150 #[.int .u64 a,.int .u64 b] w fun e w'=>e=.returned (.tuple #[.int .u64 (ja6 (a * b)),.bool (decide (a * b≤18446744073709551615))])∧w'=w:=by
 have hp:0≤a * b:=Int.mul_nonneg ha.1 hb.1
 by_cases h0:a=0
 ·subst h0
  have e4:ja6 (0 * b)=0:=by unfold ja6;simp
  have e5:decide (0 * b≤18446744073709551615)=true:=by simp
  rw [e4,e5]
  clear e4 e5 hp
  go_enter Tryz.func150,Tryz.ntmps150
  go_wp2
  go_ret2
  exact⟨rfl,rfl⟩
 ·have hd:(18446744073709551615:Int).tdiv a=18446744073709551615 / a:=Int.tdiv_eq_ediv_of_nonneg (by omega)
  have hd2:0≤(18446744073709551615:Int) / a:=Int.ediv_nonneg (by omega) ha.1
  have hd3:(18446744073709551615:Int) / a≤18446744073709551615:=Int.ediv_le_self _ (by omega)
  have hdw:IntKind.u64.wrap (18446744073709551615 / a)=18446744073709551615 / a:=by rw [IntKind.wrap_u64];omega
  have hiff:a * b≤18446744073709551615↔b≤18446744073709551615 / a:=by
   rw [Int.le_ediv_iff_mul_le (by omega),Int.mul_comm]
  by_cases h:a * b≤18446744073709551615
  ·have e2:IntKind.u64.wrap (a * b)=a * b:=by rw [IntKind.wrap_u64];omega
   have e3:¬18446744073709551615 / a<b:=by have:=hiff.1 h;omega
   have e4:ja6 (a * b)=a * b:=by unfold ja6;rw [if_pos h]
   have e5:decide (a * b≤18446744073709551615)=true:=by simpa using h
   rw [e4,e5]
   clear e4 e5 h hiff hd2 hd3 hp
   go_enter Tryz.func150,Tryz.ntmps150
   go_wp2
   go_ret2
   exact⟨rfl,rfl⟩
  ·have e3:18446744073709551615 / a<b:=by
    rcases Int.lt_or_le (18446744073709551615 / a) b with h' | h'
    ·exact h'
    ·exact absurd (hiff.2 h') h
   have e4:ja6 (a * b)=18446744073709551615:=by unfold ja6;rw [if_neg h]
   have e5:decide (a * b≤18446744073709551615)=false:=by simpa using h
   rw [e4,e5]
   clear e4 e5 h hiff hd2 hd3 hp
   go_enter Tryz.func150,Tryz.ntmps150
   go_wp2
   go_ret2
   exact⟨rfl,rfl⟩
def lnc (l:Ln):List Value:=[.int .u8 l.k.k0,.int .u8 l.k.k1,.int .u8 l.k.k2,.int .u8 l.k.k3,.int .u8 l.k.k4,.int .u8 l.k.k5,.int .u8 l.k.k6,.int .u8 l.k.k7,.int .u8 l.kd,.int .u64 l.x,.int .u64 l.y,.int .u64 l.at_,.int .u64 l.in_]
def lncs (ls:List Ln):List Value:=ls.flatMap lnc
theorem jj1 (j:Nat)(hj:j<13):∀ (ls:List Ln) (i:Nat) (h:i<ls.length),(lncs ls)[i * 13+j]?=(lnc ls[i])[j]?:=by
 intro l
 induction l with
 | nil=>intro i h;simp at h
 | cons q r ih=>
  intro i h
  unfold lncs
  rw [List.flatMap_cons]
  cases i with
  | zero=>
   rw [Nat.zero_mul,Nat.zero_add,List.getElem?_append_left (by simpa [lnc] using hj)]
   rfl
  | succ i=>
   rw [List.getElem?_append_right (by simp [lnc];omega)]
   have e:(i+1) * 13+j - (lnc q).length=i * 13+j:=by simp [lnc];omega
   rw [e]
   exact ih i (by simpa using h)
theorem jeP (ls:List Ln):(lncs ls).length=ls.length * 13:=by
 unfold lncs
 induction ls with
 | nil=>rfl
 | cons q r ih=>rw [List.flatMap_cons,List.length_append,ih];simp [lnc];omega
structure BookAt (w:World)(bb:Nat)(base:Nat)(lv:Value)(B:Bk):Prop where
 hb:w.heap[bb]?=some (.cells #[lv,.int .u64 B.time] 60)
 ho:w.ownsRow base 151 13 lv B.ls.length (lncs B.ls)
theorem BookAt.cells {w:World}{bb base g cap:Nat}{B:Bk}{n:Nat}(h:BookAt w bb base (.slice (some ⟨g,0,none⟩) n cap) B)(i:Nat)(hi:i<B.ls.length)(j:Nat)(hj:j<13):w.cell? ⟨g,i * 13+j,none⟩=(lnc B.ls[i])[j]?:=by
 obtain⟨a,c,e⟩:=ja8 h.ho
 injection e with e1 e2 e3
 have ho:=h.ho
 rw [e2] at ho
 rw [ho.cellAt (i * 13+j) (by omega),jj1 j hj B.ls i hi]
def idxI (k:Ky)(ls:List Ln):Int:=match idx k ls with | none=>-1 | some i=>i
theorem jcR {k:Ky}:∀ {ls:List Ln}{i:Nat},idx k ls=some i→i<ls.length
 | [],_,h=>by simp [idx] at h
 | l :: r,i,h=>by
  unfold idx at h
  split at h
  ·injection h with h;subst h;simp
  ·obtain⟨j,hj,rfl⟩:=Option.map_eq_some_iff.1 h
   have:=jcR hj
   simp only [List.length_cons];omega
theorem jdb {k:Ky}:∀ (ls:List Ln) (i:Nat),(∀ j (h:j<ls.length),j<i→ls[j].k≠k)→(h:i<ls.length)→(ls[i].k=k→idx k ls=some i)
 | [],i,_,h,_=>by simp at h
 | l :: r,i,hn,h,he=>by
  unfold idx
  cases i with
  | zero=>rw [if_pos (by simpa using he)]
  | succ i=>
   rw [if_neg (by have:=hn 0 (by simp) (by omega);simpa using this)]
   rw [jdb r i (fun j hj hji=>by have:=hn (j+1) (by simp;omega) (by omega);simpa using this) (by simpa using h) (by simpa using he)]
   rfl
theorem jjx {k:Ky}:∀ (ls:List Ln),(∀ j (h:j<ls.length),ls[j].k≠k)→idx k ls=none
 | [],_=>rfl
 | l :: r,hn=>by
  unfold idx
  rw [if_neg (by have:=hn 0 (by simp);simpa using this),jjx r (fun j hj=>by have:=hn (j+1) (by simp;omega);simpa using this)]
  rfl
theorem jky (a b:Ky)(w:World):(Op.equalIn 10000 63 (.agg #[.int .u8 a.k0,.int .u8 a.k1,.int .u8 a.k2,.int .u8 a.k3,.int .u8 a.k4,.int .u8 a.k5,.int .u8 a.k6,.int .u8 a.k7]) (.agg #[.int .u8 b.k0,.int .u8 b.k1,.int .u8 b.k2,.int .u8 b.k3,.int .u8 b.k4,.int .u8 b.k5,.int .u8 b.k6,.int .u8 b.k7])).run Tryz.prog w=.ok (decide (a=b)) w:=by
 have u5:=Tryz.underlying5
 have a5:=Tryz.isAgg5
 have z5:=Tryz.sizeOf5
 obtain⟨a0,a1,a2,a3,a4,a5',a6,a7⟩:=a
 obtain⟨b0,b1,b2,b3,b4,b5,b6,b7⟩:=b
 rw [show (10000:Nat)=9999+1 from rfl,Op.equalIn]
 simp only [Sem.run_bind,run_underlying Tryz.underlying63,Result.andThen_ok]
 simp only [Std.Legacy.Range.forIn_eq_forIn_range',Std.Legacy.Range.size,Nat.sub_zero,Nat.add_sub_cancel,Nat.div_one,List.range'_succ,List.range'_zero,List.forIn_cons,List.forIn_nil]
 go_simp
 repeat' split
 all_goals simp_all
theorem jbd (bb base:Nat)(lv:Value)(B:Bk)(k:Ky)(w:World)(h:BookAt w bb base lv B)(hl:B.ls.length≤12) :
  Calls Tryz.prog 89 #[.pointer (some ⟨bb,0,none⟩),.agg #[.int .u8 k.k0,.int .u8 k.k1,.int .u8 k.k2,.int .u8 k.k3,.int .u8 k.k4,.int .u8 k.k5,.int .u8 k.k6,.int .u8 k.k7]] w fun e w'=>e=.returned (.int .i64 (idxI k B.ls))∧Below w.heap.size w w':=by
 obtain⟨a,c,rfl⟩:=ja8 h.ho
 have a1:=cellB h.hb
 have HB:=hide h
 have HL:=hide hl
 have hl':(B.ls.length:Int)≤12:=by omega
 clear h hl
 obtain⟨W0,hW0⟩:∃ W0,W0=w.alloc (.cells #[.int .u8 k.k0,.int .u8 k.k1,.int .u8 k.k2,.int .u8 k.k3,.int .u8 k.k4,.int .u8 k.k5,.int .u8 k.k6,.int .u8 k.k7] 63):=⟨_,rfl⟩
 have hbx:W0.heap[w.heap.size]?=some (.cells #[.int .u8 k.k0,.int .u8 k.k1,.int .u8 k.k2,.int .u8 k.k3,.int .u8 k.k4,.int .u8 k.k5,.int .u8 k.k6,.int .u8 k.k7] 63):=hW0▸ja1 _ _
 have hB0:Below w.heap.size w W0:=hW0▸(Below.refl _ w).alloc (Nat.le_refl _) _
 have hW0s:=hB0.size
 go_enter Tryz.func89,Tryz.ntmps89
 go_wp2
 rw [←hW0]
 go_loopw [5] (fun s5 wr=>∃ i:Nat,i≤B.ls.length∧s5=.int .i64 i∧(∀ j (h:j<B.ls.length),j<i→B.ls[j].k≠k)∧Below W0.heap.size W0 wr) (fun s5 _=>B.ls.length - (intOf s5).toNat)
 case atStart=>exact⟨0,Nat.zero_le _,rfl,fun j _ h=>absurd h (Nat.not_lt_zero _),Below.refl _ _⟩
 case round=>
  obtain⟨i,hi,rfl,hne,hbr⟩:=hrel
  have hbw:Below w.heap.size w wr:=hB0.trans (hbr.mono hW0s)
  have b1:=(hbw.block bb (ltB HB.out.hb)).trans HB.out.hb
  have b2:=(hbr.block _ (ltB hbx)).trans hbx
  have c1:=cellB b1
  by_cases hlt:i<B.ls.length
  ·obtain⟨g,gc,hv,_,hgl⟩:=HB.out.ho.form (by omega)
   injection hv with e1 _ e2
   subst e1 e2
   obtain⟨l,hle⟩:∃ l,l=B.ls[i]:=⟨_,rfl⟩
   have cc:∀ j,j<13→wr.cell? ⟨g,i * 13+j,none⟩=(lnc l)[j]?:=fun j hj=>(hbw.cell (p:=⟨g,i * 13+j,none⟩) hgl).trans (by rw [hle];exact HB.out.cells i hlt j hj)
   have d0:=cc 0 (by omega)
   have d1:=cc 1 (by omega)
   have d2:=cc 2 (by omega)
   have d3:=cc 3 (by omega)
   have d4:=cc 4 (by omega)
   have d5:=cc 5 (by omega)
   have d6:=cc 6 (by omega)
   have d7:=cc 7 (by omega)
   rw [Nat.add_zero] at d0
   simp only [lnc,List.getElem?_cons_zero,List.getElem?_cons_succ] at d0 d1 d2 d3 d4 d5 d6 d7
   have x0:=cellB b2
   have hlt':(i:Int)<(B.ls.length:Int):=by omega
   have HNE:=hide hne
   have HLE:=hide hle
   have HBW:=hide hbw
   have HBR:=hide hbr
   clear hne hle hbw hbr cc a1
   have hkc:=jky l.k k
   by_cases hk:l.k=k
   ·rw [decide_eq_true hk] at hkc
    have HK:=hide hk
    clear hk
    go_wp2_with fail
    go_region
    all_goals go_wp2
    all_goals go_ret
    all_goals refine⟨?_,HBW.out.drew⟩
    all_goals unfold idxI
    all_goals rw [jdb B.ls i HNE.out hlt (by rw [←HLE.out];exact HK.out)]
    all_goals rfl
   ·rw [decide_eq_false hk] at hkc
    have HN2:Hid (∀ j (h:j<B.ls.length),j<i+1→B.ls[j].k≠k):=hide (fun j hj hji=>by
      rcases Nat.lt_or_ge j i with h | h
      · exact HNE.out j hj h
      · have e:j=i:=by omega
        subst e
        rw [←HLE.out]
        exact hk)
    clear hk
    go_wp2_with fail
    go_region
    all_goals go_wp2
    all_goals go_roundw
    all_goals first | (exact⟨i+1,by omega,by go_num,HN2.out,HBR.out.drew⟩) | (simp [intOf];omega)
  ·obtain rfl:i=B.ls.length:=by omega
   have hlt':¬(B.ls.length:Int)<(B.ls.length:Int):=by omega
   clear a1
   go_wp2
   go_ret
   refine⟨?_,hbw⟩
   unfold idxI
   rw [jjx B.ls (fun j hj=>hne j hj hj)]
   rfl
structure Ln.ok (l:Ln):Prop where
 kd:jaL l.kd l.x l.y
 x:0≤l.x∧l.x≤18446744073709551615
 y:0≤l.y∧l.y≤18446744073709551615
 at_:0≤l.at_∧l.at_≤18446744073709551615
 in_:0≤l.in_∧l.in_≤18446744073709551615
theorem Ln.ok.yp {l:Ln}(h:l.ok)(hk:¬l.kd=1):1≤l.y:=by rcases h.kd with h | h;exact absurd h.1 hk;exact h.2
structure LnAt (w:World)(g i:Nat)(l:Ln):Prop where
 c0:w.cell? ⟨g,i * 13,none⟩=some (.int .u8 l.k.k0)
 c1:w.cell? ⟨g,i * 13+1,none⟩=some (.int .u8 l.k.k1)
 c2:w.cell? ⟨g,i * 13+2,none⟩=some (.int .u8 l.k.k2)
 c3:w.cell? ⟨g,i * 13+3,none⟩=some (.int .u8 l.k.k3)
 c4:w.cell? ⟨g,i * 13+4,none⟩=some (.int .u8 l.k.k4)
 c5:w.cell? ⟨g,i * 13+5,none⟩=some (.int .u8 l.k.k5)
 c6:w.cell? ⟨g,i * 13+6,none⟩=some (.int .u8 l.k.k6)
 c7:w.cell? ⟨g,i * 13+7,none⟩=some (.int .u8 l.k.k7)
 c8:w.cell? ⟨g,i * 13+8,none⟩=some (.int .u8 l.kd)
 c9:w.cell? ⟨g,i * 13+9,none⟩=some (.int .u64 l.x)
 c10:w.cell? ⟨g,i * 13+10,none⟩=some (.int .u64 l.y)
 c11:w.cell? ⟨g,i * 13+11,none⟩=some (.int .u64 l.at_)
 c12:w.cell? ⟨g,i * 13+12,none⟩=some (.int .u64 l.in_)
theorem BookAt.line {w:World}{bb base g cap n:Nat}{B:Bk}(h:BookAt w bb base (.slice (some ⟨g,0,none⟩) n cap) B){i:Nat}{l:Ln}(hi:B.ls[i]?=some l):LnAt w g i l:=by
 obtain⟨hlt,rfl⟩:=List.getElem?_eq_some_iff.1 hi
 have c:=h.cells i hlt
 exact⟨c 0 (by omega),c 1 (by omega),c 2 (by omega),c 3 (by omega),c 4 (by omega),c 5 (by omega),c 6 (by omega),c 7 (by omega),c 8 (by omega),c 9 (by omega),c 10 (by omega),c 11 (by omega),c 12 (by omega)⟩
theorem BookAt.open {w:World}{bb base:Nat}{lv:Value}{B:Bk}(h:BookAt w bb base lv B){i:Nat}{l:Ln}(hi:B.ls[i]?=some l):∃ g cap,lv=.slice (some ⟨g,0,none⟩) B.ls.length cap∧base≤g∧g<w.heap.size∧LnAt w g i l∧i<B.ls.length:=by
 have hlt:=(List.getElem?_eq_some_iff.1 hi).1
 obtain⟨g,cap,hv,hg,hgl⟩:=h.ho.form (by omega)
 subst hv
 exact⟨g,cap,rfl,hg,hgl,h.line hi,hlt⟩
theorem jd1 (bb base:Nat)(lv:Value)(B:Bk)(i:Nat)(l:Ln)(w:World)(h:BookAt w bb base lv B)(hi:B.ls[i]?=some l)(hl:B.ls.length≤12)(ho:l.ok)(hT:0≤B.time∧B.time≤18446744073709551615) :
  Calls Tryz.prog 90 #[.pointer (some ⟨bb,0,none⟩),.int .i64 i] w fun e w'=>e=.returned (.tuple #[.int .u64 (jae B.time l).1,.int .u64 (jae B.time l).2])∧Below w.heap.size w w':=by
 obtain⟨g,cap,rfl,_,hgl,L,hlt⟩:=h.open hi
 obtain⟨d0,d1,d2,d3,d4,d5,d6,d7,d8,d9,d10,d11,d12⟩:=L
 have a1:=cellB h.hb
 have hbl:=ltB h.hb
 have hlt':(i:Int)<(B.ls.length:Int):=by omega
 have hl':(B.ls.length:Int)≤12:=by omega
 have hi0:(0:Int)≤(i:Int):=by omega
 obtain⟨n,hn⟩:∃ n,n=B.ls.length:=⟨_,rfl⟩
 have b1:=fun o=>upC h.hb o 1
 rw [←hn] at hlt' hl' a1 b1
 have HH:=hide h
 have HO:=hide ho
 clear h hl hi hn hlt
 by_cases hk:l.kd=1
 ·have e:jae B.time l=(l.at_,0):=by unfold jae;rw [if_pos hk]
  rw [e]
  rw [hk] at d8
  clear e
  go_enter Tryz.func90,Tryz.ntmps90
  go_wp2_with fail
  go_ret2
  exact⟨rfl,(Below.refl _ w).alloc (Nat.le_refl _) _⟩
 ·have hy:=HO.out.yp hk
  have hyr:=HO.out.y
  have hkb:(l.kd==1)=false:=by simpa using hk
  have hdt:B.time.tdiv l.y=B.time / l.y:=Int.tdiv_eq_ediv_of_nonneg (by omega)
  have hd0:0≤B.time / l.y:=Int.ediv_nonneg (by omega) (by omega)
  have hd1:B.time / l.y≤B.time:=Int.ediv_le_self _ (by omega)
  have hdw:IntKind.u64.wrap (B.time / l.y)=B.time / l.y:=by rw [IntKind.wrap_u64];omega
  have hyn:¬l.y=0:=by omega
  obtain⟨q,hq⟩:∃ q,q=B.time / l.y:=⟨_,rfl⟩
  by_cases hin:l.in_=B.time / l.y
  ·have e:jae B.time l=(l.at_,q):=by unfold jae;rw [if_neg hk,if_pos hin,hq]
   rw [e]
   rw [←hq] at hdt hdw hin
   have hinb:(l.in_==q)=true:=by simpa using hin
   clear e hd0 hd1 hin hq
   go_enter Tryz.func90,Tryz.ntmps90
   go_wp2_with fail
   go_region
   all_goals go_wp2
   all_goals go_ret2
   all_goals exact⟨rfl,((Below.refl _ w).alloc (Nat.le_refl _) _).drew⟩
  ·have e:jae B.time l=(0,q):=by unfold jae;rw [if_neg hk,if_neg hin,hq]
   rw [e]
   rw [←hq] at hdt hdw hin
   have hinb:(l.in_==q)=false:=by simpa using hin
   clear e hd0 hd1 hin hq
   go_enter Tryz.func90,Tryz.ntmps90
   go_wp2_with fail
   go_region
   all_goals go_wp2
   all_goals go_ret2
   all_goals exact⟨rfl,((Below.refl _ w).alloc (Nat.le_refl _) _).drew⟩
theorem BookAt.kept {w w':World}{bb base:Nat}{lv:Value}{B:Bk}(h:BookAt w bb base lv B)(hk:∀ k,k=bb∨lv.ownBlock=some k→w'.heap[k]?=w.heap[k]?):BookAt w' bb base lv B:=
 ⟨(hk bb (Or.inl rfl)).trans h.hb,ja7 h.ho (fun g hg=>hk g (Or.inr hg))⟩
theorem BookAt.below {w w':World}{bb base:Nat}{lv:Value}{B:Bk}(h:BookAt w bb base lv B){N:Nat}(hb:Below N w w')(hN:w.heap.size≤N):BookAt w' bb base lv B:=
 h.kept (fun k hk=>hb.block k (Nat.lt_of_lt_of_le (by rcases hk with rfl | hk;exact ltB h.hb;exact (ja5 h.ho hk).2) hN))
def tellM (B:Bk)(now:Int):Bk:=⟨if B.time<now then now else B.time,B.ls⟩
theorem jlw (bb base:Nat)(lv:Value)(B:Bk)(now:Int)(w:World)(h:BookAt w bb base lv B) :
  Calls Tryz.prog 54 #[.pointer (some ⟨bb,0,none⟩),.int .u64 now] w fun e w'=>e=.returned (.tuple #[])∧BookAt w' bb base lv (tellM B now)∧Keep (fun b=>b=bb) w w':=by
 have a1:=cellB h.hb
 have a2:=ja2 h.hb
 have hne:∀ g,lv.ownBlock=some g→g≠bb:=fun g hg=>jab h.ho hg h.hb (by decide)
 obtain⟨a,c,rfl⟩:=ja8 h.ho
 by_cases ht:B.time<now
 ·have e:tellM B now=⟨now,B.ls⟩:=by unfold tellM;rw [if_pos ht]
  rw [e]
  have HH:=hide h
  have HN:=hide hne
  clear h hne e
  go_enter Tryz.func54,Tryz.ntmps54
  go_wp2
  go_end0
  refine⟨rfl,⟨by simpa using ja4 HH.out.hb 1 (.int .u64 now),ja7 HH.out.ho (fun g hg=>ja0 (HN.out g hg) _ _)⟩,?_⟩
  exact Keep.set (S:=fun b=>b=bb) (b:=bb) (Keep.refl _ w) (Or.inl rfl) _ _
 ·have e:tellM B now=B:=by unfold tellM;rw [if_neg ht]
  rw [e]
  have HH:=hide h
  clear h hne e
  go_enter Tryz.func54,Tryz.ntmps54
  go_wp2
  go_end0
  exact⟨rfl,HH.out,Keep.refl _ _⟩
structure Bk.ok (B:Bk):Prop where
 time:0≤B.time∧B.time≤18446744073709551615
 len:B.ls.length≤12
 ln:∀ l∈B.ls,l.ok
abbrev rqv (q:Rq):Value:=.agg #[.int .u8 q.op,.int .u8 q.k0,.int .u8 q.k1,.int .u8 q.k2,.int .u8 q.k3,.int .u8 q.k4,.int .u8 q.k5,.int .u8 q.k6,.int .u8 q.k7,.int .u8 q.kd,.int .u64 q.x,.int .u64 q.y,.int .u64 q.n]
def AskPost (bb base:Nat)(lv:Value)(B:Bk)(q:Rq)(w:World)(e:Ending)(w':World):Prop:=
 ∃ lv',e=.returned (.agg #[.int .u8 (askM B q).2.c,.int .u64 (askM B q).2.a,.int .u64 (askM B q).2.b])∧BookAt w' bb base lv' (askM B q).1∧Keep (fun b=>b=bb∨lv.ownBlock=some b) w w'∧(∀ g,lv'.ownBlock=some g→lv.ownBlock=some g∨w.heap.size≤g)
theorem AskPost.mk' {w u:World}{bb base:Nat}{lv lv':Value}{B B':Bk}{q:Rq}{c a b:Int}{R:Nat}(h:BookAt u bb base lv' B')(he:askM B q=(B',⟨c,a,b⟩))(hR:w.heap.size≤R)(h1:bb≠R)(h2:∀ g,lv'.ownBlock=some g→g≠R)(hk:Keep (fun b=>b=bb∨lv.ownBlock=some b) w u)(hl:∀ g,lv'.ownBlock=some g→lv.ownBlock=some g∨w.heap.size≤g) :
  AskPost bb base lv B q w (.returned (.agg #[.int .u8 c,.int .u64 a,.int .u64 b])) (((u.setCell ⟨R,0,none⟩ (.int .u8 c)).setCell ⟨R,1,none⟩ (.int .u64 a)).setCell ⟨R,2,none⟩ (.int .u64 b)):=by
 refine⟨lv',by rw [he],?_,((hk.set (Or.inr hR) _ _).set (Or.inr hR) _ _).set (Or.inr hR) _ _,hl⟩
 rw [he]
 refine h.kept (fun k hk=>?_)
 have hne:k≠R:=by
  rcases hk with rfl | hk
  ·exact h1
  ·exact h2 k hk
 rw [ja0 hne,ja0 hne,ja0 hne]
theorem jjB (bb base:Nat)(lv:Value)(B:Bk)(q:Rq)(w:World)(h:BookAt w bb base lv B)(hB:B.ok)(_hq:q.ok)(ho:q.op=5) :
  Calls Tryz.prog 61 #[.pointer (some ⟨bb,0,none⟩),rqv q] w (AskPost bb base lv B q w):=by
 obtain⟨W,hW⟩:∃ W,W=(w.alloc (.cells #[.int .u8 q.op,.int .u8 q.k0,.int .u8 q.k1,.int .u8 q.k2,.int .u8 q.k3,.int .u8 q.k4,.int .u8 q.k5,.int .u8 q.k6,.int .u8 q.k7,.int .u8 q.kd,.int .u64 q.x,.int .u64 q.y,.int .u64 q.n] 65)).alloc (.cells #[.int .u8 0,.int .u64 0,.int .u64 0] 40):=⟨_,rfl⟩
 have hq0:W.heap[w.heap.size]?=some (.cells #[.int .u8 q.op,.int .u8 q.k0,.int .u8 q.k1,.int .u8 q.k2,.int .u8 q.k3,.int .u8 q.k4,.int .u8 q.k5,.int .u8 q.k6,.int .u8 q.k7,.int .u8 q.kd,.int .u64 q.x,.int .u64 q.y,.int .u64 q.n] 65):=hW▸upB (ja1 _ _) _
 have hr0:W.heap[w.heap.size+1]?=some (.cells #[.int .u8 0,.int .u64 0,.int .u64 0] 40):=hW▸heapN (by simp)
 have hBW:Below w.heap.size w W:=hW▸((Below.refl _ w).alloc (Nat.le_refl _) _).alloc (by simp) _
 have hAW:=h.below hBW (Nat.le_refl _)
 have hbl:=ltB h.hb
 have hgl:∀ g,lv.ownBlock=some g→g<w.heap.size:=fun g hg=>(ja5 h.ho hg).2
 have h84:=jbd bb base lv B q.key W hAW hB.len
 have hl12:=hB.len
 have hTm:=hB.time
 have em:askM B q=(B,⟨1,0,0⟩):=by unfold askM;rw [if_neg (by omega),if_pos ho]
 have HE:=hide em
 clear em
 have H84:=hide h84
 have HAW:=hide hAW
 have HQ0:=hide hq0
 have HR0:=hide hr0
 have HBW:=hide hBW
 have HGL:=hide hgl
 have HB:=hide hB
 have HH:=hide h
 clear h84 hAW hq0 hr0 hBW hgl hB h
 have HO:=hide ho
 clear ho
 go_enter Tryz.func61,Tryz.ntmps61
 go_wp2_with fail
 have h84:=H84.out
 rw [hW] at h84
 refine h84.mono ?_
 rw [←hW]
 rintro e w1 ⟨rfl,hb1⟩
 have hA1:=HAW.out.below hb1 (Nat.le_refl _)
 have hq1:=(hb1.block _ (ltB HQ0.out)).trans HQ0.out
 have hr1:=(hb1.block _ (ltB HR0.out)).trans HR0.out
 have x0:=cellB hq1
 have x1:=cellB hr1
 have x2:=ja2 hr1
 have y1:=cellB hA1.hb
 have HA1:=hide hA1
 have HR1:=hide hr1
 have HQ1:=hide hq1
 have HBE:=hide (HBW.out.trans (hb1.mono HBW.out.size))
 have hbR:bb≠w.heap.size+1:=by omega
 have hbR':w.heap.size+1≠bb:=by omega
 clear h84 hW hA1 hq1 hr1 hb1
 have ho:=HO.out
 obtain⟨ii,hii⟩:∃ ii,ii=idxI q.key B.ls:=⟨_,rfl⟩
 rw [←hii]
 clear hii
 go_wp2_with fail
 exact bodyPost_ret (v:=.agg #[.int .u8 1,.int .u64 0,.int .u64 0]) (by simp [results,Tryz.results61,go_sem,x1]) rfl (AskPost.mk' HA1.out HE.out (Nat.le_succ _) hbR (fun g hg=>by have:=HGL.out g hg;omega) (Keep.of_below HBE.out) (fun g hg=>Or.inl hg))
theorem jk9 (bb base:Nat)(lv:Value)(B:Bk)(q:Rq)(w:World)(h:BookAt w bb base lv B)(hB:B.ok)(_hq:q.ok)(ho:q.op=6) :
  Calls Tryz.prog 61 #[.pointer (some ⟨bb,0,none⟩),rqv q] w (AskPost bb base lv B q w):=by
 obtain⟨W,hW⟩:∃ W,W=(w.alloc (.cells #[.int .u8 q.op,.int .u8 q.k0,.int .u8 q.k1,.int .u8 q.k2,.int .u8 q.k3,.int .u8 q.k4,.int .u8 q.k5,.int .u8 q.k6,.int .u8 q.k7,.int .u8 q.kd,.int .u64 q.x,.int .u64 q.y,.int .u64 q.n] 65)).alloc (.cells #[.int .u8 0,.int .u64 0,.int .u64 0] 40):=⟨_,rfl⟩
 have hq0:W.heap[w.heap.size]?=some (.cells #[.int .u8 q.op,.int .u8 q.k0,.int .u8 q.k1,.int .u8 q.k2,.int .u8 q.k3,.int .u8 q.k4,.int .u8 q.k5,.int .u8 q.k6,.int .u8 q.k7,.int .u8 q.kd,.int .u64 q.x,.int .u64 q.y,.int .u64 q.n] 65):=hW▸upB (ja1 _ _) _
 have hr0:W.heap[w.heap.size+1]?=some (.cells #[.int .u8 0,.int .u64 0,.int .u64 0] 40):=hW▸heapN (by simp)
 have hBW:Below w.heap.size w W:=hW▸((Below.refl _ w).alloc (Nat.le_refl _) _).alloc (by simp) _
 have hAW:=h.below hBW (Nat.le_refl _)
 have hbl:=ltB h.hb
 have hgl:∀ g,lv.ownBlock=some g→g<w.heap.size:=fun g hg=>(ja5 h.ho hg).2
 have h84:=jbd bb base lv B q.key W hAW hB.len
 have hl12:=hB.len
 have hTm:=hB.time
 have em:askM B q=(B,⟨1,B.time,0⟩):=by unfold askM;rw [if_neg (by omega),if_neg (by omega),if_pos ho]
 have HE:=hide em
 clear em
 have H84:=hide h84
 have HAW:=hide hAW
 have HQ0:=hide hq0
 have HR0:=hide hr0
 have HBW:=hide hBW
 have HGL:=hide hgl
 have HB:=hide hB
 have HH:=hide h
 clear h84 hAW hq0 hr0 hBW hgl hB h
 have HO:=hide ho
 clear ho
 go_enter Tryz.func61,Tryz.ntmps61
 go_wp2_with fail
 have h84:=H84.out
 rw [hW] at h84
 refine h84.mono ?_
 rw [←hW]
 rintro e w1 ⟨rfl,hb1⟩
 have hA1:=HAW.out.below hb1 (Nat.le_refl _)
 have hq1:=(hb1.block _ (ltB HQ0.out)).trans HQ0.out
 have hr1:=(hb1.block _ (ltB HR0.out)).trans HR0.out
 have x0:=cellB hq1
 have x1:=cellB hr1
 have x2:=ja2 hr1
 have y1:=cellB hA1.hb
 have HA1:=hide hA1
 have HR1:=hide hr1
 have HQ1:=hide hq1
 have HBE:=hide (HBW.out.trans (hb1.mono HBW.out.size))
 have hbR:bb≠w.heap.size+1:=by omega
 have hbR':w.heap.size+1≠bb:=by omega
 clear h84 hW hA1 hq1 hr1 hb1
 have ho:=HO.out
 obtain⟨ii,hii⟩:∃ ii,ii=idxI q.key B.ls:=⟨_,rfl⟩
 rw [←hii]
 clear hii
 go_wp2_with fail
 exact bodyPost_ret (v:=.agg #[.int .u8 1,.int .u64 B.time,.int .u64 0]) (by simp [results,Tryz.results61,go_sem,x1]) rfl (AskPost.mk' HA1.out HE.out (Nat.le_succ _) hbR (fun g hg=>by have:=HGL.out g hg;omega) (Keep.of_below HBE.out) (fun g hg=>Or.inl hg))
theorem jd0 (bb base:Nat)(lv:Value)(B:Bk)(q:Rq)(w:World)(h:BookAt w bb base lv B)(hB:B.ok)(_hq:q.ok)(ho:q.op=2∨q.op=3∨q.op=4)(hi:idx q.key B.ls=none) :
  Calls Tryz.prog 61 #[.pointer (some ⟨bb,0,none⟩),rqv q] w (AskPost bb base lv B q w):=by
 obtain⟨W,hW⟩:∃ W,W=(w.alloc (.cells #[.int .u8 q.op,.int .u8 q.k0,.int .u8 q.k1,.int .u8 q.k2,.int .u8 q.k3,.int .u8 q.k4,.int .u8 q.k5,.int .u8 q.k6,.int .u8 q.k7,.int .u8 q.kd,.int .u64 q.x,.int .u64 q.y,.int .u64 q.n] 65)).alloc (.cells #[.int .u8 0,.int .u64 0,.int .u64 0] 40):=⟨_,rfl⟩
 have hq0:W.heap[w.heap.size]?=some (.cells #[.int .u8 q.op,.int .u8 q.k0,.int .u8 q.k1,.int .u8 q.k2,.int .u8 q.k3,.int .u8 q.k4,.int .u8 q.k5,.int .u8 q.k6,.int .u8 q.k7,.int .u8 q.kd,.int .u64 q.x,.int .u64 q.y,.int .u64 q.n] 65):=hW▸upB (ja1 _ _) _
 have hr0:W.heap[w.heap.size+1]?=some (.cells #[.int .u8 0,.int .u64 0,.int .u64 0] 40):=hW▸heapN (by simp)
 have hBW:Below w.heap.size w W:=hW▸((Below.refl _ w).alloc (Nat.le_refl _) _).alloc (by simp) _
 have hAW:=h.below hBW (Nat.le_refl _)
 have hbl:=ltB h.hb
 have hgl:∀ g,lv.ownBlock=some g→g<w.heap.size:=fun g hg=>(ja5 h.ho hg).2
 have h84:=jbd bb base lv B q.key W hAW hB.len
 have hl12:=hB.len
 have hTm:=hB.time
 have em:askM B q=(B,⟨4,0,0⟩):=by unfold askM;rw [if_neg (by omega),if_neg (by omega),if_neg (by omega),hi]
 have hii:idxI q.key B.ls=-1:=by unfold idxI;rw [hi]
 rw [hii] at h84
 have HE:=hide em
 have o1:(q.op==1)=false:=by simp;omega
 have o5:(q.op==5)=false:=by simp;omega
 have o6:(q.op==6)=false:=by simp;omega
 have p1:¬q.op=1:=by omega
 have p5:¬q.op=5:=by omega
 have p6:¬q.op=6:=by omega
 clear em hi hii ho
 have H84:=hide h84
 have HAW:=hide hAW
 have HQ0:=hide hq0
 have HR0:=hide hr0
 have HBW:=hide hBW
 have HGL:=hide hgl
 have HB:=hide hB
 have HH:=hide h
 clear h84 hAW hq0 hr0 hBW hgl hB h
 go_enter Tryz.func61,Tryz.ntmps61
 go_wp2_with fail
 have h84:=H84.out
 rw [hW] at h84
 refine h84.mono ?_
 rw [←hW]
 rintro e w1 ⟨rfl,hb1⟩
 have hA1:=HAW.out.below hb1 (Nat.le_refl _)
 have hq1:=(hb1.block _ (ltB HQ0.out)).trans HQ0.out
 have hr1:=(hb1.block _ (ltB HR0.out)).trans HR0.out
 have x0:=cellB hq1
 have x1:=cellB hr1
 have x2:=ja2 hr1
 have y1:=cellB hA1.hb
 have HA1:=hide hA1
 have HR1:=hide hr1
 have HQ1:=hide hq1
 have HBE:=hide (HBW.out.trans (hb1.mono HBW.out.size))
 have hbR:bb≠w.heap.size+1:=by omega
 have hbR':w.heap.size+1≠bb:=by omega
 clear h84 hW hA1 hq1 hr1 hb1
 go_wp2_with fail
 exact bodyPost_ret (v:=.agg #[.int .u8 4,.int .u64 0,.int .u64 0]) (by simp [results,Tryz.results61,go_sem,x1]) rfl (AskPost.mk' HA1.out HE.out (Nat.le_succ _) hbR (fun g hg=>by have:=HGL.out g hg;omega) (Keep.of_below HBE.out) (fun g hg=>Or.inl hg))
theorem jjS (bb base:Nat)(lv:Value)(B:Bk)(q:Rq)(w:World)(h:BookAt w bb base lv B)(hB:B.ok)(_hq:q.ok)(ho:q.op=3)(i:Nat)(hi:idx q.key B.ls=some i) :
  Calls Tryz.prog 61 #[.pointer (some ⟨bb,0,none⟩),rqv q] w (AskPost bb base lv B q w):=by
 obtain⟨W,hW⟩:∃ W,W=(w.alloc (.cells #[.int .u8 q.op,.int .u8 q.k0,.int .u8 q.k1,.int .u8 q.k2,.int .u8 q.k3,.int .u8 q.k4,.int .u8 q.k5,.int .u8 q.k6,.int .u8 q.k7,.int .u8 q.kd,.int .u64 q.x,.int .u64 q.y,.int .u64 q.n] 65)).alloc (.cells #[.int .u8 0,.int .u64 0,.int .u64 0] 40):=⟨_,rfl⟩
 have hq0:W.heap[w.heap.size]?=some (.cells #[.int .u8 q.op,.int .u8 q.k0,.int .u8 q.k1,.int .u8 q.k2,.int .u8 q.k3,.int .u8 q.k4,.int .u8 q.k5,.int .u8 q.k6,.int .u8 q.k7,.int .u8 q.kd,.int .u64 q.x,.int .u64 q.y,.int .u64 q.n] 65):=hW▸upB (ja1 _ _) _
 have hr0:W.heap[w.heap.size+1]?=some (.cells #[.int .u8 0,.int .u64 0,.int .u64 0] 40):=hW▸heapN (by simp)
 have hBW:Below w.heap.size w W:=hW▸((Below.refl _ w).alloc (Nat.le_refl _) _).alloc (by simp) _
 have hAW:=h.below hBW (Nat.le_refl _)
 have hbl:=ltB h.hb
 have hgl:∀ g,lv.ownBlock=some g→g<w.heap.size:=fun g hg=>(ja5 h.ho hg).2
 have h84:=jbd bb base lv B q.key W hAW hB.len
 have hl12:=hB.len
 have hTm:=hB.time
 obtain⟨l,hl⟩:∃ l,B.ls[i]?=some l:=⟨_,List.getElem?_eq_getElem (jcR hi)⟩
 have hgd:B.ls.getD i ⟨q.key,0,0,0,0,0⟩=l:=by simp [List.getD,hl]
 have em:askM B q=(B,⟨1,(jae B.time l).1,(jae B.time l).2⟩):=by unfold askM;rw [if_neg (by omega),if_neg (by omega),if_neg (by omega),hi];dsimp only;rw [if_pos ho,hgd]
 have hii:idxI q.key B.ls=(i:Int):=by unfold idxI;rw [hi]
 rw [hii] at h84
 have hi12:(i:Int)≤12:=by have:=jcR hi;omega
 have hi0:(0:Int)≤(i:Int):=by omega
 have hin:¬(i:Int)<0:=by omega
 have hlo:=hB.ln l (List.mem_of_getElem? hl)
 have HE:=hide em
 have HL:=hide hl
 have HLO:=hide hlo
 clear em hi hii hgd hl hlo
 have H84:=hide h84
 have HAW:=hide hAW
 have HQ0:=hide hq0
 have HR0:=hide hr0
 have HBW:=hide hBW
 have HGL:=hide hgl
 have HB:=hide hB
 have HH:=hide h
 clear h84 hAW hq0 hr0 hBW hgl hB h
 have HO:=hide ho
 clear ho
 go_enter Tryz.func61,Tryz.ntmps61
 go_wp2_with fail
 have h84:=H84.out
 rw [hW] at h84
 refine h84.mono ?_
 rw [←hW]
 rintro e w1 ⟨rfl,hb1⟩
 have hA1:=HAW.out.below hb1 (Nat.le_refl _)
 have hq1:=(hb1.block _ (ltB HQ0.out)).trans HQ0.out
 have hr1:=(hb1.block _ (ltB HR0.out)).trans HR0.out
 have x0:=cellB hq1
 have x1:=cellB hr1
 have x2:=ja2 hr1
 have y1:=cellB hA1.hb
 have HA1:=hide hA1
 have HR1:=hide hr1
 have HQ1:=hide hq1
 have HBE:=hide (HBW.out.trans (hb1.mono HBW.out.size))
 have hbR:bb≠w.heap.size+1:=by omega
 have hbR':w.heap.size+1≠bb:=by omega
 clear h84 hW hA1 hq1 hr1 hb1
 have ho:=HO.out
 go_wp2_with fail
 refine (jd1 bb base lv B i l _ HA1.out HL.out hl12 HLO.out hTm).mono ?_
 rintro e w2 ⟨rfl,hb2⟩
 obtain⟨s1,hs1⟩:∃ s1,s1=(jae B.time l).1:=⟨_,rfl⟩
 obtain⟨s2,hs2⟩:∃ s2,s2=(jae B.time l).2:=⟨_,rfl⟩
 have HE2:=HE.out
 rw [←hs1,←hs2] at HE2 ⊢
 have HE3:=hide HE2
 have hlr:w.heap.size+1<w1.heap.size:=ltB HR1.out
 have hr2:=(hb2.block _ hlr).trans HR1.out
 have z1:=cellB hr2
 have z2:=ja2 hr2
 have HA2:=hide (HA1.out.below hb2 (Nat.le_refl _))
 have HBE2:=hide (HBE.out.trans (hb2.mono HBE.out.size))
 clear x0 x1 x2 y1 HE2 hs1 hs2 hb2 hr2
 go_wp2_with fail
 exact bodyPost_ret (v:=.agg #[.int .u8 1,.int .u64 s1,.int .u64 s2]) (by simp [results,Tryz.results61,go_sem,z1]) rfl (AskPost.mk' HA2.out HE3.out (Nat.le_succ _) hbR (fun g hg=>by have:=HGL.out g hg;omega) (Keep.of_below HBE2.out) (fun g hg=>Or.inl hg))
theorem jel (bb base:Nat)(lv:Value)(B:Bk)(i:Nat)(l:Ln)(n:Int)(w:World)(h:BookAt w bb base lv B)(hi:B.ls[i]?=some l)(hl:B.ls.length≤12)(ho:l.ok)(hk:¬l.kd=1)(hn:0≤n∧n≤18446744073709551615)(hT:0≤B.time∧B.time≤18446744073709551615) :
  Calls Tryz.prog 123 #[.pointer (some ⟨bb,0,none⟩),.int .i64 i,.int .u64 n] w fun e w'=>e=.returned (.tuple #[.int .u64 (jaB B.time l n).1,.bool (jaB B.time l n).2.1,.int .u64 (jaB B.time l n).2.2])∧Below w.heap.size w w':=by
 obtain⟨W0,hW0⟩:∃ W0,W0=w.alloc (.cells #[.int .u8 l.k.k0,.int .u8 l.k.k1,.int .u8 l.k.k2,.int .u8 l.k.k3,.int .u8 l.k.k4,.int .u8 l.k.k5,.int .u8 l.k.k6,.int .u8 l.k.k7,.int .u8 l.kd,.int .u64 l.x,.int .u64 l.y,.int .u64 l.at_,.int .u64 l.in_] 151):=⟨_,rfl⟩
 have hbx:W0.heap[w.heap.size]?=some (.cells #[.int .u8 l.k.k0,.int .u8 l.k.k1,.int .u8 l.k.k2,.int .u8 l.k.k3,.int .u8 l.k.k4,.int .u8 l.k.k5,.int .u8 l.k.k6,.int .u8 l.k.k7,.int .u8 l.kd,.int .u64 l.x,.int .u64 l.y,.int .u64 l.at_,.int .u64 l.in_] 151):=hW0▸ja1 _ _
 have hB0:Below w.heap.size w W0:=hW0▸(Below.refl _ w).alloc (Nat.le_refl _) _
 have hA0:=h.below hB0 (Nat.le_refl _)
 have h85:=jd1 bb base lv B i l W0 hA0 hi hl ho hT
 obtain⟨g,cap,rfl,_,hgl,L,hlt⟩:=h.open hi
 obtain⟨d0,d1,d2,d3,d4,d5,d6,d7,d8,d9,d10,d11,d12⟩:=L
 have a1:=cellB h.hb 0
 have hlt':(i:Int)<(B.ls.length:Int):=by omega
 have hl':(B.ls.length:Int)≤12:=by omega
 have hi0:(0:Int)≤(i:Int):=by omega
 have hx:=ho.x
 have hy:=ho.y
 have hyp:=ho.yp hk
 have hs2:(jae B.time l).2=B.time / l.y:=by unfold jae;rw [if_neg hk];split <;> rfl
 have hs1:0≤(jae B.time l).1∧(jae B.time l).1≤18446744073709551615:=by
  have:=ho.at_
  unfold jae
  rw [if_neg hk]
  split <;> dsimp only <;> omega
 have hd0:0≤B.time / l.y:=Int.ediv_nonneg (by omega) (by omega)
 have hd1:B.time / l.y≤B.time:=Int.ediv_le_self _ (by omega)
 have hwm:jaB B.time l n=if (jae B.time l).1+n≤l.x then ((jae B.time l).1+n,true,0) else if l.x<n then (0,false,18446744073709551615) else (0,false,ja6 (((jae B.time l).2+1) * l.y)):=by
  unfold jaB;rw [hs2]
 obtain⟨C,hC⟩:∃ C,C=(jae B.time l).1:=⟨_,rfl⟩
 obtain⟨Wn,hWn⟩:∃ Wn,Wn=(jae B.time l).2:=⟨_,rfl⟩
 rw [←hC,←hWn] at h85 hwm
 rw [←hC] at hs1
 have hwr:0≤Wn∧Wn≤18446744073709551615:=by rw [hWn,hs2];omega
 obtain⟨m,hm⟩:∃ m,m=B.ls.length:=⟨_,rfl⟩
 rw [←hm] at hlt' hl' a1
 have hp1:=jbh C n
 have hp2:=jbh Wn 1
 have ht1:=jdc (ja6 (Wn+1)) l.y
 have H85:=hide h85
 have HW:=hide hwm
 have HB0:=hide hB0
 have HBX:=hide hbx
 have HP1:=hide hp1
 have HP2:=hide hp2
 have HT1:=hide ht1
 clear h85 hwm hB0 hbx hp1 hp2 ht1 hC hWn hm hi hl hlt hA0 h ho hs2 hd0 hd1
 go_enter Tryz.func123,Tryz.ntmps123
 go_wp2_with fail
 rw [←hW0]
 clear hW0
 refine H85.out.mono ?_
 rintro e w1 ⟨rfl,hb1⟩
 have hbx1:=(hb1.block _ (ltB HBX.out)).trans HBX.out
 have x1:=cellB hbx1
 have HBW:=hide (HB0.out.trans (hb1.mono HB0.out.size))
 clear hb1 hbx1 d0 d1 d2 d3 d4 d5 d6 d7 d8 d9 d10 d11 d12 a1
 go_wp2_with fail
 refine (HP1.out _ hs1 hn).mono ?_
 rintro e w2 ⟨rfl,rfl⟩
 by_cases c1:C+n≤l.x
 ·have e:=HW.out
  rw [if_pos c1] at e
  have HE:=hide e
  have e1:ja6 (C+n)=C+n:=by unfold ja6;rw [if_pos (by omega)]
  have e2:decide (C+n≤18446744073709551615)=true:=by simp;omega
  rw [e1,e2]
  clear e e1 e2 HW
  go_wp2
  exact bodyPost_ret (v:=.tuple #[.int .u64 (C+n),.bool true,.int .u64 0]) (by simp [results,Tryz.results123,go_sem]) rfl ⟨by rw [HE.out],HBW.out⟩
 ·obtain⟨o1,ho1⟩:∃ o1,o1=decide (C+n≤18446744073709551615):=⟨_,rfl⟩
  obtain⟨S1,hS1⟩:∃ S1,S1=ja6 (C+n):=⟨_,rfl⟩
  have hS1n:o1=true→¬S1≤l.x:=fun h=>by
   rw [ho1] at h
   have:=of_decide_eq_true h
   rw [hS1];unfold ja6;rw [if_pos this];exact c1
  rw [←ho1,←hS1]
  clear ho1 hS1
  by_cases c2:l.x<n
  ·have e:=HW.out
   rw [if_neg c1,if_pos c2] at e
   have HE:=hide e
   clear e HW c1
   cases o1 with
   | true=>
    have hs:=hS1n rfl
    clear hS1n
    go_wp2
    exact bodyPost_ret (v:=.tuple #[.int .u64 0,.bool false,.int .u64 18446744073709551615]) (by simp [results,Tryz.results123,go_sem]) rfl ⟨by rw [HE.out],HBW.out⟩
   | false=>
    clear hS1n
    go_wp2
    exact bodyPost_ret (v:=.tuple #[.int .u64 0,.bool false,.int .u64 18446744073709551615]) (by simp [results,Tryz.results123,go_sem]) rfl ⟨by rw [HE.out],HBW.out⟩
  ·have e:=HW.out
   rw [if_neg c1,if_neg c2] at e
   have HE:=hide e
   have hor:0≤ja6 (Wn+1)∧ja6 (Wn+1)≤18446744073709551615:=by unfold ja6;split <;> omega
   clear e HW c1
   cases o1 with
   | true=>
    have hs:=hS1n rfl
    clear hS1n
    go_wp2_with fail
    refine (HP2.out _ hwr (by omega)).mono ?_
    rintro e w3 ⟨rfl,rfl⟩
    go_wp2_with fail
    refine (HT1.out _ hor (by omega)).mono ?_
    rintro e w4 ⟨rfl,rfl⟩
    by_cases c3:Wn+1≤18446744073709551615∧(Wn+1) * l.y≤18446744073709551615
    ·have e1:ja6 (Wn+1)=Wn+1:=by unfold ja6;rw [if_pos c3.1]
     have e2:decide (Wn+1≤18446744073709551615)=true:=by simpa using c3.1
     have e3:decide ((Wn+1) * l.y≤18446744073709551615)=true:=by simpa using c3.2
     rw [e1,e2,e3]
     clear e1 e2 e3 c3
     obtain⟨R,hR⟩:∃ R,R=ja6 ((Wn+1) * l.y):=⟨_,rfl⟩
     have HE2:=HE.out
     rw [←hR] at HE2 ⊢
     have HE3:=hide HE2
     clear HE2 hR
     go_wp2
     exact bodyPost_ret (v:=.tuple #[.int .u64 0,.bool false,.int .u64 R]) (by simp [results,Tryz.results123,go_sem]) rfl ⟨by rw [HE3.out],HBW.out⟩
    ·have hNV:ja6 ((Wn+1) * l.y)=18446744073709551615:=by
      unfold ja6
      split
      ·rename_i hle
       have hge:(Wn+1) * 1≤(Wn+1) * l.y:=Int.mul_le_mul_of_nonneg_left hyp (by omega)
       exact absurd ⟨by omega,hle⟩ c3
      ·rfl
     have HE2:=HE.out
     rw [hNV] at HE2
     have HE3:=hide HE2
     have hoo:decide (Wn+1≤18446744073709551615)=false∨(decide (Wn+1≤18446744073709551615)=true∧decide (ja6 (Wn+1) * l.y≤18446744073709551615)=false):=by
      by_cases h1:Wn+1≤18446744073709551615
      ·right
       refine⟨by simpa using h1,?_⟩
       have e1:ja6 (Wn+1)=Wn+1:=by unfold ja6;rw [if_pos h1]
       rw [e1]
       simpa using fun h2=>c3 ⟨h1,h2⟩
      ·left;simpa using h1
     obtain⟨q1,hq1⟩:∃ q1,q1=decide (Wn+1≤18446744073709551615):=⟨_,rfl⟩
     obtain⟨q2,hq2⟩:∃ q2,q2=decide (ja6 (Wn+1) * l.y≤18446744073709551615):=⟨_,rfl⟩
     obtain⟨R1,hR1⟩:∃ R1,R1=ja6 (ja6 (Wn+1) * l.y):=⟨_,rfl⟩
     obtain⟨R2,hR2⟩:∃ R2,R2=ja6 (Wn+1):=⟨_,rfl⟩
     rw [←hq1,←hq2] at hoo
     rw [←hR1,←hq2,←hq1,←hR2]
     clear hq1 hq2 HE2 hNV c3 hR1 hR2 hor
     rcases hoo with rfl | ⟨rfl,rfl⟩
     all_goals go_wp2
     all_goals exact bodyPost_ret (v:=.tuple #[.int .u64 0,.bool false,.int .u64 18446744073709551615]) (by simp [results,Tryz.results123,go_sem]) rfl ⟨by rw [HE3.out],HBW.out⟩
   | false=>
    clear hS1n
    go_wp2_with fail
    refine (HP2.out _ hwr (by omega)).mono ?_
    rintro e w3 ⟨rfl,rfl⟩
    go_wp2_with fail
    refine (HT1.out _ hor (by omega)).mono ?_
    rintro e w4 ⟨rfl,rfl⟩
    by_cases c3:Wn+1≤18446744073709551615∧(Wn+1) * l.y≤18446744073709551615
    ·have e1:ja6 (Wn+1)=Wn+1:=by unfold ja6;rw [if_pos c3.1]
     have e2:decide (Wn+1≤18446744073709551615)=true:=by simpa using c3.1
     have e3:decide ((Wn+1) * l.y≤18446744073709551615)=true:=by simpa using c3.2
     rw [e1,e2,e3]
     clear e1 e2 e3 c3
     obtain⟨R,hR⟩:∃ R,R=ja6 ((Wn+1) * l.y):=⟨_,rfl⟩
     have HE2:=HE.out
     rw [←hR] at HE2 ⊢
     have HE3:=hide HE2
     clear HE2 hR
     go_wp2
     exact bodyPost_ret (v:=.tuple #[.int .u64 0,.bool false,.int .u64 R]) (by simp [results,Tryz.results123,go_sem]) rfl ⟨by rw [HE3.out],HBW.out⟩
    ·have hNV:ja6 ((Wn+1) * l.y)=18446744073709551615:=by
      unfold ja6
      split
      ·rename_i hle
       have hge:(Wn+1) * 1≤(Wn+1) * l.y:=Int.mul_le_mul_of_nonneg_left hyp (by omega)
       exact absurd ⟨by omega,hle⟩ c3
      ·rfl
     have HE2:=HE.out
     rw [hNV] at HE2
     have HE3:=hide HE2
     have hoo:decide (Wn+1≤18446744073709551615)=false∨(decide (Wn+1≤18446744073709551615)=true∧decide (ja6 (Wn+1) * l.y≤18446744073709551615)=false):=by
      by_cases h1:Wn+1≤18446744073709551615
      ·right
       refine⟨by simpa using h1,?_⟩
       have e1:ja6 (Wn+1)=Wn+1:=by unfold ja6;rw [if_pos h1]
       rw [e1]
       simpa using fun h2=>c3 ⟨h1,h2⟩
      ·left;simpa using h1
     obtain⟨q1,hq1⟩:∃ q1,q1=decide (Wn+1≤18446744073709551615):=⟨_,rfl⟩
     obtain⟨q2,hq2⟩:∃ q2,q2=decide (ja6 (Wn+1) * l.y≤18446744073709551615):=⟨_,rfl⟩
     obtain⟨R1,hR1⟩:∃ R1,R1=ja6 (ja6 (Wn+1) * l.y):=⟨_,rfl⟩
     obtain⟨R2,hR2⟩:∃ R2,R2=ja6 (Wn+1):=⟨_,rfl⟩
     rw [←hq1,←hq2] at hoo
     rw [←hR1,←hq2,←hq1,←hR2]
     clear hq1 hq2 HE2 hNV c3 hR1 hR2 hor
     rcases hoo with rfl | ⟨rfl,rfl⟩
     all_goals go_wp2
     all_goals exact bodyPost_ret (v:=.tuple #[.int .u64 0,.bool false,.int .u64 18446744073709551615]) (by simp [results,Tryz.results123,go_sem]) rfl ⟨by rw [HE3.out],HBW.out⟩
end Go.Proofs.YtnlgndpcddngoaaGreatDoor
namespace Go.Proofs.YtnlgndpcddngoaaGreatDoor
open Go.RowKit Go.Sort
def kbs (k:Ky):List Int:=[k.k0,k.k1,k.k2,k.k3,k.k4,k.k5,k.k6,k.k7]
abbrev jat (k:Ky):Array Value:=#[.int .u8 k.k0,.int .u8 k.k1,.int .u8 k.k2,.int .u8 k.k3,.int .u8 k.k4,.int .u8 k.k5,.int .u8 k.k6,.int .u8 k.k7]
def cmpK (a b:Ky):Int:=Extern.BytealgCompare.cmp ⟨(Go.Lib.bytesOf (kbs a)).toArray⟩ ⟨(Go.Lib.bytesOf (kbs b)).toArray⟩
theorem kcell {w:World}{b:Nat}{k:Ky}{t:TypeId}{fr:Nat×Nat}(h:w.heap[b]?=some (.cells (jat k) t fr)):∀ j x,(kbs k)[j]?=some x→w.cell? ((⟨b,0,none⟩:Addr).add j)=some (.int .u8 x):=by
 intro j x hj
 rw [Addr.add_lit,Nat.zero_add,cellB h]
 match j,hj with
 | 0,hj=>injection hj with hj;subst hj;rfl
 | 1,hj=>injection hj with hj;subst hj;rfl
 | 2,hj=>injection hj with hj;subst hj;rfl
 | 3,hj=>injection hj with hj;subst hj;rfl
 | 4,hj=>injection hj with hj;subst hj;rfl
 | 5,hj=>injection hj with hj;subst hj;rfl
 | 6,hj=>injection hj with hj;subst hj;rfl
 | 7,hj=>injection hj with hj;subst hj;rfl
 | j+8,hj=>simp [kbs] at hj
theorem jk0 (A B:Nat)(a b:Ky)(t:TypeId)(w:World)(hA:w.heap[A]?=some (.cells (jat a) t))(hB:w.heap[B]?=some (.cells (jat b) t)) :
  (callFunc 184 #[.slice (some ⟨A,0,none⟩) 8 8,.slice (some ⟨B,0,none⟩) 8 8]).run Tryz.prog w=.ok (.value (.int .i64 (cmpK a b))) w:=by
 rw [run_callFunc_extern Tryz.func184 (by kernel_rfl) (by kernel_rfl) (by kernel_rfl) (e:=Extern.BytealgCompare.compare) (by kernel_rfl)]
 have h1:=Go.Lib.run_loadBytesX (P:=Tryz.prog) w (kbs a) ⟨A,0,none⟩ .empty (kcell hA)
 have h2:=Go.Lib.run_loadBytesX (P:=Tryz.prog) w (kbs b) ⟨B,0,none⟩ .empty (kcell hB)
 have e:(Extern.BytealgCompare.compare #[.slice (some ⟨A,0,none⟩) 8 8,.slice (some ⟨B,0,none⟩) 8 8]).run Tryz.prog w=.ok (.int .i64 (cmpK a b)) w:=by
  change Sem.run Tryz.prog (do
    let x ←Extern.Bytes.bytesOf (.slice (some ⟨A,0,none⟩) 8 8)
    let y ←Extern.Bytes.bytesOf (.slice (some ⟨B,0,none⟩) 8 8)
    pure (goInt (Extern.BytealgCompare.cmp x y))) w=_
  have l1:(kbs a).length=8:=rfl
  have l2:(kbs b).length=8:=rfl
  rw [l1] at h1
  rw [l2] at h2
  simp only [Extern.Bytes.bytesOf,Sem.run_bind,h1,h2,Result.andThen,Sem.run_pure]
  unfold cmpK goInt
  congr 3
 rw [e]
 rfl
theorem jiN (A B:Nat)(a b:Ky)(t:TypeId)(w:World)(hA:w.heap[A]?=some (.cells (jat a) t))(hB:w.heap[B]?=some (.cells (jat b) t)) :
  Calls Tryz.prog 166 #[.slice (some ⟨A,0,none⟩) 8 8,.slice (some ⟨B,0,none⟩) 8 8] w fun e w'=>e=.returned (.int .i64 (cmpK a b))∧w'=w:=by
 have h:=jk0 A B a b t w hA hB
 go_enter Tryz.func166,Tryz.ntmps166
 go_wp2
 go_ret
 exact⟨rfl,rfl⟩
theorem grow2 (w:World)(a b:Obj):((w.alloc a).alloc b).drew=grow (w.drewN 1) #[a,b]:=by
 rw [alloc_eq_grow,alloc_eq_grow,grow_grow,drew_grow]
 rfl
theorem jlf (a b:Ky)(w:World) :
  Calls Tryz.prog 165 #[.agg #[.int .u8 a.k0,.int .u8 a.k1,.int .u8 a.k2,.int .u8 a.k3,.int .u8 a.k4,.int .u8 a.k5,.int .u8 a.k6,.int .u8 a.k7],.agg #[.int .u8 b.k0,.int .u8 b.k1,.int .u8 b.k2,.int .u8 b.k3,.int .u8 b.k4,.int .u8 b.k5,.int .u8 b.k6,.int .u8 b.k7]] w fun e w'=>e=.returned (.int .i64 (cmpK a b))∧∃ q os,w'=grow (w.drewN q) os:=by
 obtain⟨V,hV⟩:∃ V,V=(w.alloc (.cells (jat a) 63)).alloc (.cells (jat b) 63):=⟨_,rfl⟩
 have hA:V.drew.heap[w.heap.size]?=some (.cells (jat a) 63):=hV▸upB (ja1 _ _) _
 have hB:V.drew.heap[w.heap.size+1]?=some (.cells (jat b) 63):=hV▸heapN (by simp)
 have H:=hide (jiN w.heap.size (w.heap.size+1) a b _ _ hA hB)
 clear hA hB
 go_enter Tryz.func165,Tryz.ntmps165
 go_upto_region 1 with fail
 rw [←hV]
 have HV:=hide hV
 clear hV
 go_region_with (go_at_call 166;refine H.out.mono ?_;rintro e w2 ⟨rfl,rfl⟩)
 all_goals go_wp2
 all_goals go_ret
 all_goals exact⟨rfl,1,#[.cells (jat a) 63,.cells (jat b) 63],by rw [HV.out];exact grow2 w _ _⟩
end Go.Proofs.YtnlgndpcddngoaaGreatDoor
namespace Go.Proofs.YtnlgndpcddngoaaGreatDoor
open Go.RowKit Go.Sort Go.Shelf
section
variable {α:Type} [Inhabited α] (lt:α→α→Bool)
theorem jbG (a b i:Nat)(hib:i<b):∀ (j:Nat) (d:Array α),a≤j→j≤i→b≤d.size→PermIn a b d (insInner lt a j d)
 | 0,d,_,_,_=>by
  unfold insInner
  exact permIn_refl d a b
 | j+1,d,haj,hji,hb=>by
  unfold insInner
  split
  ·rename_i hc
   simp only [Bool.and_eq_true,decide_eq_true_eq] at hc
   have h1:PermIn a b d (swp d (j+1) j):=swp_permIn d a b (j+1) j haj (by omega) (by omega) (by omega) hb
   have ih:=jbG a b i hib j (swp d (j+1) j) (by omega) (by omega) (by rw [h1.1];exact hb)
   exact permIn_trans _ _ _ a b h1 ih
  ·exact permIn_refl d a b
theorem jbL (a b:Nat):∀ (n i:Nat) (d:Array α),b - i=n→a<i→i≤b→b≤d.size→PermIn a b d (insOuter lt a b i d)
 | 0,i,d,hn,_,hib,_=>by
  obtain rfl:i=b:=by omega
  rw [insOuter,if_neg (by omega)]
  exact permIn_refl d a i
 | n+1,i,d,hn,hai,hib,hb=>by
  have hlt:i<b:=by omega
  rw [insOuter,if_pos hlt]
  have h1:=jbG lt a b i hlt i d (by omega) (Nat.le_refl _) hb
  exact permIn_trans _ _ _ a b h1 (jbL a b n (i+1) (insInner lt a i d) (by omega) (by omega) (by omega) (by rw [h1.1];exact hb))
theorem jds (d:Array α):(insertionSort lt d 0 d.size).toList.Perm d.toList∧(insertionSort lt d 0 d.size).size=d.size:=by
 have h:PermIn 0 d.size d (insertionSort lt d 0 d.size):=by
  unfold insertionSort
  by_cases h0:d.size=0
  ·rw [insOuter,if_neg (by omega)]
   exact permIn_refl d 0 d.size
  ·exact jbL lt 0 d.size (d.size - 1) 1 d rfl (by omega) (by omega) (Nat.le_refl _)
 generalize insertionSort lt d 0 d.size=D at h
 refine⟨?_,h.1⟩
 have h2:=h.2.2
 rw [Array.extract_size] at h2
 have e:D.extract 0 d.size=D:=by rw [←h.1];exact Array.extract_size
 rwa [e] at h2
end
instance:Inhabited Ky:=⟨⟨0,0,0,0,0,0,0,0⟩⟩
def encK (k:Ky):List Value:=[.int .u8 k.k0,.int .u8 k.k1,.int .u8 k.k2,.int .u8 k.k3,.int .u8 k.k4,.int .u8 k.k5,.int .u8 k.k6,.int .u8 k.k7]
namespace Ins
def ren:Go.Shelf.Ren:=⟨fun _=>207,fun n=>if n=0 then 0 else if n=3 then 3 else if n=4 then 4 else if n=22 then 304 else if n=24 then 63 else 310,fun n=>n⟩
theorem lays:SlLaysF0.n20 Tryz.prog ren where
 mixed:=by first | exact Tryz.mixed | kernel_rfl | decide
 f20:=⟨Tryz.f207.name,by kernel_rfl,by kernel_rfl⟩
 t0:=by first | exact Tryz.underlying0 | kernel_rfl
 a0:=by first | exact Tryz.isAgg0 | (intro w;kernel_rfl)
 z0:=by first | exact Tryz.sizeOf0 | (intro w;kernel_rfl)
 v0:=by first | exact Tryz.zeroValue0 | (intro w;kernel_rfl)
 t3:=by first | exact Tryz.underlying3 | kernel_rfl
 a3:=by first | exact Tryz.isAgg3 | (intro w;kernel_rfl)
 z3:=by first | exact Tryz.sizeOf3 | (intro w;kernel_rfl)
 v3:=by first | exact Tryz.zeroValue3 | (intro w;kernel_rfl)
 t4:=by first | exact Tryz.underlying4 | kernel_rfl
 a4:=by first | exact Tryz.isAgg4 | (intro w;kernel_rfl)
 z4:=by first | exact Tryz.sizeOf4 | (intro w;kernel_rfl)
 v4:=by first | exact Tryz.zeroValue4 | (intro w;kernel_rfl)
 t22:=by first | exact Tryz.underlying304 | kernel_rfl
 a22:=by first | exact Tryz.isAgg304 | (intro w;kernel_rfl)
 z22:=by first | exact Tryz.sizeOf304 | (intro w;kernel_rfl)
 v22:=by first | exact Tryz.zeroValue304 | (intro w;kernel_rfl)
 t25:=by first | exact Tryz.underlying310 | kernel_rfl
 a25:=by first | exact Tryz.isAgg310 | (intro w;kernel_rfl)
 z25:=by first | exact Tryz.sizeOf310 | (intro w;kernel_rfl)
 v25:=by first | exact Tryz.zeroValue310 | (intro w;kernel_rfl)
end Ins
theorem jjK (vs:Array Value)(w:World):Sem.run Tryz.prog (callFunc 165 vs) w=.ok (.enter 165 vs) w:=by simp [go_sem]
theorem jla (g cap n:Nat)(d:Array Ky)(w:World)(hH:HoldsK encK 8 w g 0 d)(hg:g<w.heap.size)(hn:d.size=n)(hn1:n≤1000) :
  Calls Tryz.prog 207 #[.slice (some ⟨g,0,none⟩) n cap,.int .i64 0,.int .i64 n,.func (.func 165) #[] #[]] w fun e w'=>e=.returned (.tuple #[])∧∃ m os,w'=sortWorldK encK 8 w g 0 m (insertionSort (ltOf cmpK) d 0 d.size) os:=by
 subst hn
 exact AnyQ.insertionSortCmpFunc (P:=Tryz.prog) (ρ:=Ins.ren) Ins.lays 8 (fun w=>by first | exact Tryz.isAgg63 w | kernel_rfl) (fun w=>by first | exact Tryz.sizeOf63 w | kernel_rfl) encK (fun _=>rfl) (fun x v hv=>by simp [encK] at hv;rcases hv with h | h | h | h | h | h | h | h <;> subst h <;> rfl) cmpK 165 #[] g 0 cap 0 d.size d w jjK (fun m os dk _ x y=>jlf x y _) hH hg (Nat.zero_le _) (Nat.le_refl _) (by omega)
theorem je9 (w:World)(g m:Nat)(D:Array Ky)(os:Array Obj):Keep (fun c=>c=g) w (sortWorldK encK 8 w g 0 m D os):=by
 unfold sortWorldK
 refine⟨rfl,rfl,rfl,by rw [size_grow];simp [putRowK,putRow,mapBlock,Sort.ahead],fun k hk hne=>?_⟩
 rw [heap_grow_old _ _ (by simpa [putRowK,putRow,mapBlock,Sort.ahead] using hk)]
 have:g≠k:=fun e=>hne e.symm
 simp [putRowK,putRow,mapBlock,Sort.ahead,Array.getElem?_modify,this]
theorem jdt (w:World)(g m:Nat)(d D:Array Ky)(os:Array Obj)(h:HoldsK encK 8 w g 0 d)(hg:g<w.heap.size)(hs:D.size=d.size):HoldsK encK 8 (sortWorldK encK 8 w g 0 m D os) g 0 D:=by
 unfold sortWorldK
 exact holdsK_grow encK 8 _ os g 0 D (by simpa [putRowK,putRow,mapBlock,Sort.ahead] using hg) (holdsK_putRowK encK 8 _ g 0 d D (holdsK_ahead encK 8 w m g 0 d h) hs)
theorem len64 (n:Nat)(w:World)(h:n≤12):Calls Tryz.prog 197 #[.int .u64 n] w fun e w'=>(∃ l:Int,e=.returned (.int .i64 l))∧w'=w:=by
 have hc:n=0∨n=1∨n=2∨n=3∨n=4∨n=5∨n=6∨n=7∨n=8∨n=9∨n=10∨n=11∨n=12:=by omega
 rcases hc with rfl | rfl | rfl | rfl | rfl | rfl | rfl | rfl | rfl | rfl | rfl | rfl | rfl
 all_goals (
   go_enter Tryz.func197,Tryz.ntmps197
   go_wp2
   go_ret
   exact⟨⟨_,rfl⟩,rfl⟩)
theorem jlr (g cap n:Nat)(l:Int)(d:Array Ky)(w:World)(hH:HoldsK encK 8 w g 0 d)(hg:g<w.heap.size)(hn:d.size=n)(hn1:n≤12) :
  Calls Tryz.prog 196 #[.slice (some ⟨g,0,none⟩) n cap,.int .i64 0,.int .i64 n,.int .i64 l,.func (.func 165) #[] #[]] w fun e w'=>e=.returned (.tuple #[])∧∃ m os,w'=sortWorldK encK 8 w g 0 m (insertionSort (ltOf cmpK) d 0 d.size) os:=by
 have H:=hide (jla g cap n d w hH hg hn (by omega))
 have hle:(n:Int)≤12:=by omega
 have hn0:IntKind.i64.wrap ((n:Int) - 0)=n:=by rw [IntKind.wrap_i64];omega
 clear hH hn
 go_enter Tryz.func196,Tryz.ntmps196
 go_wp2
 refine wp_loop_rounds 1 ?_
 rw [rounds_succ]
 go_wp2_with (go_at_call 207;refine H.out.mono ?_;rintro e w' ⟨rfl,HX⟩;have HX:=hide HX)
 (try simp only [Exit.inBlock,Exit.then]);refine bodyPost_ret (results_none rfl _ _ _) rfl ?_
 exact⟨rfl,HX.out⟩
theorem jic (g cap n:Nat)(d:Array Ky)(w:World)(hH:HoldsK encK 8 w g 0 d)(hg:g<w.heap.size)(hn:d.size=n)(hn1:n≤12) :
  Calls Tryz.prog 182 #[.slice (some ⟨g,0,none⟩) n cap,.func (.func 165) #[] #[]] w fun e w'=>e=.returned (.tuple #[])∧∃ m os,w'=sortWorldK encK 8 w g 0 m (insertionSort (ltOf cmpK) d 0 d.size) os:=by
 have H:=hide (fun l=>jlr g cap n l d w hH hg hn hn1)
 have hu:IntKind.u64.wrap (n:Int)=n:=by rw [IntKind.wrap_u64];omega
 clear hH hn
 go_enter Tryz.func182,Tryz.ntmps182
 go_wp2_with fail
 refine (len64 n w hn1).mono ?_
 rintro e w1 ⟨⟨l,rfl⟩,he⟩
 rw [he]
 clear he
 go_wp2_with fail
 refine (H.out l).mono ?_
 rintro e w2 ⟨rfl,HX⟩
 have HX:=hide HX
 go_wp2
 go_end0
 exact⟨rfl,HX.out⟩
end Go.Proofs.YtnlgndpcddngoaaGreatDoor
namespace Go.Proofs.YtnlgndpcddngoaaGreatDoor
open Go.RowKit Go.Maps Go.Sort
def krow (ks:List Ky):List Value:=ks.flatMap encK
theorem jhO (a b:List Ky):krow (a ++ b)=krow a ++ krow b:=by unfold krow;rw [List.flatMap_append]
def jd3:Code:=(Code.region 2 #[{ dst:=some 5,op:=Op.alloc 63,type:=0,pos:="iter.go:51",after:=#[],guard:=none },{ dst:=none,op:=Op.store 63 (Operand.tmp 5) (Operand.tmp 7),type:=0,pos:="iter.go:51",after:=#[{ on:=0,ground:=Ground.data },{ on:=0,ground:=Ground.phase }],guard:=none }] false)
def jhx:Code:=(Code.block 1 (Code.region 3 #[{ dst:=some 8,op:=Op.load 304 (Operand.tmp 2),type:=304,pos:="iter.go:52",after:=#[],guard:=none },{ dst:=some 9,op:=Op.load 63 (Operand.tmp 5),type:=63,pos:="iter.go:52",after:=#[],guard:=none },{ dst:=some 10,op:=Op.buildSlice 304 1 #[(0,Operand.tmp 9)],type:=304,pos:="iter.go:52",after:=#[{ on:=1,ground:=Ground.data }],guard:=none },{ dst:=some 11,op:=Op.call { callee:=Callee.builtin Builtin.append,args:=#[Operand.tmp 8,Operand.tmp 10],argTypes:=#[304,304] },type:=304,pos:="iter.go:52",after:=#[{ on:=0,ground:=Ground.data },{ on:=2,ground:=Ground.data }],guard:=none },{ dst:=none,op:=Op.store 304 (Operand.tmp 2) (Operand.tmp 11),type:=0,pos:="iter.go:52",after:=#[{ on:=3,ground:=Ground.data },{ on:=3,ground:=Ground.chain },{ on:=0,ground:=Ground.phase },{ on:=1,ground:=Ground.phase },{ on:=2,ground:=Ground.phase },{ on:=3,ground:=Ground.phase }],guard:=none }] false))
def apRec (fn:FuncId)(sv:Value)(Bs D:Nat)(st:LoopState)(pend:Option Code):Loop:=
 { state:=st,pending:=pend,fn,tmps:=#[.slice none 0 0,sv,.pointer (some ⟨Bs,0,none⟩),undef,.slice none 0 0,undef,sv,undef,undef,undef,undef,undef,undef],params:=#[7],assign:=jd3,body:=jhx,defers:=D }
structure ApK (w0:World)(fn:FuncId)(sv:Value)(Bs l D:Nat)(ks:List Ky)(W:World):Prop where
 box:∃ v,W.heap[Bs]?=some (.cells #[v] 304 (0,0))∧W.ownsRow w0.heap.size 63 8 v ks.length (krow ks)
 L:W.heap[l]?=some (.loop (apRec fn sv Bs D .ready none))
 K:W.heap[D]?=some (.deferred (some []))
 below:Below w0.heap.size w0 W
theorem jhB (w0:World)(fn:FuncId)(sv:Value)(Bs l D B:Nat)(hB:w0.heap.size≤B):AbidesFrom B (ApK w0 fn sv Bs l D):=fun s W W' row h hg hrow=>by
 have hrow':∀ r,row=some r→∃ o:Obj,W.heap[r]?=some o∧o.isWalk=true:=fun r e=>(hrow r e).2
 obtain⟨v,hv,hr⟩:=h.box
 exact⟨⟨v,(grownBy_keeps hg hrow' hv rfl).trans hv,ownsRow_abides_a hr hg hrow'⟩,(grownBy_keeps hg hrow' h.L rfl).trans h.L,(grownBy_keeps hg hrow' h.K rfl).trans h.K,
   h.below.grown hg h.below.size (fun k e=>Nat.le_trans hB (hrow k e).1)⟩
theorem Tryz.infoKey:(Tryz.prog.info? 63).map (fun i=>(i.zero,i.size,i.bytes))=some (some (.agg #[.int .u8 0,.int .u8 0,.int .u8 0,.int .u8 0,.int .u8 0,.int .u8 0,.int .u8 0,.int .u8 0]),8,8):=by kernel_rfl
theorem jfd (w:World)(k:Ky)(t:TypeId):∀ j u,(encK k)[j]?=some u→(w.alloc (.cells (jat k) t)).cell? ((⟨w.heap.size,0,none⟩:Addr).add j)=some u:=by
 intro j u hj
 rw [Addr.add_lit,Nat.zero_add,World.cell?_alloc_at _ _ _ _ rfl]
 match j,hj with
 | 0,hj=>exact hj
 | 1,hj=>exact hj
 | 2,hj=>exact hj
 | 3,hj=>exact hj
 | 4,hj=>exact hj
 | 5,hj=>exact hj
 | 6,hj=>exact hj
 | 7,hj=>exact hj
 | j+8,hj=>simp [encK] at hj
theorem jiD (k:Ky):∀ u∈encK k,u.oneCell'=true:=by
 intro v hv
 simp [encK] at hv
 rcases hv with h | h | h | h | h | h | h | h <;> subst h <;> rfl
theorem jkN (w0:World)(fn:FuncId)(sv:Value)(Bs l D:Nat)(hBl:Bs≠l)(hDl:D≠l)(hDB:D≠Bs)(h0B:w0.heap.size≤Bs)(h0l:w0.heap.size≤l)(ks:List Ky)(x:Ky)(W:World)(h:ApK w0 fn sv Bs l D ks W)(hlen:ks.length<1000) :
  YieldAt Fence.wide 0 Tryz.prog l #[kval x] W fun e W'=>e=.returned (.bool true)∧ApK w0 fn sv Bs l D (ks ++ [x]) W'∧KeepsWalks W W':=by
 have hne:(304:TypeId)≠63:=by decide
 obtain⟨i0,hi,hz0,hz1,hz2⟩:=info_parts Tryz.infoKey
 obtain⟨v,hv,hrow⟩:=h.box
 refine⟨fn,#[.slice none 0 0,sv,.pointer (some ⟨Bs,0,none⟩),undef,.slice none 0 0,undef,sv,kval x,undef,undef,undef,undef,undef],jd3,jhx,by simpa [apRec] using run_yield (P:=Tryz.prog) (args:=#[kval x]) h.L rfl,roundIn_of_wpIn trivial ?_⟩
 obtain⟨V,hV⟩:∃ V,V=W.alloc (.cells (jat x) 63):=⟨_,rfl⟩
 have hvV:V.heap[Bs]?=some (.cells #[v] 304 (0,0)):=hV▸upB hv _
 have hKV:V.heap[D]?=some (.deferred (some [])):=hV▸upB h.K _
 have hLV:V.heap[l]?=some (.loop (apRec fn sv Bs D .ready none)):=hV▸upB h.L _
 have hrowV:V.ownsRow w0.heap.size 63 8 v ks.length (krow ks):=hV▸hrow.alloc _
 have hbV:Below w0.heap.size w0 V:=hV▸h.below.alloc h.below.size _
 obtain⟨X,hX⟩:∃ X,X=W.heap.size:=⟨_,rfl⟩
 have hxV:V.heap[X]?=some (.cells (jat x) 63):=by rw [hX,hV];exact ja1 _ _
 have hkV:KeepsWalks W V:=hV▸KeepsWalks.alloc _ _
 have hXl:X≠l:=by have:=(Array.getElem?_eq_some_iff.1 h.L).1;omega
 have hl:l<V.heap.size:=(Array.getElem?_eq_some_iff.1 hLV).1
 have hbr:=run_beginRound (P:=Tryz.prog) hLV rfl
 obtain⟨W2,hW2⟩:∃ W2,V.putObj l (.loop { apRec fn sv Bs D .ready none with state:=.busy })=W2:=⟨_,rfl⟩
 rw [hW2] at hbr
 have hg2:V.grownBy W2 (some l):=by rw [←hW2];exact grownBy_putObj_a _ _ _
 have hk2:KeepsWalks W W2:=hkV.trans (by rw [←hW2];exact KeepsWalks.putObj _ hLV rfl)
 have hv2:W2.heap[Bs]?=some (.cells #[v] 304 (0,0)):=by rw [←hW2];exact (World.putObj_heap_other hBl).trans hvV
 have hx2:W2.heap[X]?=some (.cells (jat x) 63):=by rw [←hW2];exact (World.putObj_heap_other hXl).trans hxV
 have hK2:W2.heap[D]?=some (.deferred (some [])):=by rw [←hW2];exact (World.putObj_heap_other hDl).trans hKV
 have hL2:W2.heap[l]?=some (.loop { apRec fn sv Bs D .ready none with state:=.busy }):=by rw [←hW2];exact World.putObj_heap_same hl
 have hrow2:W2.ownsRow w0.heap.size 63 8 v ks.length (krow ks):=hrowV.kept hg2 (ownsRow_ne_a hrowV hLV (fun cur e=>by first | cases e | exact hne (Obj.cells.inj e).2.1))
 have hb2:Below w0.heap.size w0 W2:=hbV.grown hg2 hbV.size (fun k e=>by cases e;exact h0l)
 obtain⟨hc2,hf2⟩:=cell_of_box_a hv2
 have cx:=cellB hx2
 have hBlt:Bs<W2.heap.size:=(Array.getElem?_eq_some_iff.1 hv2).1
 have hl2:l<W2.heap.size:=(Array.getElem?_eq_some_iff.1 hL2).1
 have hDlt:D<W2.heap.size:=(Array.getElem?_eq_some_iff.1 hK2).1
 have hsb:=hb2.size
 have ne_of:∀ {j:Nat}{o:Obj},W2.heap[j]?=some o→(∀ cur,o≠.cells cur 63 (0,0))→some j≠v.ownBlock:=fun hj hno=>by
  rcases ownsRow_ne_a hrow2 hj hno with e | e
  ·rw [e];simp
  ·exact fun e'=>e e'.symm
 unfold kval jd3
 gi_wp2_with gi_round_op_a
 rw [←hV,←hX]
 refine⟨W2,hbr,?_⟩
 have HBR:=hide hbr
 clear hbr hV hX hW2
 obtain⟨a0,c0,e0⟩:=ja8 hrow2
 subst e0
 unfold jhx
 gi_wp2_with (first
   | (gi_at_builtin;refine wpListIn_append_own _ rfl _ _ 304 rfl w0.heap.size 63 i0 (.agg #[.int .u8 0,.int .u8 0,.int .u8 0,.int .u8 0,.int .u8 0,.int .u8 0,.int .u8 0,.int .u8 0]) 8 8 Tryz.underlying304 hi hz0 hz1 hz2 rfl (by decide) _ _ _ rfl (hrow2.alloc _) ⟨W2.heap.size,0,none⟩ 1 1 (encK x) rfl rfl (jfd _ _ _) (jiD x) (by unfold maxLen;omega) (by omega) (by simp;omega) ?_;intro v' w3 hown' hg3 hnil3
      have hv3:w3.heap[Bs]?=some (.cells #[.slice a0 ks.length c0] 304 (0,0)):=(hg3.block Bs (by simp;omega) (ne_of hv2 (fun cur e=>by first | cases e | exact hne (Obj.cells.inj e).2.1))).trans ((Below.heap_alloc _ _ Bs hBlt).trans hv2)
      obtain⟨hc3,hf3⟩:=cell_of_box_a hv3
      obtain⟨a3,c3,e3⟩:=ja8 hown'
      subst e3
      go_frame)
   | gi_round_op_a)
 have hg3':(W2.alloc (.cells (jat x) 63)).grownBy w3 (Value.slice a0 ks.length c0).ownBlock:=hg3
 have hL3:w3.heap[l]?=some (.loop { apRec fn sv Bs D .ready none with state:=.busy }):=(hg3'.block l (by simp;omega) (ne_of hL2 (fun cur e=>by first | cases e | exact hne (Obj.cells.inj e).2.1))).trans ((Below.heap_alloc _ _ l hl2).trans hL2)
 have hK3:w3.heap[D]?=some (.deferred (some [])):=(hg3'.block D (by simp;omega) (ne_of hK2 (fun cur e=>by first | cases e | exact hne (Obj.cells.inj e).2.1))).trans ((Below.heap_alloc _ _ D hDlt).trans hK2)
 obtain⟨w4,hw4⟩:∃ w4,w3.setCell ⟨Bs,0,none⟩ (.slice a3 (ks.length+1) c3)=w4:=⟨_,rfl⟩
 rw [hw4]
 have hg4:w3.grownBy w4 (some Bs):=by rw [←hw4];exact grownBy_setCell0_a _ _ _
 have hv4:w4.heap[Bs]?=some (.cells #[.slice a3 (ks.length+1) c3] 304 (0,0)):=by rw [←hw4];exact heap_setCell_box_a _ hv3
 have hL4:w4.heap[l]?=some (.loop { apRec fn sv Bs D .ready none with state:=.busy }):=(hg4.block l (Array.getElem?_eq_some_iff.1 hL3).1 (fun e=>hBl (by cases e;rfl))).trans hL3
 have hK4:w4.heap[D]?=some (.deferred (some [])):=(hg4.block D (Array.getElem?_eq_some_iff.1 hK3).1 (fun e=>hDB (by cases e;rfl))).trans hK3
 have hrow4:=hown'.kept hg4 (ownsRow_ne_a hown' hv3 (fun cur e=>by first | cases e | exact hne (Obj.cells.inj e).2.1))
 have hl4:l<w4.heap.size:=(Array.getElem?_eq_some_iff.1 hL4).1
 have hb3:Below w0.heap.size w0 w3:=(hb2.alloc hb2.size _).grown hg3' (by simp;omega) (fun k e=>(hrow2.lt k e).1)
 have hb4:Below w0.heap.size w0 w4:=hb3.grown hg4 hb3.size (fun k e=>by cases e;exact h0B)
 have hk4:KeepsWalks W w4:=((hk2.trans (KeepsWalks.alloc _ _)).trans (KeepsWalks.of_grownBy hg3' (ownsRow_not_walk_a (hrow2.alloc _)))).trans (by rw [←hw4];exact KeepsWalks.setCell _ _ _)
 clear hw4
 refine⟨_,_,run_endRound none hL4,rfl,⟨⟨_,(World.putObj_heap_other hBl).trans hv4,?_⟩,World.putObj_heap_same hl4,(World.putObj_heap_other hDl).trans hK4,hb4.grown (grownBy_putObj_a _ _ _) hb4.size (fun k e=>by cases e;exact h0l)⟩,hk4.trans (KeepsWalks.putObj _ hL4 rfl)⟩
 have:=hrow4.kept (grownBy_putObj_a w4 l (.loop { { apRec fn sv Bs D .ready none with state:=.busy } with state:=if (none:Option Code).isNone then .ready else .done,pending:=none })) (ownsRow_ne_a hrow4 hL4 (fun cur e=>by first | cases e | exact hne (Obj.cells.inj e).2.1))
 rw [jhO]
 simpa [krow] using this
theorem jdv (g:Nat)(lb:Array Value)(eg:∀ args w,(callFunc g args).run Tryz.prog w=.ok (.enter g args) w)
  (S:List Ky→Prop) (w:World) (hseq:SeqGives Fence.wide 0 Tryz.prog g lb kval S 1000 w) :
  CallsIn Fence.wide 0 Tryz.prog 195 #[.slice none 0 0,.func (.func g) #[] lb] w fun e w'=>∃ (v:Value) (ks:List Ky),e=.returned v∧S ks∧w'.ownsRow w.heap.size 63 8 v ks.length (krow ks)∧Below w.heap.size w w':=by
 have hne:(304:TypeId)≠63:=by decide
 refine callsIn_of_wp_marks Tryz.func195 rfl trivial ?_ rfl
 simp only [Tryz.ntmps195,List.size_toArray,List.length_cons,List.length_nil,Nat.reduceAdd,Nat.reduceSub,Array.replicate_succ,Array.replicate_zero,List.push_toArray,List.append_toArray,List.nil_append,List.cons_append]
 gi_wp2
 refine wpIn_rangeFunc ?_
 intro fn hfn
 obtain⟨W0,hW0⟩:∃ W0,w.alloc (.cells #[.slice none 0 0] 304)=W0:=⟨_,rfl⟩
 have hs0:W0.heap.size=w.heap.size+1:=by rw [←hW0];simp
 have hv0:W0.heap[w.heap.size]?=some (.cells #[.slice none 0 0] 304 (0,0)):=by rw [←hW0];exact World.alloc_heap_new w _
 have hb0:Below w.heap.size w W0:=by rw [←hW0];exact (Below.refl _ w).alloc (Nat.le_refl _) _
 rw [hW0]
 obtain⟨W1,hW1⟩:∃ W1,(W0.alloc (.deferred (some []))).alloc (.loop (apRec fn (.func (.func g) #[] lb) w.heap.size W0.heap.size .ready none))=W1:=⟨_,rfl⟩
 have hold:∀ k,k<W0.heap.size→W1.heap[k]?=W0.heap[k]?:=fun k hk=>by
  rw [←hW1];exact (Below.heap_alloc _ _ k (by simp;omega)).trans (Below.heap_alloc _ _ k hk)
 have hb1:Below w.heap.size w W1:=by rw [←hW1];exact (hb0.alloc hb0.size _).alloc (by have:=hb0.size;simp;omega) _
 have hs1:W1.heap.size=W0.heap.size+2:=by rw [←hW1];simp
 have hM:ApK w fn (.func (.func g) #[] lb) w.heap.size (W0.heap.size+1) W0.heap.size [] W1:=
  ⟨⟨_,(hold w.heap.size (by omega)).trans hv0,⟨rfl,.inl ⟨rfl,rfl⟩⟩⟩,
   by rw [←hW1];have:=World.alloc_heap_new (W0.alloc (.deferred (some []))) (.loop (apRec fn (.func (.func g) #[] lb) w.heap.size W0.heap.size .ready none));rwa [World.size_alloc] at this,
   by rw [←hW1];exact (Below.heap_alloc _ _ _ (by simp)).trans (World.alloc_heap_new W0 _),hb1⟩
 refine⟨W0.heap.size+1,[{ target:=.collected W0.heap.size,args:=#[] }],W1,{ target:=.fn (.func g) lb,args:=#[.func (.yield (W0.heap.size+1)) #[] #[]] },W1,g,
   #[.func (.yield (W0.heap.size+1)) #[] #[]] ++ lb,W1,?_,?_,?_,?_,?_,?_⟩
 ·rw [←hW1];exact run_enterLoop_outer _ _ _ _ _
 ·simp [resolve,go_sem]
 ·intro f' hf';trivial
 ·simp [invoke,go_sem,eg]
 ·intro h;simp [Fence.wide] at h
 ·refine (hseq (W0.heap.size+1) (ApK w fn (.func (.func g) #[] lb) w.heap.size (W0.heap.size+1) W0.heap.size) W1 hb1 (jhB _ _ _ _ _ _ _ hb1.size)
     (fun pre x W hJ hl=>jkN w fn _ w.heap.size (W0.heap.size+1) W0.heap.size (by omega) (by omega) (by omega) (Nat.le_refl _) (by omega) pre x W hJ hl) hM).mono ?_
  rintro e W2 ⟨⟨v0,rfl⟩,ks,hS,h2⟩
  obtain⟨v,hv,hrow⟩:=h2.box
  have hend:=run_endLoop (P:=Tryz.prog) h2.L (by simp [apRec])
  obtain⟨W3,hW3⟩:∃ W3,W2.putObj (W0.heap.size+1) (.loop { apRec fn (.func (.func g) #[] lb) w.heap.size W0.heap.size .ready none with state:=.exhausted })=W3:=⟨_,rfl⟩
  rw [hW3] at hend
  have hg3:W2.grownBy W3 (some (W0.heap.size+1)):=by rw [←hW3];exact grownBy_putObj_a _ _ _
  have hv3:W3.heap[w.heap.size]?=some (.cells #[v] 304 (0,0)):=by rw [←hW3];exact (World.putObj_heap_other (by omega)).trans hv
  have hK3:W3.heap[W0.heap.size]?=some (.deferred (some [])):=by rw [←hW3];exact (World.putObj_heap_other (by omega)).trans h2.K
  have hrow3:=hrow.kept hg3 (ownsRow_ne_a hrow h2.L (fun cur e=>by first | cases e | exact hne (Obj.cells.inj e).2.1))
  have hb3:Below w.heap.size w W3:=h2.below.grown hg3 h2.below.size (fun k e=>by cases e;omega)
  obtain⟨hc3,hf3⟩:=cell_of_box_a hv3
  clear hW3
  refine⟨none,W3,hend,?_⟩
  gi_wp2
  rw [←hs0]
  refine⟨by simp,.inl ⟨_,_,rfl,run_takeDeferred hK3,?_⟩⟩
  exact⟨_,results_tmp rfl _ _ _,v,ks,rfl,hS,hrow3.kept (grownBy_putObj_a _ _ _) (ownsRow_ne_a hrow3 hK3 (fun cur e=>by first | cases e | exact hne (Obj.cells.inj e).2.1)),hb3.grown (grownBy_putObj_a _ _ _) hb3.size (fun k e=>by cases e;omega)⟩
section
variable {F:Fence}{n:Nat}{P:Program}{kt:TypeId}{K V:Type} [DecidableEq K] {ok:K→Prop}{kv:K→Value}{kl:K→Lit}{ev:V→Value}
variable (w:World) {ops:Array Oper}{rest:List Oper}{o:Oper}{a:Act}{Q:Exit→Act→World→Prop}
theorem jch (M:MKey P kt ok kv kl)(hg:o.guard=none)(it:Operand)(hop:o.op=Op.next it false)(b r nn:Nat)(D:DataW Value)(es:List (K×V))(hD:DatG ok kl ev D es)(left:Lit→Bool)(cnt:Nat)
  (hit:a.eval it=.pointer (some ⟨r,0,none⟩)) (h:w.ranges P kt heldE b r nn D left cnt)
  (hDone:cnt=0→(∀ l,left l=false)→wpListIn F n P ops Q rest (a.put o.dst (.tuple #[.bool false])) w)
  (hMore:∀ (k:K) (p:V) (w':World) (cnt':Nat),ok k→fndG k es=some p→left (kl k)=true→w'.ranges P kt heldE b r nn D (fun z=>left z && !z.sameKey (kl k)) cnt'→cnt'<cnt→
    w.grownBy w' (some r)→w'.heap.size=w.heap.size→(Instr.entry (.pointer (some ⟨r,0,none⟩))).run P w'=.ok (.tuple #[kv k,ev p]) w'→wpListIn F n P ops Q rest (a.put o.dst (.tuple #[.bool true,kv k,ev p])) w') :
  wpListIn F n P ops Q (o :: rest) a w:=by
 refine wpListIn_plain hg fun K' hK'=>?_
 unfold Oper.wpIn
 refine⟨by simp [Oper.about,hop],?_⟩
 rw [Oper.semAt_plain F _ _ (by rw [hop];intro c hc';cases hc')]
 rcases h.next M.keyed o.type with ⟨h0,hl,hrun⟩ | ⟨key,v,l,y,w',cnt',hkey,hlk,hv,hat,hrun,hrg,hlt,hgr,hsz,hen⟩
 ·simp [execOp,hop,hit,hrun,Result.andThen]
  exact hK' _ _ (hDone h0 hl)
 ·obtain⟨k,p,hok,rfl,hp,rfl,rfl⟩:=hD.come M hkey hv hat
  simp [execOp,hop,hit,hrun,Result.andThen]
  exact hK' _ _ (hMore k p w' cnt' hok hp hlk hrg hlt hgr hsz hen)
end
structure CollK (es:Es)(left:Lit→Bool)(ks:List Ky):Prop where
 nd:ks.Nodup
 mem:∀ k,k.ok→(k∈ks↔(fndG k es).isSome=true∧left (klit k)=false)
 ok:∀ k∈ks,k.ok
theorem CollK.start (D:DataW Value)(es:Es)(h:DatG Ky.ok klit evE D es):CollK es (Maps.has D) []:=
 ⟨List.nodup_nil,fun k hk=>(by
   rw [h.has k hk]
   constructor
   · intro h
     cases h
   · rintro ⟨h1,h2⟩
     rw [h1] at h2
     cases h2),fun k h=>(by cases h)⟩
theorem CollK.step {es:Es}{left:Lit→Bool}{ks:List Ky}(h:CollK es left ks){k:Ky}{p:Qt×Qt}(hk:k.ok)(hp:fndG k es=some p)(hl:left (klit k)=true):CollK es (fun z=>left z && !z.sameKey (klit k)) (ks ++ [k]):=by
 have hself:(klit k).sameKey (klit k)=true:=WideAt.sameKey_self (jbC.key (jbq k hk))
 refine⟨List.nodup_append.2 ⟨h.nd,by simp,fun a ha b hb e=>?_⟩,fun k' hk'=>?_,fun k' h'=>?_⟩
 ·simp at hb
  subst hb e
  have:=((h.mem a hk).1 ha).2
  rw [hl] at this
  cases this
 ·rw [List.mem_append]
  constructor
  ·rintro (h1 | h1)
   ·obtain⟨x1,x2⟩:=(h.mem k' hk').1 h1
    exact⟨x1,by rw [x2];rfl⟩
   ·simp at h1
    subst h1
    exact⟨by rw [hp];rfl,by rw [hself];simp⟩
  ·rintro ⟨x1,x2⟩
   by_cases e:k'=k
   ·right;simp [e]
   ·left
    refine (h.mem k' hk').2 ⟨x1,?_⟩
    have:(klit k').sameKey (klit k)=false:=sameKey_ne (fun h=>e (jeT hk' hk h))
    rw [this] at x2
    simpa using x2
 ·rcases List.mem_append.1 h' with h1 | h1
  ·exact h.ok k' h1
  ·simp at h1;subst h1;exact hk
theorem CollK.perm {es:Es}{left:Lit→Bool}{ks:List Ky}(h:CollK es left ks)(hl:∀ z,left z=false)(hnd:(es.map Prod.fst).Nodup)(hok:∀ p∈es,p.1.ok):ks.Perm (es.map Prod.fst):=by
 refine (List.perm_ext_iff_of_nodup h.nd hnd).2 (fun k=>?_)
 constructor
 ·intro hk
  obtain⟨x1,_⟩:=(h.mem k (h.ok k hk)).1 hk
  obtain⟨p,hp⟩:=Option.isSome_iff_exists.1 x1
  exact List.mem_map.2 ⟨(k,p),jao hp,rfl⟩
 ·intro hk
  obtain⟨⟨k',p⟩,hp,rfl⟩:=List.mem_map.1 hk
  exact (h.mem k' (hok _ hp)).2 ⟨by rw [jak hnd hp];rfl,hl _⟩
theorem jkI (l Bm b nn:Nat)(D0:DataW Value)(es:Es)(hD:DatG Ky.ok klit evE D0 es)(hnd:(es.map Prod.fst).Nodup)(hok:∀ p∈es,p.1.ok)(hsz:es.length≤900)(J:List Ky→World→Prop)
  (hY:∀ pre x W,J pre W→pre.length<1000→YieldAt Fence.wide 0 Tryz.prog l #[kval x] W fun e W'=>e=.returned (.bool true)∧J (pre ++ [x]) W'∧KeepsWalks W W')
  (W:World) (hJ:AbidesFrom W.heap.size J) (hm:W.cell? ⟨Bm,0,none⟩=some (.map (some b))) (hown:W.ownsMap Tryz.prog 63 heldE b nn D0) (h0:J [] W) :
  CallsIn Fence.wide 0 Tryz.prog 183 #[.func (.yield l) #[] #[],.pointer (some ⟨Bm,0,none⟩)] W fun e W'=>(∃ v,e=.returned v)∧∃ ks:List Ky,ks.Perm (es.map Prod.fst)∧J ks W':=by
 refine callsIn_of_wp Tryz.func183 rfl trivial ?_ rfl
 simp only [Tryz.ntmps183,List.size_toArray,List.length_cons,List.length_nil,Nat.reduceAdd,Nat.reduceSub,Array.replicate_succ,Array.replicate_zero,List.push_toArray,List.append_toArray,List.nil_append,List.cons_append]
 gi_wp2_with (first
   | (gi_at_range;refine wpListIn_range_own _ rfl _ 121 rfl 63 177 jbC undE _ b nn _ rfl hown ?_;intro w0 hrg0 hg0 hs0)
   | gi_in)
 go_frame
 gi_loopw [6] (fun _ wr=>∃ (left:Lit→Bool) (cnt:Nat) (ks:List Ky),wr.ranges Tryz.prog 63 heldE b W.heap.size nn D0 left cnt∧ks.length+cnt≤Maps.size D0∧CollK es left ks∧J ks wr∧W.heap.size≤wr.heap.size)
  (fun _ wr=>wr.rangeLeft b W.heap.size)
 case atStart=>
  exact⟨_,_,[],hrg0,by simp,CollK.start D0 es hD,hJ [] W w0 none h0 hg0 (fun r e=>by cases e),hg0.size⟩
 case round=>
  obtain⟨left,cnt,ks,hrg,hcs,hC,hJs,hws⟩:=hrel
  gi_wp2_with (first
    | (gi_at_next;refine jch (P:=Tryz.prog) (kt:=63) _ mkey rfl _ rfl b W.heap.size nn D0 es hD left cnt rfl hrg ?_ ?_)
    | gi_in)
  ·intro hc0 hl0
   gi_wp2
   go_end0
   exact⟨⟨_,rfl⟩,ks,hC.perm hl0 hnd hok,hJs⟩
  ·intro k p1 p2 w2 cnt2 hkok hp hlk hrg2 hlt hg2 hs2 hen
   have hJ2:J ks w2:=hJ ks wr w2 (some W.heap.size) hJs hg2 (fun r e=>by cases e;exact⟨Nat.le_refl _,hrg.iter_walk⟩)
   have hJ3:J ks (w2.alloc (.cells (jat k) 63)):=hJ ks w2 _ none hJ2 (World.grownBy_alloc _ _ _) (fun r e=>by cases e)
   obtain⟨fn,tmps,assign,body,hy,hR⟩:=hY ks k _ hJ3 (by have:=hD.size;omega)
   simp only [kval,evE] at hen hy ⊢
   have hrg3:=hrg2.alloc (.cells (jat k) 63)
   clear hs2
   gi_wp2
   refine⟨rfl,hR.mono ?_⟩
   rintro e W3 ⟨rfl,hJ4,hk3⟩
   gi_wp2
   have hrg4:=hrg3.of_walks hk3
   go_roundw
   case rel=>exact⟨_,cnt2,ks ++ [k],hrg4,by simp;omega,hC.step hkok hp hlk,hJ4,Nat.le_trans hws (Nat.le_trans hg2.size (Nat.le_trans (by simp) hk3.size))⟩
   case measure=>rw [hrg4.left_eq,hrg.left_eq];exact hlt
theorem jfl (Bm b nn:Nat)(D0:DataW Value)(es:Es)(hD:DatG Ky.ok klit evE D0 es)(hnd:(es.map Prod.fst).Nodup)(hok:∀ p∈es,p.1.ok)(hsz:es.length≤900)(w:World)(hBm:Bm<w.heap.size)
  (hm:w.cell? ⟨Bm,0,none⟩=some (.map (some b))) (hown:w.ownsMap Tryz.prog 63 heldE b nn D0) :
  SeqGives Fence.wide 0 Tryz.prog 183 #[.pointer (some ⟨Bm,0,none⟩)] kval (fun ks=>ks.Perm (es.map Prod.fst)) 1000 w:=fun l J W hW hJ hY h0=>by
 have hown':W.ownsMap Tryz.prog 63 heldE b nn D0:=by
  have hbl:=hown.lt
  obtain⟨es',clock,hb,Ft,hs,hD'⟩:=hown
  exact⟨es',clock,(hW.block b hbl).trans hb,Ft,hs,hD'⟩
 exact jkI l Bm b nn D0 es hD hnd hok hsz J hY W hJ ((hW.cell (p:=⟨Bm,0,none⟩) hBm).trans hm) hown' h0
theorem jhe (vs:Array Value)(w:World):Sem.run Tryz.prog (callFunc 183 vs) w=.ok (.enter 183 vs) w:=by simp [go_sem]
theorem jkT (b:Nat)(w:World) :
  Calls Tryz.prog 164 #[.map (some b)] w fun e w'=>e=.returned (.func (.func 183) #[] #[.pointer (some ⟨w.heap.size,0,none⟩)])∧w'=w.alloc (.cells #[.map (some b)] 121):=by
 have hmf:∀ (fn:Fn) (first cap:Array Value) (w:World),(Instr.makeFunc fn first cap).run Tryz.prog w=.ok (.func fn first cap) w:=fun _ _ _ _=>rfl
 go_enter Tryz.func164,Tryz.ntmps164
 go_wp2
 go_ret
 exact⟨rfl,rfl⟩
theorem jfg (Bm b:Nat)(es:Es)(w:World)(hE:MapE w b es)(hnd:(es.map Prod.fst).Nodup)(hok:∀ p∈es,p.1.ok)(hsz:es.length≤900)(hm:w.heap[Bm]?=some (.cells #[.map (some b)] 121)) :
  Calls Tryz.prog 181 #[.func (.func 183) #[] #[.pointer (some ⟨Bm,0,none⟩)]] w fun e w'=>∃ (v:Value) (ks:List Ky),e=.returned v∧ks.Perm (es.map Prod.fst)∧w'.ownsRow w.heap.size 63 8 v ks.length (krow ks)∧Below w.heap.size w w':=by
 obtain⟨n,D0,ho,hD⟩:=hE
 have H:=hide (callsIn_wide.1 (jdv _ #[.pointer (some ⟨Bm,0,none⟩)] jhe (fun ks=>ks.Perm (es.map Prod.fst)) w (jfl Bm b n D0 es hD hnd hok hsz w (ltB hm) (cellB hm 0) ho)))
 clear ho hD hm hnd hok
 go_enter Tryz.func181,Tryz.ntmps181
 go_wp2_with fail
 refine H.out.mono ?_
 rintro e w2 ⟨v,ks,rfl,h1,h2,h3⟩
 have HX:=hide (And.intro h1 (And.intro h2 h3))
 clear h1 h2 h3
 go_wp2
 go_ret
 exact⟨v,ks,rfl,HX.out⟩
theorem jeZ:∀ (ks:List Ky) (t:Nat),t<ks.length * 8→(krow ks)[t]?=some ((encK ks[t / 8]!)[t % 8]!)
 | [],t,h=>by simp at h
 | k :: r,t,h=>by
  show ((encK k) ++ krow r)[t]?=_
  have hl:(encK k).length=8:=rfl
  by_cases h8:t<8
  ·rw [List.getElem?_append_left (by rw [hl];exact h8),Nat.div_eq_of_lt h8,Nat.mod_eq_of_lt h8]
   show (encK k)[t]?=some ((encK k)[t]!)
   rw [List.getElem?_eq_getElem (by rw [hl];exact h8),List.getElem!_eq_getElem?_getD,List.getElem?_eq_getElem (by rw [hl];exact h8)]
   rfl
  ·rw [List.getElem?_append_right (by rw [hl];omega),hl,jeZ r (t - 8) (by simp at h;omega)]
   have e1:t / 8=(t - 8) / 8+1:=by omega
   have e2:t % 8=(t - 8) % 8:=by omega
   rw [e1,e2]
   rfl
theorem jhi {w:World}{base g cap n:Nat}{ks:List Ky}(h:w.ownsRow base 63 8 (.slice (some ⟨g,0,none⟩) n cap) n (krow ks))(hn:ks.length=n):HoldsK encK 8 w g 0 ks.toArray:=by
 intro j hj
 rw [size_flatK] at hj
 rcases h.2 with ⟨h,_⟩ | ⟨g',cap',cur,h,_,hh,_,_,_,ht⟩
 ·simp at h
 ·simp at h
  obtain⟨e1,e2⟩:=h
  subst e1 e2
  refine⟨?_,by rw [Nat.zero_add];exact ja2 hh j⟩
  have hj':j<ks.length * 8:=by simpa using hj
  rw [Nat.zero_add,cellB hh,get_flatK encK 8 _ j hj]
  have h1:=jeZ ks j hj'
  rw [←ht,List.getElem?_take,if_pos (by omega),Array.getElem?_toList] at h1
  rw [h1]
  simp
def KRow (w:World)(base:Nat)(v:Value)(ks:List Ky):Prop:=
 (v=.slice none 0 0∧ks=[])∨∃ g cap,v=.slice (some ⟨g,0,none⟩) ks.length cap∧ks.length≤cap∧base≤g∧g<w.heap.size∧HoldsK encK 8 w g 0 ks.toArray
theorem jfI {w:World}{g:Nat}{ks:List Ky}(h:HoldsK encK 8 w g 0 ks.toArray)(i:Nat)(hi:i<ks.length)(j:Nat)(hj:j<8):w.cell? ⟨g,i * 8+j,none⟩=(jat ks[i])[j]?:=by
 have h1:=(h (i * 8+j) (by rw [size_flatK];simp;omega)).1
 rw [Nat.zero_add,get_flatK encK 8 _ _ (by simp;omega)] at h1
 have e1:(i * 8+j) / 8=i:=by omega
 have e2:(i * 8+j) % 8=j:=by omega
 rw [h1,e1,e2]
 have e3:ks.toArray[i]! = ks[i]:=by simp [hi]
 rw [e3]
 match j,hj with
 | 0,_=>rfl
 | 1,_=>rfl
 | 2,_=>rfl
 | 3,_=>rfl
 | 4,_=>rfl
 | 5,_=>rfl
 | 6,_=>rfl
 | 7,_=>rfl
theorem jjG (fv:Value)(w:World):Calls Tryz.prog 207 #[.slice none 0 0,.int .i64 0,.int .i64 0,fv] w fun e w'=>e=.returned (.tuple #[])∧w'=w:=by
 go_enter Tryz.func207,Tryz.ntmps207
 go_wp2
 refine wp_loop_rounds 1 ?_
 rw [rounds_succ]
 go_wp2
 go_end0
 exact⟨rfl,rfl⟩
theorem jks (l:Int)(fv:Value)(w:World):Calls Tryz.prog 196 #[.slice none 0 0,.int .i64 0,.int .i64 0,.int .i64 l,fv] w fun e w'=>e=.returned (.tuple #[])∧w'=w:=by
 go_enter Tryz.func196,Tryz.ntmps196
 go_wp2
 refine wp_loop_rounds 1 ?_
 rw [rounds_succ]
 go_wp2_with (go_at_call 207;refine (jjG fv w).mono ?_;rintro e w' ⟨rfl,rfl⟩)
 (try simp only [Exit.inBlock,Exit.then]);refine bodyPost_ret (results_none rfl _ _ _) rfl ?_
 exact⟨rfl,rfl⟩
theorem jgN (fv:Value)(w:World):Calls Tryz.prog 182 #[.slice none 0 0,fv] w fun e w'=>e=.returned (.tuple #[])∧w'=w:=by
 go_enter Tryz.func182,Tryz.ntmps182
 go_wp2_with fail
 refine (len64 0 w (by omega)).mono ?_
 rintro e w1 ⟨⟨l,rfl⟩,he⟩
 rw [he]
 clear he
 go_wp2_with fail
 refine (jks l fv w).mono ?_
 rintro e w2 ⟨rfl,he⟩
 rw [he]
 clear he
 go_wp2
 go_end0
 exact⟨rfl,rfl⟩
theorem jh3 (Bm b:Nat)(es:Es)(w:World)(hE:MapE w b es)(hnd:(es.map Prod.fst).Nodup)(hok:∀ p∈es,p.1.ok)(hsz:es.length≤12)(hm:w.heap[Bm]?=some (.cells #[.map (some b)] 121)) :
  Calls Tryz.prog 163 #[.func (.func 183) #[] #[.pointer (some ⟨Bm,0,none⟩)],.func (.func 165) #[] #[]] w fun e w'=>∃ (v:Value) (ks:List Ky),e=.returned v∧ks.Perm (es.map Prod.fst)∧KRow w' w.heap.size v ks∧Below w.heap.size w w':=by
 have H:=hide (jfg Bm b es w hE hnd hok (by omega) hm)
 clear hE hnd hok hm
 go_enter Tryz.func163,Tryz.ntmps163
 go_wp2_with fail
 refine H.out.mono ?_
 rintro e w2 ⟨v,ks,rfl,hp,ho,hb⟩
 have hln:ks.length=es.length:=by rw [hp.length_eq,List.length_map]
 rcases ho.2 with ⟨rfl,h0⟩ | ⟨g,cap,cur,rfl,hbg,hh,hnc,_⟩
 ·have hk0:ks=[]:=List.length_eq_zero_iff.1 h0
  subst hk0
  have HP:=hide hp
  have HB:=hide hb
  clear hp ho hb H h0
  go_wp2_with fail
  refine (jgN _ w2).mono ?_
  rintro e w3 ⟨rfl,he⟩
  rw [he]
  clear he
  go_wp2
  go_ret
  exact⟨_,[],rfl,HP.out,Or.inl ⟨rfl,rfl⟩,HB.out⟩
 ·have hH:=jhi ho rfl
  have hgl:=ltB hh
  obtain⟨n,hn⟩:∃ n,n=ks.length:=⟨_,rfl⟩
  rw [←hn]
  have HS:=hide (jic g cap n ks.toArray w2 hH hgl (by simpa using hn.symm) (by omega))
  have hpm:=jds (ltOf cmpK) ks.toArray
  have HP:=hide hp
  have HB:=hide hb
  have HH:=hide hH
  have HN:=hide hn
  clear hp ho hb H hH hh hn
  go_wp2_with fail
  refine HS.out.mono ?_
  rintro e w3 ⟨rfl,m,os,he⟩
  have HE:=hide he
  clear he
  go_wp2
  go_ret
  obtain⟨D,hD⟩:∃ D,D=insertionSort (ltOf cmpK) ks.toArray 0 ks.toArray.size:=⟨_,rfl⟩
  have he:=HE.out
  rw [←hD] at he hpm
  have hDs:D.size=ks.length:=by simpa using hpm.2
  have hk:=je9 w2 g m D os
  have hh:=jdt w2 g m ks.toArray D os HH.out hgl (by simpa using hDs)
  rw [←he] at hk hh
  refine⟨_,D.toList,rfl,(by simpa using hpm.1:D.toList.Perm ks).trans HP.out,Or.inr ⟨g,cap,?_,?_,hbg,Nat.lt_of_lt_of_le hgl hk.size,by simpa using hh⟩,?_⟩
  ·rw [HN.out];simp [hDs]
  ·simp [hDs];exact hnc
  ·exact HB.out.trans (hk.below HB.out.size (fun c hc=>by rw [hc];exact hbg))
def jag (es:Es)(k:Ky):Qt:=((fndG k es).map Prod.snd).getD ⟨0,0,0,0,0⟩
def recs (es:Es)(ks:List Ky):List Int:=ks.flatMap fun k=>kby k ++ qby (jag es k)
theorem jf5 (es:Es)(ks:List Ky):(recs es ks).length=41 * ks.length:=by
 unfold recs
 induction ks with
 | nil=>rfl
 | cons k r ih=>rw [List.flatMap_cons,List.length_append,ih,List.length_append,jbQ];simp [kby];omega
theorem jgq (es:Es)(ks:List Ky)(i:Nat)(hi:i<ks.length):recs es (ks.take (i+1))=recs es (ks.take i) ++ kby ks[i] ++ qby (jag es ks[i]):=by
 rw [List.take_add_one,List.getElem?_eq_getElem hi]
 unfold recs
 rw [List.flatMap_append]
 simp [List.append_assoc]
theorem jku {ops:Array Oper}{o:Oper}{a:Act}{w:World}{K:Act→World→Prop}{Q:Exit→Act→World→Prop}{E:Prop}{R:Ending→World→Prop}(hg:o.guard=none)(f:FuncId)(cap:Array Value)(hcf:∀ vs w,Sem.run Tryz.prog (callFunc f vs) w=.ok (.enter f vs) w)(s:Operand)(xs:Array Operand)(tys:Array TypeId)
  (hop:o.op=.call { callee:=.value s,args:=xs,argTypes:=tys }) (hs:a.eval s=.func (.func f) #[] cap) (vs:Array Value) (hx:xs.map a.eval=vs) (hC:Calls Tryz.prog f (vs ++ cap) w R)
  (hR:∀ e w',R e w'→∃ v,e=.returned v∧K (a.put o.dst v) w') :
  if Region.wanted o (yielded ops a.tmps)=true then Oper.wp Tryz.prog o a w K Q else E:=by
 have hw:Region.wanted o (yielded ops a.tmps)=true:=by simp [Region.wanted,hg]
 rw [if_pos hw]
 have hr:(execOp a.eval o).run Tryz.prog w=.ok (.enter f (vs ++ cap)) w:=by
  subst hx
  simp only [execOp,hop,resolve,hs,Deferred.ofValue]
  simp [invoke,hcf]
 unfold Oper.wp
 rw [hr,Oper.upon_enter]
 refine hC.mono ?_
 intro e w' h
 obtain⟨v,rfl,h2⟩:=hR e w' h
 exact h2
theorem fldE1 (p1 p2:Qt)(w:World):(Instr.field 177 (.agg #[.int .u8 p1.kd,.int .u64 p1.x,.int .u64 p1.y,.int .u64 p1.lv,.int .u64 p1.wn,.int .u8 p2.kd,.int .u64 p2.x,.int .u64 p2.y,.int .u64 p2.lv,.int .u64 p2.wn]) 1).run Tryz.prog w=.ok (.agg #[.int .u8 p2.kd,.int .u64 p2.x,.int .u64 p2.y,.int .u64 p2.lv,.int .u64 p2.wn]) w:=by kernel_rfl
theorem bldR (k:Ky)(p2:Qt)(w:World):(Instr.build 175 #[(0,.agg #[.int .u8 k.k0,.int .u8 k.k1,.int .u8 k.k2,.int .u8 k.k3,.int .u8 k.k4,.int .u8 k.k5,.int .u8 k.k6,.int .u8 k.k7]),(1,.agg #[.int .u8 p2.kd,.int .u64 p2.x,.int .u64 p2.y,.int .u64 p2.lv,.int .u64 p2.wn])]).run Tryz.prog w=.ok (.agg #[.int .u8 k.k0,.int .u8 k.k1,.int .u8 k.k2,.int .u8 k.k3,.int .u8 k.k4,.int .u8 k.k5,.int .u8 k.k6,.int .u8 k.k7,.int .u8 p2.kd,.int .u64 p2.x,.int .u64 p2.y,.int .u64 p2.lv,.int .u64 p2.wn]) w:=by kernel_rfl
theorem jiW (vs:Array Value)(w:World):Sem.run Tryz.prog (callFunc 193 vs) w=.ok (.enter 193 vs) w:=by simp [go_sem]
structure Tld (w1 wr:World)(bb base:Nat)(v0:Value)(bs:List Int):Prop where
 box:∃ b,wr.heap[bb]?=some (.cells #[b] 76)∧wr.ownsRow base 5 1 b bs.length (bs.map (Value.int .u8))∧(b.ownBlock=v0.ownBlock∨∃ g,b.ownBlock=some g∧w1.heap.size≤g)
 keep:Keep (fun c=>c=bb∨v0.ownBlock=some c) w1 wr
theorem jft (b bb base:Nat)(es:Es)(x0:Int)(xs:List Int)(v0:Value)(w:World)(hE:MapE w b es)(hnd:(es.map Prod.fst).Nodup)(hok:∀ p∈es,p.1.ok)(hq:∀ p∈es,p.2.2.fit)(hsz:es.length≤12)(hx:0≤x0∧x0≤100)(hxl:xs.length≤100)(hbase:base≤w.heap.size)
  (hT:Tld w w bb base v0 (x0 :: xs)) :
  Calls Tryz.prog 143 #[.map (some b),.func (.func 193) #[] #[.pointer (some ⟨bb,0,none⟩)]] w fun e w'=>e=.returned (.tuple #[])∧∃ ks:List Ky,ks.Perm (es.map Prod.fst)∧Tld w w' bb base v0 ((x0+ks.length) :: (xs ++ recs es ks)):=by
 have hbl:=MapG.lt hE
 obtain⟨b0,hb0,ho0,ha0⟩:=hT.box
 have hbbl:=ltB hb0
 have hb0v:b0.ownBlock=v0.ownBlock:=by
  rcases ha0 with h | ⟨g,h,hg⟩
  ·exact h
  ·have:=(ja5 ho0 h).2
   omega
 clear ha0
 have HE:=hide hE
 have HT:=hide hT
 have HND:=hide hnd
 have HOK:=hide hok
 have HQ:=hide hq
 clear hE hT hnd hok hq
 go_enter Tryz.func143,Tryz.ntmps143
 go_wp2_with fail
 refine (jkT b w).mono ?_
 rintro e w1 ⟨rfl,hw1⟩
 have hm1:w1.heap[w.heap.size]?=some (.cells #[.map (some b)] 121):=hw1▸ja1 _ _
 have hB1:Below w.heap.size w w1:=hw1▸(Below.refl _ w).alloc (Nat.le_refl _) _
 have hE1:MapE w1 b es:=MapG.kept HE.out (hB1.block b hbl)
 have HS:=hide (jh3 w.heap.size b es w1 hE1 HND.out HOK.out hsz hm1)
 have HB1:=hide hB1
 clear hw1 hm1 hB1 hE1
 go_wp2_with fail
 refine HS.out.mono ?_
 rintro e w2 ⟨v,ks,rfl,hp,hK,hB2⟩
 have hs1:=HB1.out.size
 have hs2:=hB2.size
 have hBB:Below w.heap.size w w2:=HB1.out.trans (hB2.mono hs1)
 have hE2:MapE w2 b es:=MapG.kept HE.out (hBB.block b hbl)
 have hln:ks.length=es.length:=by rw [hp.length_eq,List.length_map]
 have hT2:Tld w2 w2 bb base v0 (x0 :: xs):=
  ⟨⟨b0,(hBB.block bb hbbl).trans hb0,ja7 ho0 (fun g hg=>hBB.block g (ja5 ho0 hg).2),Or.inl hb0v⟩,Keep.refl _ _⟩
 have hmem:∀ i (h:i<ks.length),∃ p,fndG ks[i] es=some p∧ks[i].ok∧p.2.fit:=fun i h=>by
  have h1:ks[i]∈es.map Prod.fst:=hp.mem_iff.1 (List.getElem_mem h)
  obtain⟨⟨k',p⟩,h2,h3⟩:=List.mem_map.1 h1
  dsimp only at h3
  subst h3
  exact⟨p,jak HND.out h2,HOK.out _ h2,HQ.out _ h2⟩
 have HP:=hide hp
 have HM:=hide hmem
 have HT2:=hide hT2
 have HE2:=hide hE2
 have HBB:=hide hBB
 clear hp hmem hT2 hE2 hBB hB2 HS
 obtain⟨n,hn⟩:∃ n,n=ks.length:=⟨_,rfl⟩
 obtain⟨av,cv,hv⟩:∃ av cv,v=.slice av n cv:=by
  rcases hK with ⟨rfl,rfl⟩ | ⟨g,cap,rfl,_⟩
  ·exact⟨_,_,by rw [hn];rfl⟩
  ·exact⟨_,_,by rw [hn]⟩
 have hKc:∀ i,i<n→∃ g,av=some ⟨g,0,none⟩∧n≤cv∧w.heap.size≤g∧g<w2.heap.size∧∀ j,j<8→w2.cell? ⟨g,i * 8+j,none⟩=(jat (ks.getD i default))[j]?:=fun i hi=>by
  rcases hK with ⟨rfl,rfl⟩ | ⟨g,cap,h1,h2,h3,h4,h5⟩
  ·simp at hn;omega
  ·rw [h1] at hv
   injection hv with e1 e2 e3
   subst e1 e3
   refine⟨g,rfl,by omega,by omega,h4,fun j hj=>?_⟩
   rw [jfI h5 i (by omega) j hj]
   simp [List.getD,List.getElem?_eq_getElem (show i<ks.length by omega)]
 subst hv
 have HKC:=hide hKc
 have HN:=hide hn
 clear hKc hK hn
 go_wp2_with fail
 go_loopw [12] (fun s12 wr=>∃ i:Nat,i≤n∧s12=.int .i64 i∧Tld w2 wr bb base v0 ((x0+i) :: (xs ++ recs es (ks.take i)))) (fun s12 _=>n - (intOf s12).toNat)
 case atStart=>exact⟨0,by omega,rfl,by simpa [recs] using HT2.out⟩
 case round=>
  obtain⟨i,hi,rfl,hTi⟩:=hrel
  have hki:=hTi.keep
  have hsi:=hki.size
  by_cases hlt:i<n
  ·have hltI:(i:Int)<(n:Int):=by omega
   have hi0:(0:Int)≤(i:Int):=by omega
   obtain⟨g,rfl,hgc,hwg,hgl,hcell⟩:=HKC.out i hlt
   obtain⟨p,hp,hkok,hfit⟩:=HM.out i (by have:=HN.out;omega)
   obtain⟨k,hk⟩:∃ k,k=ks.getD i default:=⟨_,rfl⟩
   have hke:ks[i]'(by have:=HN.out;omega)=k:=by rw [hk];simp [List.getD,List.getElem?_eq_getElem (show i<ks.length by have:=HN.out;omega)]
   rw [hke] at hp hkok
   rw [←hk] at hcell
   obtain⟨bi,hbi,hoi,hai⟩:=hTi.box
   have hgi:wr.heap[g]?=w2.heap[g]?:=hki.block g hgl (fun h=>h.elim (fun e=>by omega) (fun e=>by rw [←hb0v] at e;have:=(ja5 ho0 e).2;omega))
   have hci:∀ j,j<8→wr.cell? ⟨g,i * 8+j,none⟩=(jat k)[j]?:=fun j hj=>(World.cell?_of_block (w:=w2) hgi).trans (hcell j hj)
   have hEi:MapE wr b es:=MapG.kept HE2.out (hki.block b (MapG.lt HE2.out) (fun h=>h.elim (fun e=>MapG.ne HE.out hb0 e) (fun e=>by
     rw [←hb0v] at e
     rcases ho0.2 with ⟨h2,_⟩ | ⟨g',cap',cur,h2,_,hh,_⟩
     · rw [h2] at e;simp [Value.ownBlock] at e
     · rw [h2] at e;simp [Value.ownBlock] at e;subst e;exact MapG.ne HE.out hh rfl)))
   have k0:=hci 0 (by omega)
   have k1:=hci 1 (by omega)
   have k2:=hci 2 (by omega)
   have k3:=hci 3 (by omega)
   have k4:=hci 4 (by omega)
   have k5:=hci 5 (by omega)
   have k6:=hci 6 (by omega)
   have k7:=hci 7 (by omega)
   rw [Nat.add_zero] at k0
   obtain⟨V,hV⟩:∃ V,V=wr.alloc (.cells (jat k) 63):=⟨_,rfl⟩
   obtain⟨X,hX⟩:∃ X,X=wr.heap.size:=⟨_,rfl⟩
   have hxV:V.heap[X]?=some (.cells (jat k) 63):=by rw [hX,hV];exact ja1 _ _
   have hbV:V.heap[bb]?=some (.cells #[bi] 76):=hV▸upB hbi _
   have hoV:=hV▸hoi.alloc (.cells (jat k) 63)
   have hEV:MapE V b es:=MapG.kept hEi (hV▸ja3 _ _ (MapG.lt hEi))
   have hbsV:base≤V.heap.size:=by rw [hV];simp;have:=HBB.out.size;omega
   obtain⟨p1,p2⟩:=p
   have hlk:(Instr.lookup 121 (.map (some b)) (.agg #[.int .u8 k.k0,.int .u8 k.k1,.int .u8 k.k2,.int .u8 k.k3,.int .u8 k.k4,.int .u8 k.k5,.int .u8 k.k6,.int .u8 k.k7]) false).run Tryz.prog V.drew=.ok (.agg #[.int .u8 p1.kd,.int .u64 p1.x,.int .u64 p1.y,.int .u64 p1.lv,.int .u64 p1.wn,.int .u8 p2.kd,.int .u64 p2.x,.int .u64 p2.y,.int .u64 p2.lv,.int .u64 p2.wn]) V.drew:=by
    have:=MapG.look1 mkey (w:=V.drew) (hEV.kept rfl) hkok undE (zeroE _)
    rw [hp] at this
    exact this
   have hll:(xs ++ recs es (ks.take i)).length≤1000:=by
    rw [List.length_append,jf5,List.length_take]
    have:=HN.out
    omega
   have hn12:n≤12:=by have:=HN.out;omega
   have HTE:=hide (jk8 bb base (xs ++ recs es (ks.take i)).length (x0+i) (xs ++ recs es (ks.take i)) bi k p2 V.drew rfl hbV hoV (by omega) (by omega) hbsV hfit)
   have HRT:Hid (recs es (ks.take (i+1))=recs es (ks.take i) ++ kby k ++ qby p2):=hide (by rw [jgq es ks i (by have:=HN.out;omega),hke];unfold jag;rw [hp];rfl)
   have hf1:=fldE1 p1 p2
   have hf2:=bldR k p2
   have HTI:=hide hTi
   have HKI:=hide hki
   have HAI:=hide hai
   have HVV:=hide hV
   have HOI:=hide hoi
   have HSI:=hide hsi
   have cX:=cellB hxV
   clear hTi hki hoV hEV hEi hci hcell hgi hp hke hk hll hbsV hoi hai hbi hxV hfit hsi
   go_upto_region 4 with fail
   rw [←hV,←hX]
   have HXX:=hide hX
   clear hX hV k0 k1 k2 k3 k4 k5 k6 k7
   go_region_law (refine jku (by rfl) 193 #[.pointer (some ⟨bb,0,none⟩)] jiW _ _ _ (by rfl) (by rfl) #[.agg #[.int .u8 k.k0,.int .u8 k.k1,.int .u8 k.k2,.int .u8 k.k3,.int .u8 k.k4,.int .u8 k.k5,.int .u8 k.k6,.int .u8 k.k7,.int .u8 p2.kd,.int .u64 p2.x,.int .u64 p2.y,.int .u64 p2.lv,.int .u64 p2.wn]] (by simp only [List.map_toArray,List.map_cons,List.map_nil];rfl) HTE.out ?_;rintro e w5 ⟨rfl,b5,h51,h52,h53,h54⟩;refine⟨_,rfl,?_⟩;have H51:=hide h51;have H52:=hide h52;have H53:=hide h53;have H54:=hide h54;clear h51 h52 h53 h54)
   all_goals (
     go_wp2
     go_roundw
     case rel=>
       have hV:=HVV.out
       have hsV:V.heap.size=wr.heap.size+1:=by rw [hV];simp
       have eL:(x0+((i+1:Nat):Int)) :: (xs ++ recs es (ks.take (i+1)))=(x0+i+1) :: (xs ++ recs es (ks.take i) ++ kby k ++ qby p2):=by
         rw [HRT.out]
         simp [List.append_assoc]
         omega
       have eN:((x0+((i+1:Nat):Int)) :: (xs ++ recs es (ks.take (i+1)))).length=(xs ++ recs es (ks.take i)).length+42:=by
         rw [eL]
         simp [jbQ,kby]
         omega
       have hs2:=HKI.out.size
       refine⟨i+1,by omega,by go_num,⟨_,H51.out,?_,?_⟩,?_⟩
       · rw [eN,eL]
         exact H52.out
       · rcases H54.out with e | ⟨g',e,h'⟩
         · rcases HAI.out with e2 | ⟨g',e2,h'⟩
           · exact Or.inl (e.trans e2)
           · exact Or.inr ⟨g',e.trans e2,h'⟩
         · exact Or.inr ⟨g',e,by have h2:V.heap.size≤g':=h';omega⟩
       · refine (HKI.out.then (T:=fun _=>False) (b:=wr) (c:=V) (by rw [hV];exact (Keep.refl _ wr).alloc _) (fun _ _ h=>h.elim)).then (b:=V) ⟨H53.out.os,H53.out.tape,H53.out.output,H53.out.size,H53.out.block⟩ (fun j hj h=>?_)
         rcases h with h | h
         · exact Or.inl h
         · rcases HAI.out with e2 | ⟨g',e2,h'⟩
           · exact Or.inr (e2▸h)
           · rw [e2] at h;injection h with h;omega
     case measure=>simp [intOf];omega)
  ·obtain rfl:i=n:=by omega
   have HTI:=hide hTi
   clear hTi hki hsi
   go_wp2
   go_end0
   have etk:ks.take i=ks:=List.take_of_length_le (by rw [←HN.out];exact Nat.le_refl _)
   have hT:=HTI.out
   rw [etk] at hT
   obtain⟨bi,hbi,hoi,hai⟩:=hT.box
   have hsz:=HBB.out.size
   refine⟨rfl,ks,HP.out,⟨bi,hbi,?_,hai.imp id (fun ⟨g',e,h⟩=>⟨g',e,by omega⟩)⟩,(Keep.of_below HBB.out).trans hT.keep⟩
   rw [←HN.out]
   exact hoi
end Go.Proofs.YtnlgndpcddngoaaGreatDoor
namespace Go.Proofs.YtnlgndpcddngoaaGreatDoor
open Go.RowKit
theorem jd6 (g o:Nat)(x:Int)(w:World)(h:w.cell? ⟨g,o,none⟩=some (.int .u32 x)) :
  Calls Tryz.prog 221 #[.pointer (some ⟨g,o,none⟩)] w fun e w'=>e=.returned (.bool (x != 0))∧w'=w:=by
 have hl:=run_call_load (P:=Tryz.prog) Tryz.func232 (by kernel_rfl) (by kernel_rfl) (by kernel_rfl) .u32 (by kernel_rfl) (a:=⟨g,o,none⟩) (x:=x) h
 go_enter Tryz.func221,Tryz.ntmps221
 go_wp2
 go_ret
 exact⟨rfl,rfl⟩
theorem jgR (g o:Nat)(fv:Value)(w:World)(h:w.cell? ⟨g,o,none⟩=some (.int .u32 1)) :
  Calls Tryz.prog 202 #[.pointer (some ⟨g,o,none⟩),fv] w fun e w'=>e=.returned (.tuple #[])∧w'=w:=by
 go_enter Tryz.func202,Tryz.ntmps202
 go_wp2_with (go_at_call 221;refine (jd6 g o 1 _ h).mono ?_;rintro e w' ⟨rfl,rfl⟩)
 go_end0
 exact⟨rfl,rfl⟩
def crcS (rest c:Int):Int:=bits BinOp.xor IntKind.u64 (rowM (bits BinOp.xor IntKind.u8 (rest % 256) c).toNat) (rest / 256)
def crcL:Int→List Int→Int
 | r,[]=>r
 | r,c :: t=>crcL (crcS r c) t
theorem jjT (op:BinOp)(a b:Int):0≤bits op .u8 a b∧bits op .u8 a b≤255:=by
 have h:=bounds_u8 (Go.wf_bits op .u8 a b)
 exact⟨h.1,by omega⟩
theorem jhd (r c:Int):0≤crcS r c∧crcS r c≤18446744073709551615:=jd8 _ _ _
theorem jhn:∀ (bs:List Int) (r:Int),0≤r→r≤18446744073709551615→0≤crcL r bs∧crcL r bs≤18446744073709551615
 | [],_,h0,h1=>⟨h0,h1⟩
 | c :: t,r,_,_=>jhn t _ (jhd r c).1 (jhd r c).2
theorem jdQ:∀ (bs:List Int) (r c:Int),crcL r (bs ++ [c])=crcS (crcL r bs) c
 | [],_,_=>rfl
 | b :: t,r,c=>jdQ t (crcS r b) c
def sumM (bs:List Int):Int:=bits BinOp.xor IntKind.u64 IntKind.u64.max (crcL 18446744073709551615 bs)
structure TabOk (w:World)(g o:Nat):Prop where
 once:∃ d:Bool,w.cell? ⟨g,o,none⟩=some (.int .u32 (if d then 1 else 0))∧∀ j,j<256→∃ u,w.cell? ⟨g,o+3+j,none⟩=some (.int .u64 u)∧(d=true→u=rowM j)
 mu:w.cell? ⟨g,o+1,none⟩=some (.int .i32 0)
 fro:∀ j,j<259→w.frozen? ⟨g,o+j,none⟩=false
theorem jfU (a:Addr)(v:Value)(u:FrameMode)(w:World)(h:w.cell? a=some v)(hf:w.frozen? a=false) :
  CallsD Tryz.prog 233 #[.pointer (some a),.bool true] u w fun e u' w'=>u'=u∧(e=.returned (.tuple #[])∧w'=w.drew.setCell a (.int .u32 1)):=by
 have hc':w.drew.cell? a=some v:=by go_simp
 have hz':w.drew.frozen? a=false:=by go_simp
 have hst:=run_call_store (P:=Tryz.prog) Tryz.func235 (by kernel_rfl) (by kernel_rfl) (by kernel_rfl) (by kernel_rfl) (k:=.u32) (y:=1) hc' hz'
 go_enter_d Tryz.func233,Tryz.ntmps233
 go_wp2
 go_region_calls
 all_goals (go_end0;exact⟨rfl,rfl⟩)
theorem jgF (g o:Nat)(w:World)(h0:w.cell? ⟨g,o,none⟩=some (.int .u32 0))(h1:w.cell? ⟨g,o+1,none⟩=some (.int .i32 0))(f0:w.frozen? ⟨g,o,none⟩=false)(f1:w.frozen? ⟨g,o+1,none⟩=false)
  (hT:TabI (w.setCell ⟨g,o+1,none⟩ (.int .i32 1)) g o 0 (w.setCell ⟨g,o+1,none⟩ (.int .i32 1))) :
  Calls Tryz.prog 222 #[.pointer (some ⟨g,o,none⟩),.func (.func 203) #[.pointer (some ⟨g,o,none⟩)] #[]] w fun e w'=>e=.returned (.tuple #[])∧∃ w2,TabI (w.setCell ⟨g,o+1,none⟩ (.int .i32 1)) g o 256 w2∧w'=(w2.drew.setCell ⟨g,o,none⟩ (.int .u32 1)).setCell ⟨g,o+1,none⟩ (.int .i32 0):=by
 have HT:=hide hT
 clear hT
 obtain⟨W,hW⟩:∃ W,W=w.setCell ⟨g,o+1,none⟩ (.int .i32 1):=⟨_,rfl⟩
 have a0:W.cell? ⟨g,o,none⟩=some (.int .u32 0):=by rw [hW];exact (World.cell?_setCell_other _ ⟨g,o+1,none⟩ ⟨g,o,none⟩ _ (by simp)).trans h0
 have a1:W.cell? ⟨g,o+1,none⟩=some (.int .i32 1):=by rw [hW];exact World.cell?_setCell_same w _ _ h1
 have b0:W.frozen? ⟨g,o,none⟩=false:=by rw [hW,World.frozen?_setCell];exact f0
 have b1:W.frozen? ⟨g,o+1,none⟩=false:=by rw [hW,World.frozen?_setCell];exact f1
 rw [←hW] at HT ⊢
 have HA1:=hide a1
 have HB0:=hide b0
 have HB1:=hide b1
 clear a1 b0 b1
 go_enter_defers Tryz.func222,Tryz.ntmps222
 go_wp2_with fail
 refine (lockA ⟨g,o+1,none⟩ _ h1 f1).mono ?_
 rintro e w' ⟨rfl,he⟩
 rw [he,←hW]
 clear he hW
 go_wp2_with fail
 refine (jd6 g o 0 _ a0).mono ?_
 rintro e w' ⟨rfl,he⟩
 rw [he]
 clear he
 go_wp2_with fail
 refine (jir g o W HT.out).mono ?_
 rintro e w2 ⟨rfl,T2⟩
 have HT2:=hide T2
 clear T2
 go_wp2
 refine leaves_cons (f:=233) (args:=#[.pointer (some ⟨g,o,none⟩),.bool true]) (by simp) (by simp [go_sem]) ?_
 have c0:=HT2.out.cel o (Or.inl (by omega))
 have c1:=HT2.out.cel (o+1) (Or.inl (by omega))
 refine (jfU ⟨g,o,none⟩ (.int .u32 0) .returning _ (c0.1.trans a0) (c0.2.trans HB0.out)).mono ?_
 rintro e u' w'' ⟨rfl,rfl,rfl⟩
 refine leaves_cons (f:=46) (args:=#[.pointer (some ⟨g,o+1,none⟩)]) (by simp [settle]) (by simp [go_sem]) ?_
 refine (jev ⟨g,o+1,none⟩ _ _ ?_ ?_).mono ?_
 ·refine (World.cell?_setCell_other _ ⟨g,o,none⟩ ⟨g,o+1,none⟩ _ (by simp)).trans ?_
  rw [World.cell?_drew]
  exact c1.1.trans HA1.out
 ·rw [World.frozen?_setCell,World.frozen?_drew]
  exact c1.2.trans HB1.out
 rintro e u' w'' ⟨rfl,rfl,rfl⟩
 exact⟨_,results_none rfl _ _ _,rfl,w2,HT2.out,rfl⟩
theorem jfG (g o:Nat)(w:World)(h0:w.cell? ⟨g,o,none⟩=some (.int .u32 0))(h1:w.cell? ⟨g,o+1,none⟩=some (.int .i32 0))(f0:w.frozen? ⟨g,o,none⟩=false)(f1:w.frozen? ⟨g,o+1,none⟩=false)
  (hT:TabI (w.setCell ⟨g,o+1,none⟩ (.int .i32 1)) g o 0 (w.setCell ⟨g,o+1,none⟩ (.int .i32 1))) :
  Calls Tryz.prog 202 #[.pointer (some ⟨g,o,none⟩),.func (.func 203) #[.pointer (some ⟨g,o,none⟩)] #[]] w fun e w'=>e=.returned (.tuple #[])∧∃ w2,TabI (w.setCell ⟨g,o+1,none⟩ (.int .i32 1)) g o 256 w2∧w'=(w2.drew.setCell ⟨g,o,none⟩ (.int .u32 1)).setCell ⟨g,o+1,none⟩ (.int .i32 0):=by
 have HC:=hide (jgF g o w h0 h1 f0 f1 hT)
 clear hT
 go_enter Tryz.func202,Tryz.ntmps202
 go_wp2_with fail
 refine (jd6 g o 0 _ h0).mono ?_
 rintro e w' ⟨rfl,he⟩
 rw [he]
 clear he
 go_wp2_with fail
 refine HC.out.mono ?_
 rintro e w' ⟨rfl,HE⟩
 have HE:=hide HE
 go_wp2
 go_end0
 exact⟨rfl,HE.out⟩
structure TabTo (V X:World)(g o:Nat):Prop where
 d:X.cell? ⟨g,o,none⟩=some (.int .u32 1)
 mu:X.cell? ⟨g,o+1,none⟩=some (.int .i32 0)
 row:∀ j,j<256→X.cell? ⟨g,o+3+j,none⟩=some (.int .u64 (rowM j))
 fro:∀ j,j<259→X.frozen? ⟨g,o+j,none⟩=false
 cel:∀ j,(j<o∨o+259≤j)→X.cell? ⟨g,j,none⟩=V.cell? ⟨g,j,none⟩∧X.frozen? ⟨g,j,none⟩=V.frozen? ⟨g,j,none⟩
 keep:Keep (fun c=>c=g) V X
theorem jj5 (g o:Nat)(w:World)(h:TabOk w g o) :
  Calls Tryz.prog 202 #[.pointer (some ⟨g,o,none⟩),.func (.func 203) #[.pointer (some ⟨g,o,none⟩)] #[]] w fun e X=>e=.returned (.tuple #[])∧TabTo w X g o:=by
 obtain⟨d,hd,hr⟩:=h.once
 have f0:w.frozen? ⟨g,o,none⟩=false:=h.fro 0 (by omega)
 have f1:=h.fro 1 (by omega)
 cases d with
 | true=>
  refine (jgR g o _ w hd).mono ?_
  rintro e X ⟨rfl,rfl⟩
  refine⟨rfl,hd,h.mu,fun j hj=>?_,h.fro,fun _ _=>⟨rfl,rfl⟩,Keep.refl _ _⟩
  obtain⟨u,hu,hur⟩:=hr j hj
  rw [hu,hur rfl]
 | false=>
  refine (jfG g o w hd h.mu f0 f1 ?_).mono ?_
  ·refine⟨fun j hj=>?_,fun j hj=>?_,fun _ _=>⟨rfl,rfl⟩,Keep.refl _ _⟩
   ·obtain⟨u,hu,_⟩:=hr j hj
    refine⟨u,?_,fun h=>by omega⟩
    rw [World.cell?_setCell_other _ _ _ _ (by intro e;injection e with _ e2 _;omega)]
    exact hu
   ·rw [World.frozen?_setCell,Nat.add_assoc]
    exact h.fro (3+j) (by omega)
  ·rintro e X ⟨rfl,w2,T2,rfl⟩
   have c:∀ j,(j<o+3∨o+259≤j)→j≠o→j≠o+1→((w2.drew.setCell ⟨g,o,none⟩ (.int .u32 1)).setCell ⟨g,o+1,none⟩ (.int .i32 0)).cell? ⟨g,j,none⟩=w.cell? ⟨g,j,none⟩:=fun j hj h1 h2=>by
    rw [World.cell?_setCell_other _ _ _ _ (by intro e;injection e with _ e2 _;omega),World.cell?_setCell_other _ _ _ _ (by intro e;injection e with _ e2 _;omega),World.cell?_drew,(T2.cel j hj).1,World.cell?_setCell_other _ _ _ _ (by intro e;injection e with _ e2 _;omega)]
   have f:∀ j,(j<o+3∨o+259≤j)→((w2.drew.setCell ⟨g,o,none⟩ (.int .u32 1)).setCell ⟨g,o+1,none⟩ (.int .i32 0)).frozen? ⟨g,j,none⟩=w.frozen? ⟨g,j,none⟩:=fun j hj=>by
    rw [World.frozen?_setCell,World.frozen?_setCell,World.frozen?_drew,(T2.cel j hj).2,World.frozen?_setCell]
   have z0:w2.drew.cell? ⟨g,o,none⟩=some (.int .u32 0):=by
    rw [World.cell?_drew,(T2.cel o (Or.inl (by omega))).1,World.cell?_setCell_other _ _ _ _ (by intro e;injection e with _ e2 _;omega)]
    exact hd
   have z1:(w2.drew.setCell ⟨g,o,none⟩ (.int .u32 1)).cell? ⟨g,o+1,none⟩=some (.int .i32 1):=by
    rw [World.cell?_setCell_other _ _ _ _ (by intro e;injection e with _ e2 _;omega),World.cell?_drew,(T2.cel (o+1) (Or.inl (by omega))).1]
    exact World.cell?_setCell_same w _ _ h.mu
   refine⟨rfl,?_,World.cell?_setCell_same _ _ _ z1,fun j hj=>?_,fun j hj=>?_,fun j hj=>⟨c j (by omega) (by omega) (by omega),f j (by omega)⟩,?_⟩
   ·rw [World.cell?_setCell_other _ _ _ _ (by intro e;injection e with _ e2 _;omega)]
    exact World.cell?_setCell_same _ _ _ z0
   ·rw [World.cell?_setCell_other _ _ _ _ (by intro e;injection e with _ e2 _;omega),World.cell?_setCell_other _ _ _ _ (by intro e;injection e with _ e2 _;omega),World.cell?_drew]
    obtain⟨u,hu,hur⟩:=T2.row j hj
    rw [hu,hur hj]
   ·by_cases hj3:j<3
    ·rw [f (o+j) (by omega)]
     exact h.fro j hj
    ·rw [World.frozen?_setCell,World.frozen?_setCell,World.frozen?_drew]
     have:=T2.fro (j - 3) (by omega)
     rwa [show o+3+(j - 3)=o+j by omega] at this
   ·refine Keep.set (S:=fun c=>c=g) (b:=g) (Keep.set (S:=fun c=>c=g) (b:=g) ?_ (Or.inl rfl) _ _) (Or.inl rfl) _ _
    exact ((Keep.set (S:=fun c=>c=g) (b:=g) (Keep.refl _ w) (Or.inl rfl) _ _).trans T2.keep).drew
structure TabPost (w w':World)(g o:Nat):Prop where
 tab:TabOk w' g o
 cel:∀ j,(j<o∨o+259≤j)→w'.cell? ⟨g,j,none⟩=w.cell? ⟨g,j,none⟩∧w'.frozen? ⟨g,j,none⟩=w.frozen? ⟨g,j,none⟩
 keep:Keep (fun c=>c=g) w w'
theorem tabOf (g o b so n cap:Nat)(bs:List Int)(w:World)(hT:TabOk w g o)(hn:bs.length=n)(hnc:n≤cap)(hn1:n≤1048576)(hgl:g<w.heap.size)(hbl:b<w.heap.size)(hbg:b≠g)
  (hc:∀ j,j<n→w.cell? ⟨b,so+j,none⟩=some (.int .u8 (bs.getD j 0))) (hr:∀ j,0≤bs.getD j 0∧bs.getD j 0≤255) (v:Int) (hv:v=sumM bs) :
  Calls Tryz.prog 187 #[.pointer (some ⟨g,o,none⟩),.slice (some ⟨b,so,none⟩) n cap] w fun e w'=>e=.returned (.agg #[.int .u8 (nb v 0),.int .u8 (nb v 1),.int .u8 (nb v 2),.int .u8 (nb v 3),.int .u8 (nb v 4),.int .u8 (nb v 5),.int .u8 (nb v 6),.int .u8 (nb v 7)])∧TabPost w w' g o:=by
 have HT:=hide hT
 have HC:=hide hc
 have HR:=hide hr
 have HN:=hide hn
 have HVV:=hide hv
 clear hT hc hr hn hv
 have hmf:∀ (fn:Fn) (first cap:Array Value) (w:World),(Instr.makeFunc fn first cap).run Tryz.prog w=.ok (.func fn first cap) w:=fun _ _ _ _=>rfl
 go_enter Tryz.func187,Tryz.ntmps187
 go_wp2_with fail
 obtain⟨V0,hV⟩:∃ V,V=w.alloc (.cells #[.int .u8 0,.int .u8 0,.int .u8 0,.int .u8 0,.int .u8 0,.int .u8 0,.int .u8 0,.int .u8 0] 322):=⟨_,rfl⟩
 have hVb:Below w.heap.size w V0:=by rw [hV];exact (Below.refl _ w).alloc (Nat.le_refl _) _
 have hVn:V0.heap[w.heap.size]?=some (.cells #[.int .u8 0,.int .u8 0,.int .u8 0,.int .u8 0,.int .u8 0,.int .u8 0,.int .u8 0,.int .u8 0] 322):=by rw [hV];exact ja1 _ _
 rw [←hV]
 clear hV
 have hTV:TabOk V0 g o:=by
  obtain⟨d,h1,h2⟩:=HT.out.once
  exact⟨⟨d,(hVb.cell (p:=⟨g,o,none⟩) hgl).trans h1,fun j hj=>by obtain⟨u,hu,hx⟩:=h2 j hj;exact⟨u,(hVb.cell (p:=⟨g,o+3+j,none⟩) hgl).trans hu,hx⟩⟩,(hVb.cell (p:=⟨g,o+1,none⟩) hgl).trans HT.out.mu,fun j hj=>(hVb.frozen (p:=⟨g,o+j,none⟩) hgl).trans (HT.out.fro j hj)⟩
 refine (jj5 g o V0 hTV).mono ?_
 rintro e V ⟨rfl,TV⟩
 have HTV:=hide TV
 have HVB:=hide hVb
 have hsz:=TV.keep.size
 have hne:¬w.heap.size=g:=by omega
 have HVN:=hide ((TV.keep.block w.heap.size (ltB hVn) hne).trans hVn)
 have HCV:Hid (∀ j,j<n→V.cell? ⟨b,so+j,none⟩=some (.int .u8 (bs.getD j 0))):=hide (fun j hj=>(World.cell?_of_block (w:=V0) (TV.keep.block b (Nat.lt_of_lt_of_le hbl hVb.size) hbg)).trans ((hVb.cell (p:=⟨b,so+j,none⟩) hbl).trans (HC.out j hj)))
 clear TV hVb hVn hTV hsz hne
 go_wp2_with fail
 go_loopw [5,16] (fun s5 s16 wr=>∃ j:Nat,j≤n∧s16=.int .i64 j∧s5=.int .u64 (crcL 18446744073709551615 (bs.take j))∧wr=V) (fun _ s16 _=>n - (intOf s16).toNat)
 case atStart=>exact⟨0,by omega,rfl,by first | rfl | simp [crcL],by first | rfl | trivial⟩
 case round=>
  obtain⟨j,hj,rfl,rfl,hwe⟩:=hrel
  rw [hwe]
  clear hwe
  obtain⟨R,hR⟩:∃ R,R=crcL 18446744073709551615 (bs.take j):=⟨_,rfl⟩
  have hR0:=jhn (bs.take j) 18446744073709551615 (by omega) (by omega)
  rw [←hR] at hR0 ⊢
  have HRR:=hide hR
  clear hR
  by_cases hlt:j<n
  ·have hltI:(j:Int)<(n:Int):=by omega
   have hj0:(0:Int)≤(j:Int):=by omega
   obtain⟨c,hce⟩:∃ c,c=bs.getD j 0:=⟨_,rfl⟩
   have q0:V.cell? ⟨b,so+j,none⟩=some (.int .u8 c):=by rw [hce];exact HCV.out j hlt
   have hxr:=jjT BinOp.xor (R % 256) c
   have q1:=HTV.out.row (bits BinOp.xor IntKind.u8 (R % 256) c).toNat (by omega)
   have hxI:(0:Int)≤bits BinOp.xor IntKind.u8 (R % 256) c:=hxr.1
   have hx2:bits BinOp.xor IntKind.u8 (R % 256) c<256:=by omega
   have HCE:=hide hce
   clear hce hxr
   obtain⟨u,hu⟩:∃ u,u=rowM (bits BinOp.xor IntKind.u8 (R % 256) c).toNat:=⟨_,rfl⟩
   rw [←hu] at q1
   have HU:=hide hu
   clear hu
   go_wp2
   go_roundw
   case rel=>
    have hjl:j<bs.length:=by rw [HN.out];exact hlt
    have htk:bs.take (j+1)=bs.take j ++ [c]:=by
     rw [List.take_add_one,List.getElem?_eq_getElem hjl,HCE.out,List.getD_eq_getElem?_getD,List.getElem?_eq_getElem hjl]
     rfl
    refine⟨j+1,by omega,by go_num,?_,by first | rfl | trivial⟩
    rw [htk,jdQ,←HRR.out,HU.out]
    rfl
   case measure=>simp [intOf];omega
  ·obtain rfl:j=n:=by omega
   have etk:bs.take j=bs:=List.take_of_length_le (by rw [HN.out];exact Nat.le_refl _)
   have hve:v=bits BinOp.xor IntKind.u64 IntKind.u64.max R:=by rw [HVV.out,HRR.out,etk];rfl
   have hvr:=jd8 BinOp.xor IntKind.u64.max R
   rw [←hve] at hvr
   go_wp2_with fail
   rw [←hve]
   have HVE:=hide hve
   clear hve
   refine (jfS v V hvr.1 hvr.2).mono ?_
   rintro e w2 ⟨rfl,hb2⟩
   have hn2:=(hb2.block w.heap.size (ltB HVN.out)).trans HVN.out
   have c1:=cellB hn2
   have c2:=ja2 hn2
   have HB2:=hide hb2
   clear hb2 hn2
   go_wp2
   refine bodyPost_ret (v:=.agg #[.int .u8 (nb v 0),.int .u8 (nb v 1),.int .u8 (nb v 2),.int .u8 (nb v 3),.int .u8 (nb v 4),.int .u8 (nb v 5),.int .u8 (nb v 6),.int .u8 (nb v 7)]) (by simp [results,Tryz.results187,go_sem,c1]) rfl ⟨rfl,?_⟩
   have hgV:g<V.heap.size:=Nat.lt_of_lt_of_le hgl (Nat.le_trans HVB.out.size HTV.out.keep.size)
   have hgw:¬g=w.heap.size:=by omega
   obtain⟨X,hX⟩:∃ X,X=(((((((w2.setCell ⟨w.heap.size,0,none⟩ (.int .u8 (nb v 0))).setCell ⟨w.heap.size,1,none⟩ (.int .u8 (nb v 1))).setCell ⟨w.heap.size,2,none⟩ (.int .u8 (nb v 2))).setCell ⟨w.heap.size,3,none⟩ (.int .u8 (nb v 3))).setCell ⟨w.heap.size,4,none⟩ (.int .u8 (nb v 4))).setCell ⟨w.heap.size,5,none⟩ (.int .u8 (nb v 5))).setCell ⟨w.heap.size,6,none⟩ (.int .u8 (nb v 6))).setCell ⟨w.heap.size,7,none⟩ (.int .u8 (nb v 7)):=⟨_,rfl⟩
   rw [←hX]
   have hXg:X.heap[g]?=V.heap[g]?:=by
    rw [hX,ja0 hgw,ja0 hgw,ja0 hgw,ja0 hgw,ja0 hgw,ja0 hgw,ja0 hgw,ja0 hgw]
    exact HB2.out.block g hgV
   have hXc:∀ j,X.cell? ⟨g,j,none⟩=V.cell? ⟨g,j,none⟩:=fun j=>World.cell?_of_block (w:=V) hXg
   have hXf:∀ j,X.frozen? ⟨g,j,none⟩=V.frozen? ⟨g,j,none⟩:=fun j=>World.frozen?_of_block (w:=V) hXg
   refine⟨⟨⟨true,(hXc o).trans HTV.out.d,fun j hj=>⟨_,(hXc _).trans (HTV.out.row j hj),fun _=>rfl⟩⟩,(hXc _).trans HTV.out.mu,fun j hj=>(hXf _).trans (HTV.out.fro j hj)⟩,fun j hj=>⟨(hXc j).trans ((HTV.out.cel j hj).1.trans (HVB.out.cell (p:=⟨g,j,none⟩) hgl)),(hXf j).trans ((HTV.out.cel j hj).2.trans (HVB.out.frozen (p:=⟨g,j,none⟩) hgl))⟩,?_⟩
   have k0:Keep (fun c=>c=g) w w2:=((Keep.of_below HVB.out).trans HTV.out.keep).trans (Keep.of_below HB2.out)
   rw [hX]
   exact (((((((k0.set (Or.inr (Nat.le_refl _)) _ _).set (Or.inr (Nat.le_refl _)) _ _).set (Or.inr (Nat.le_refl _)) _ _).set (Or.inr (Nat.le_refl _)) _ _).set (Or.inr (Nat.le_refl _)) _ _).set (Or.inr (Nat.le_refl _)) _ _).set (Or.inr (Nat.le_refl _)) _ _).set (Or.inr (Nat.le_refl _)) _ _
end Go.Proofs.YtnlgndpcddngoaaGreatDoor
namespace Go.Proofs.YtnlgndpcddngoaaGreatDoor
open Go.RowKit Go.Maps
def imgA (turn time:Int)(es:Es)(ks:List Ky):List Int:=(ks.length:Int) :: (be8 turn ++ be8 time ++ recs es ks)
def imgB (turn time:Int)(es:Es)(ks:List Ky):List Int:=imgA turn time es ks ++ be8 (sumM (imgA turn time es ks))
theorem jaq (v:Int):Bytes (be8 v):=by
 intro x hx
 simp [be8] at hx
 rcases hx with h | h | h | h | h | h | h | h <;> subst h <;> exact jfb v _
theorem jfF (es:Es)(ks:List Ky)(hk:∀ k∈ks,k.ok∧(jag es k).fit):Bytes (recs es ks):=by
 intro x hx
 obtain⟨k,hk1,hx⟩:=List.mem_flatMap.1 hx
 obtain⟨h1,h2⟩:=hk k hk1
 rcases List.mem_append.1 hx with hx | hx
 ·simp [kby] at hx
  rcases hx with h | h | h | h | h | h | h | h <;> subst h
  ·exact h1.h0
  ·exact h1.h1
  ·exact h1.h2
  ·exact h1.h3
  ·exact h1.h4
  ·exact h1.h5
  ·exact h1.h6
  ·exact h1.h7
 ·unfold qby at hx
  simp only [List.mem_append] at hx
  rcases hx with (((hx | hx) | hx) | hx) | hx
  ·simp at hx;subst hx;exact h2.kd
  ·exact jaq _ x hx
  ·exact jaq _ x hx
  ·exact jaq _ x hx
  ·exact jaq _ x hx
theorem jbS (turn time:Int)(es:Es)(ks:List Ky)(hl:ks.length≤12)(hk:∀ k∈ks,k.ok∧(jag es k).fit):Bytes (imgA turn time es ks):=by
 intro x hx
 rcases List.mem_cons.1 hx with hx | hx
 ·subst hx;omega
 ·rcases List.mem_append.1 hx with hx | hx
  ·rcases List.mem_append.1 hx with hx | hx
   ·exact jaq _ x hx
   ·exact jaq _ x hx
  ·exact jfF es ks hk x hx
theorem jbK (turn time:Int)(es:Es)(ks:List Ky):(imgA turn time es ks).length=17+41 * ks.length:=by
 unfold imgA
 rw [List.length_cons,List.length_append,List.length_append,jf5]
 simp [be8]
 omega
theorem jfW {w:World}{base g n cap:Nat}{bs:List Int}(h:w.ownsRow base 5 1 (.slice (some ⟨g,0,none⟩) n cap) n (bs.map (Value.int .u8)))(hn:bs.length=n):∀ j,j<n→w.cell? ⟨g,0+j,none⟩=some (.int .u8 (bs.getD j 0)):=fun j hj=>by
 rw [Nat.zero_add,h.cellAt j (by omega)]
 simp [List.getD,List.getElem?_eq_getElem (show j<bs.length by omega)]
structure Bx (w0 W:World)(bb:Nat)(v:Value)(bs:List Int):Prop where
 box:W.heap[bb]?=some (.cells #[v] 76)
 own:W.ownsRow w0.heap.size 5 1 v bs.length (bs.map (Value.int .u8))
 below:Below w0.heap.size w0 W
 bb0:w0.heap.size≤bb
theorem Bx.ne {w0 W:World}{bb:Nat}{v:Value}{bs:List Int}(h:Bx w0 W bb v bs):v.ownBlock≠some bb:=fun e=>jab h.own e h.box (by decide) rfl
theorem Bx.put {w0 W w1:World}{bb:Nat}{v v1:Value}{bs bs1:List Int}(h:Bx w0 W bb v bs)(G:Grw W w1 v v1)(o1:w1.ownsRow w0.heap.size 5 1 v1 bs1.length (bs1.map (Value.int .u8))):Bx w0 (w1.setCell ⟨bb,0,none⟩ v1) bb v1 bs1:=by
 have hb1:=G.block h.box h.ne
 have n1:=G.ne (ltB h.box) h.ne
 refine⟨by simpa using ja4 hb1 0 v1,ownsRow_setCell_other o1 n1 _,?_,h.bb0⟩
 refine Below.setCell ?_ h.bb0 _
 exact h.below.trans (G.below h.below.size (fun b hb=>(ja5 h.own hb).1))
theorem Bx.mid {w0 W w1:World}{bb:Nat}{v v1:Value}{bs:List Int}(h:Bx w0 W bb v bs)(G:Grw W w1 v v1):w1.heap[bb]?=some (.cells #[v] 76):=G.block h.box h.ne
theorem Bx.tld {w0 W:World}{bb:Nat}{v:Value}{bs:List Int}(h:Bx w0 W bb v bs):Tld W W bb w0.heap.size v bs:=⟨⟨v,h.box,h.own,Or.inl rfl⟩,Keep.refl _ _⟩
theorem Bx.told {w0 W w1:World}{bb:Nat}{v:Value}{bs bs1:List Int}(h:Bx w0 W bb v bs)(T:Tld W w1 bb w0.heap.size v bs1):∃ v1,Bx w0 w1 bb v1 bs1:=by
 obtain⟨v1,h1,h2,_⟩:=T.box
 exact⟨v1,h1,h2,h.below.trans (T.keep.below h.below.size (fun k hk=>hk.elim (fun e=>e▸h.bb0) (fun e=>(ja5 h.own e).1))),h.bb0⟩
theorem jjf (g o b:Nat)(es:Es)(turn time:Int)(w:World)(hE:MapE w b es)(hnd:(es.map Prod.fst).Nodup)(hok:∀ p∈es,p.1.ok)(hq:∀ p∈es,p.2.2.fit)(hsz:es.length≤12)(ht0:0≤turn)(ht1:turn≤18446744073709551615)(hm0:0≤time)(hm1:time≤18446744073709551615)(hT:TabOk w g o)(hgl:g<w.heap.size)(_hbg:b≠g) :
  Calls Tryz.prog 180 #[.pointer (some ⟨g,o,none⟩),.int .u64 turn,.int .u64 time,.func (.func 143) #[.map (some b)] #[]] w fun e w'=>∃ (gv cap:Nat) (ks:List Ky),e=.returned (.slice (some ⟨gv,0,none⟩) (imgB turn time es ks).length cap)∧ks.Perm (es.map Prod.fst)∧w.heap.size≤gv∧w'.ownsRow w.heap.size 5 1 (.slice (some ⟨gv,0,none⟩) (imgB turn time es ks).length cap) (imgB turn time es ks).length ((imgB turn time es ks).map (Value.int .u8))∧TabPost w w' g o:=by
 obtain⟨i0,hi,hz0,hz1,hz2⟩:=info_parts Tryz.info5
 have hbl:=MapG.lt hE
 have hmf:∀ (fn:Fn) (first cap:Array Value) (w:World),(Instr.makeFunc fn first cap).run Tryz.prog w=.ok (.func fn first cap) w:=fun _ _ _ _=>rfl
 have HE:=hide hE
 have HND:=hide hnd
 have HOK:=hide hok
 have HQ:=hide hq
 have HT:=hide hT
 clear hE hnd hok hq hT
 obtain⟨V,hV⟩:∃ V,V=(w.alloc (.cells #[.int .u8 0] 5)).alloc (.cells #[.slice (some ⟨w.heap.size,0,none⟩) 1 1] 76):=⟨_,rfl⟩
 obtain⟨bb,hbb⟩:∃ bb,bb=w.heap.size+1:=⟨_,rfl⟩
 have hbV:V.heap[bb]?=some (.cells #[.slice (some ⟨w.heap.size,0,none⟩) 1 1] 76):=by rw [hbb,hV];exact heapN (by simp)
 have hsV0:V.heap[w.heap.size]?=some (.cells #[.int .u8 0] 5):=hV▸upB (ja1 _ _) _
 have hoV:V.ownsRow w.heap.size 5 1 (.slice (some ⟨w.heap.size,0,none⟩) 1 1) 1 (([0]:List Int).map (Value.int .u8)):=
  ⟨rfl,Or.inr ⟨w.heap.size,1,_,rfl,Nat.le_refl _,hsV0,Nat.le_refl _,by unfold maxLen;omega,rfl,rfl⟩⟩
 have hBV:Below w.heap.size w V:=hV▸((Below.refl _ w).alloc (Nat.le_refl _) _).alloc (by simp) _
 have hsz0:V.heap.size=w.heap.size+2:=by rw [hV];simp
 have hX0:Bx w V bb (.slice (some ⟨w.heap.size,0,none⟩) 1 1) [0]:=⟨hbV,hoV,hBV,by omega⟩
 have HX0:=hide hX0
 have HBB:=hide hbb
 clear hBV hoV hsV0 hX0 hsz0
 go_enter Tryz.func180,Tryz.ntmps180
 go_upto_region 2 with fail
 rw [←hV,←hbb]
 clear hV hbb
 have c0:=cellB hbV
 go_wp2_with fail
 refine (numG w.heap.size 1 [0] _ turn V rfl HX0.out.own (by omega) HX0.out.below.size ht0 ht1).mono ?_
 rintro e w1 ⟨v1,rfl,o1,G1⟩
 obtain⟨a1,c1,e1⟩:=ja8 o1
 subst e1
 have m1:=HX0.out.mid G1
 have d1:=cellB m1
 have d2:=ja2 m1
 obtain⟨U1,hU1⟩:∃ U1,U1=w1.setCell ⟨bb,0,none⟩ (.slice a1 (1+8) c1):=⟨_,rfl⟩
 have hX1:Bx w U1 bb (.slice a1 (1+8) c1) ([0] ++ be8 turn):=hU1▸HX0.out.put G1 (by simpa [be8] using o1)
 have HX1:=hide hX1
 clear o1 G1 hX1 c0 hbV m1
 go_upto_region 3 with fail
 rw [←hU1]
 clear hU1 d1 d2
 have hb1:=HX1.out.box
 have c1':=cellB hb1
 go_wp2_with fail
 refine (numG w.heap.size 9 ([0] ++ be8 turn) _ time U1 (by simp [be8]) (by have:=HX1.out.own;simpa [be8] using this) (by omega) HX1.out.below.size hm0 hm1).mono ?_
 rintro e w2 ⟨v2,rfl,o2,G2⟩
 obtain⟨a2,c2,e2⟩:=ja8 o2
 subst e2
 have m2:=HX1.out.mid G2
 have d1:=cellB m2
 have d2:=ja2 m2
 obtain⟨U2,hU2⟩:∃ U2,U2=w2.setCell ⟨bb,0,none⟩ (.slice a2 (9+8) c2):=⟨_,rfl⟩
 have hX2:Bx w U2 bb (.slice a2 (9+8) c2) (0 :: (be8 turn ++ be8 time)):=hU2▸HX1.out.put G2 (by simpa [be8] using o2)
 have HX2:=hide hX2
 clear o2 G2 hX2 c1' hb1 m2
 go_upto_region 4 with fail
 rw [←hU2]
 clear hU2 d1 d2
 have hsU:=HX2.out.below.size
 have hEU:MapE U2 b es:=MapG.kept HE.out (HX2.out.below.block b hbl)
 have HR:=hide (jft b bb w.heap.size es 0 (be8 turn ++ be8 time) (.slice a2 (9+8) c2) U2 hEU HND.out HOK.out HQ.out hsz (by omega) (by simp [be8]) hsU HX2.out.tld)
 clear hEU
 go_wp2_with fail
 refine HR.out.mono ?_
 rintro e w3 ⟨rfl,ks,hp,T3⟩
 obtain⟨v3,X3⟩:=HX2.out.told T3
 have eA:((0:Int)+(ks.length:Int)) :: (be8 turn ++ be8 time ++ recs es ks)=imgA turn time es ks:=by unfold imgA;rw [Int.zero_add]
 rw [eA] at X3
 have hln:ks.length=es.length:=by rw [hp.length_eq,List.length_map]
 have hby:Bytes (imgA turn time es ks):=jbS turn time es ks (by omega) (fun k hk=>by
   obtain⟨⟨k',p⟩,h2,h3⟩:=List.mem_map.1 (hp.mem_iff.1 hk)
   dsimp only at h3
   subst h3
   refine⟨HOK.out _ h2,?_⟩
   unfold jag
   rw [jak HND.out h2]
   exact HQ.out _ h2)
 have hlA:=jbK turn time es ks
 obtain⟨N,hN⟩:∃ N,N=(imgA turn time es ks).length:=⟨_,rfl⟩
 obtain⟨g3,c3,e3,hg3⟩:∃ g3 c3,v3=.slice (some ⟨g3,0,none⟩) N c3∧w.heap.size≤g3:=by
  rcases X3.own.2 with ⟨_,h⟩ | ⟨g',cap',cur,h,hg',_⟩
  ·omega
  ·exact⟨g',cap',by rw [hN];exact h,hg'⟩
 subst e3
 have hnc:N≤c3:=by
  rcases X3.own.2 with ⟨_,h⟩ | ⟨g',cap',cur,h,hg',_,h2,_⟩
  ·omega
  ·rw [←hN] at h h2;simp at h;omega
 have hT3:TabOk w3 g o:=by
  have hb:=X3.below
  obtain⟨d,h1,h2⟩:=HT.out.once
  exact⟨⟨d,(hb.cell (p:=⟨g,o,none⟩) hgl).trans h1,fun j hj=>by obtain⟨u,hu,hx⟩:=h2 j hj;exact⟨u,(hb.cell (p:=⟨g,o+3+j,none⟩) hgl).trans hu,hx⟩⟩,(hb.cell (p:=⟨g,o+1,none⟩) hgl).trans HT.out.mu,fun j hj=>(hb.frozen (p:=⟨g,o+j,none⟩) hgl).trans (HT.out.fro j hj)⟩
 have hs3:=X3.below.size
 have ho3:w3.ownsRow w.heap.size 5 1 (.slice (some ⟨g3,0,none⟩) N c3) N ((imgA turn time es ks).map (Value.int .u8)):=by have:=X3.own;rw [←hN] at this;exact this
 have hg3l:g3<w3.heap.size:=(ja5 ho3 (g:=g3) rfl).2
 obtain⟨sv,hsv⟩:∃ sv,sv=sumM (imgA turn time es ks):=⟨_,rfl⟩
 have HO:=hide (tabOf g o g3 0 N c3 (imgA turn time es ks) w3 hT3 hN.symm hnc (by omega) (by omega) hg3l (by omega) (jfW ho3 hN.symm) (fun j=>hby.getD j) sv hsv)
 have c5:=cellB X3.box
 have HX3:=hide X3
 have HO3:=hide ho3
 have HP:=hide hp
 have HSVV:=hide hsv
 have HNN:=hide hN
 have hbb3:=X3.box
 clear T3 X3 hp eA hby hT3 ho3 hsv hN HR hlA
 go_wp2_with fail
 refine HO.out.mono ?_
 rintro e w4 ⟨rfl,P4⟩
 obtain⟨U4,hU4⟩:∃ U4,U4=w4.alloc (.cells #[.int .u8 (nb sv 0),.int .u8 (nb sv 1),.int .u8 (nb sv 2),.int .u8 (nb sv 3),.int .u8 (nb sv 4),.int .u8 (nb sv 5),.int .u8 (nb sv 6),.int .u8 (nb sv 7)] 322):=⟨_,rfl⟩
 obtain⟨S,hS⟩:∃ S,S=w4.heap.size:=⟨_,rfl⟩
 have hb4:U4.heap[bb]?=some (.cells #[.slice (some ⟨g3,0,none⟩) N c3] 76):=hU4▸upB ((P4.keep.block bb (ltB hbb3) (by have:=HBB.out;omega)).trans hbb3) _
 have hS4:U4.heap[S]?=some (.cells #[.int .u8 (nb sv 0),.int .u8 (nb sv 1),.int .u8 (nb sv 2),.int .u8 (nb sv 3),.int .u8 (nb sv 4),.int .u8 (nb sv 5),.int .u8 (nb sv 6),.int .u8 (nb sv 7)] 322):=by rw [hS,hU4];exact ja1 _ _
 have ho4:U4.ownsRow w.heap.size 5 1 (.slice (some ⟨g3,0,none⟩) N c3) N ((imgA turn time es ks).map (Value.int .u8)):=by
  rw [hU4]
  exact (ja7 HO3.out (fun g' hg'=>P4.keep.block g' (ja5 HO3.out hg').2 (by simp [Value.ownBlock] at hg';omega))).alloc _
 have hsU4:w3.heap.size≤U4.heap.size:=by rw [hU4];have:=P4.keep.size;simp;omega
 have hcS:∀ j u,((be8 sv).map (Value.int .u8))[j]?=some u→U4.drew.cell? ((⟨S,0,none⟩:Addr).add j)=some u:=by
  intro j u hj
  rw [Addr.add_lit,Nat.zero_add]
  show U4.cell? ⟨S,j,none⟩=_
  rw [cellB hS4]
  match j,hj with
  | 0,hj=>exact hj
  | 1,hj=>exact hj
  | 2,hj=>exact hj
  | 3,hj=>exact hj
  | 4,hj=>exact hj
  | 5,hj=>exact hj
  | 6,hj=>exact hj
  | 7,hj=>exact hj
  | j+8,hj=>simp [be8] at hj
 have HP4:=hide P4
 have HO4:=hide ho4
 have HCS:=hide hcS
 have HU4:=hide hU4
 have HHS:=hide hS
 have HS4:=hide hsU4
 have hN3:N≤600:=by have h1:=HNN.out;have h2:=jbK turn time es ks;omega
 have f4:=cellB hb4
 clear P4 ho4 hcS hsU4 c5 hbb3
 go_upto_region 6 with fail
 rw [←hU4,←hS]
 clear hU4 hS
 go_region_law (refine jah (by rfl) _ _ 76 5 i0 (.int .u8 0) 1 1 Tryz.underlying76 hi hz0 hz1 hz2 rfl (by decide) (by rfl) w.heap.size (.slice (some ⟨g3,0,none⟩) N c3) N _ (by rfl) HO4.out ⟨S,0,none⟩ 8 8 ((be8 sv).map (Value.int .u8)) (by rfl) (by rfl) HCS.out (ints_oneCell _ _) (by omega) (by omega) (by have:=HS4.out;show w.heap.size≤U4.heap.size;omega) ?_;intro v6 w6 hown6 hgrow6 hat6;have HO6:=hide hown6;have HG6:=hide hgrow6;clear hown6 hgrow6 hat6)
 all_goals go_wp2
 all_goals go_ret
 all_goals (
   have eB:imgA turn time es ks ++ be8 sv=imgB turn time es ks:=by unfold imgB;rw [HSVV.out]
   have eN:N+8=(imgB turn time es ks).length:=by rw [←eB,List.length_append,←HNN.out];rfl
   have ho6:=HO6.out
   rw [←List.map_append,eB,eN] at ho6
   obtain⟨g6,c6,e6,hg6⟩:∃ g6 c6,v6=.slice (some ⟨g6,0,none⟩) (imgB turn time es ks).length c6∧w.heap.size≤g6:=by
     rcases ho6.2 with ⟨_,h⟩ | ⟨g',cap',cur,h,hg',_⟩
     · omega
     · exact⟨g',cap',h,hg'⟩
   subst e6
   refine⟨g6,c6,ks,rfl,HP.out,hg6,ho6,?_⟩
   have hB3:=HX3.out.below
   have hgU:g<U4.heap.size:=by have:=HS4.out;omega
   have hU4:=HU4.out
   have hg4:g<w4.heap.size:=Nat.lt_of_lt_of_le (Nat.lt_of_lt_of_le hgl hB3.size) HP4.out.keep.size
   have hkk:w6.heap[g]?=w4.heap[g]?:=(HG6.out.block g hgU (by intro e;simp [Value.ownBlock] at e;omega)).trans (by rw [hU4];exact ja3 _ _ hg4)
   have hcc:∀ j,w6.cell? ⟨g,j,none⟩=w4.cell? ⟨g,j,none⟩:=fun j=>World.cell?_of_block (w:=w4) hkk
   have hff:∀ j,w6.frozen? ⟨g,j,none⟩=w4.frozen? ⟨g,j,none⟩:=fun j=>World.frozen?_of_block (w:=w4) hkk
   have T4:=HP4.out.tab
   obtain⟨d,q1,q2⟩:=T4.once
   refine⟨⟨⟨d,(hcc _).trans q1,fun j hj=>by obtain⟨u,hu,hx⟩:=q2 j hj;exact⟨u,(hcc _).trans hu,hx⟩⟩,(hcc _).trans T4.mu,fun j hj=>(hff _).trans (T4.fro j hj)⟩,fun j hj=>⟨(hcc j).trans ((HP4.out.cel j hj).1.trans (hB3.cell (p:=⟨g,j,none⟩) hgl)),(hff j).trans ((HP4.out.cel j hj).2.trans (hB3.frozen (p:=⟨g,j,none⟩) hgl))⟩,?_⟩
   have k1:Keep (fun c=>c=g) w U4:=by rw [hU4];exact ((Keep.of_below hB3).trans HP4.out.keep).alloc _
   refine k1.then (T:=fun c=>c=g3) ⟨HG6.out.os,HG6.out.tape,HG6.out.output,HG6.out.size,fun i hi hn=>HG6.out.block i hi (by intro e;simp [Value.ownBlock] at e;exact hn e)⟩ (fun i hi h=>by omega))
theorem jk2 (db nb base gv n cap:Nat)(m0:Value)(fs:Fs)(b:Bool)(bs:List Int)(l f:Int)(w:World)(hd:w.heap[db]?=some (.cells #[m0,.map (some nb),.slice none 0 0,.int .i64 l,.int .i64 f,.bool false] 88))(hD:DirAt w nb fs)(hl:l≠0)(hf:f≠0)
  (hn:bs.length=n) (hn1:n≤4000000) (hown:w.ownsRow base 5 1 (.slice (some ⟨gv,0,none⟩) n cap) n (bs.map (Value.int .u8))) :
  Calls Tryz.prog 263 #[.pointer (some ⟨db,0,none⟩),.int .i64 1,.string (nameB b),.slice (some ⟨gv,0,none⟩) n cap] w fun e w'=>e=.returned .nilIface∧∃ pv g,w'.heap[db]?=some (.cells #[m0,.map (some nb),pv,.int .i64 (decM l),.int .i64 (decM f),.bool false] 88)∧w.heap.size≤g∧DirAt w' nb (putG b (g,strOfNums bs) fs)∧w'.ownsRow w.heap.size 146 3 pv 1 [.int .i64 1,.string (nameB b),.string (strOfNums bs)]∧Keep (fun c=>c=db∨c=nb∨c=gv) w w':=by
 have hcv:=jc9 hown hn
 obtain⟨s,hs⟩:∃ s,s=strOfNums bs:=⟨_,rfl⟩
 rw [←hs] at hcv ⊢
 have hvd:gv≠db:=jab hown rfl hd (by decide)
 have hvl:gv<w.heap.size:=(ja5 hown (g:=gv) rfl).2
 have hvn:gv≠nb:=by
  intro e
  rcases hown.2 with ⟨h,_⟩ | ⟨g',cap',cur,h,_,hh,_⟩
  ·simp at h
  ·simp at h
   rw [←h.1] at hh
   exact hD.map.ne hh e.symm
 obtain⟨cur0,hc0,hcs⟩:∃ cur,w.heap[gv]?=some (.cells cur 5 (0,0))∧n≤cur.size:=by
  rcases hown.2 with ⟨h,_⟩ | ⟨g',cap',cur,h,_,hh,h1,_,h2,_⟩
  ·simp at h
  ·simp at h
   obtain⟨e1,e2⟩:=h
   subst e1 e2
   exact⟨cur,hh,by omega⟩
 have HD:=hide hD
 have HHD:=hide hd
 have HC0:=hide hc0
 have HNN:=hide hn
 clear hown hD hd hc0 hn hs
 go_enter Tryz.func263,Tryz.ntmps263
 go_wp2_with fail
 refine (jib db nb m0 fs b s l f w HHD.out HD.out hl hf).mono ?_
 rintro e w2 ⟨rfl,pv,g,hd2,hg2,hD2,ho2,hk2⟩
 have hv2:w2.heap[gv]?=some (.cells cur0 5 (0,0)):=(hk2.block gv hvl (fun h=>h.elim hvd hvn)).trans HC0.out
 have HX:=hide (And.intro hd2 (And.intro hg2 (And.intro hD2 (And.intro ho2 hk2))))
 have HB:Hid (Bang w2 w2 gv n):=hide ⟨Keep.refl _ _,cur0,hv2,hcs⟩
 clear hd2 hg2 hD2 ho2 hk2 hcv
 go_wp2_with fail
 go_loopw [20] (fun s20 wr=>∃ j:Nat,j≤n∧s20=.int .i64 j∧Bang w2 wr gv n) (fun s20 _=>n - (intOf s20).toNat)
 case atStart=>exact⟨0,by omega,rfl,HB.out⟩
 case round=>
  obtain⟨j,hj,rfl,hB⟩:=hrel
  by_cases hlt:j<n
  ·have hltI:(j:Int)<(n:Int):=by omega
   have hj0:(0:Int)≤(j:Int):=by omega
   obtain⟨⟨u,hu⟩,hfz⟩:=hB.cell j hlt
   have HBB:=hide hB
   clear hB
   go_wp2
   go_roundw
   case rel=>exact⟨j+1,by omega,by go_num,HBB.out.step j _⟩
   case measure=>simp [intOf];omega
  ·obtain rfl:j=n:=by omega
   have HBB:=hide hB
   clear hB
   go_wp2
   go_ret
   obtain⟨hd2,hg2,hD2,ho2,hk2⟩:=HX.out
   have hk:=HBB.out.keep
   refine⟨rfl,pv,g,(hk.block db (ltB hd2) (fun e=>hvd e.symm)).trans hd2,hg2,hD2.keep hk (fun e=>hvn e.symm) (fun p hp e=>?_),?_,?_⟩
   ·have:=hD2.str p hp
    rw [e,hv2] at this
    simp at this
   ·exact ja7 ho2 (fun g' hg'=>hk.block g' (ja5 ho2 hg').2 (fun e=>by have:=(ja5 ho2 hg').1;omega))
   ·exact (hk2.mono (fun k h _=>h.elim Or.inl (fun h=>Or.inr (Or.inl h)))).then hk (fun i _ h=>Or.inr (Or.inr h))
theorem jhZ (db nb base gv n cap:Nat)(m0:Value)(fs:Fs)(b:Bool)(bs:List Int)(l f:Int)(w:World)(hd:w.heap[db]?=some (.cells #[m0,.map (some nb),.slice none 0 0,.int .i64 l,.int .i64 f,.bool false] 88))(hD:DirAt w nb fs)(hl:l≠0)(hf:f≠0)
  (hn:bs.length=n) (hn1:n≤4000000) (hown:w.ownsRow base 5 1 (.slice (some ⟨gv,0,none⟩) n cap) n (bs.map (Value.int .u8))) :
  Calls Tryz.prog 259 #[.pointer (some ⟨db,0,none⟩),.string (nameB b),.slice (some ⟨gv,0,none⟩) n cap] w fun e w'=>e=.returned .nilIface∧∃ pv g,w'.heap[db]?=some (.cells #[m0,.map (some nb),pv,.int .i64 (decM l),.int .i64 (decM f),.bool false] 88)∧w.heap.size≤g∧DirAt w' nb (putG b (g,strOfNums bs) fs)∧w'.ownsRow w.heap.size 146 3 pv 1 [.int .i64 1,.string (nameB b),.string (strOfNums bs)]∧Keep (fun c=>c=db∨c=nb∨c=gv) w w':=by
 have H:=hide (jk2 db nb base gv n cap m0 fs b bs l f w hd hD hl hf hn hn1 hown)
 clear hd hD hl hf hown hn
 go_enter Tryz.func259,Tryz.ntmps259
 go_wp2_with fail
 refine H.out.mono ?_
 rintro e w2 ⟨rfl,HX⟩
 have HX:=hide HX
 go_wp2
 go_ret
 exact⟨rfl,HX.out⟩
theorem jhS (db mb base:Nat)(m1 pv:Value)(fs:Fs)(b:Bool)(s:ByteArray)(l f:Int)(w:World)(hd:w.heap[db]?=some (.cells #[.map (some mb),m1,pv,.int .i64 l,.int .i64 f,.bool false] 88))(hD:DirAt w mb fs)(hl:l≠0)(hf:f≠0)
  (hown:w.ownsRow base 146 3 pv 1 [.int .i64 1,.string (nameB b),.string s]) :
  Calls Tryz.prog 258 #[.pointer (some ⟨db,0,none⟩)] w fun e w'=>e=.returned .nilIface∧∃ g,w'.heap[db]?=some (.cells #[.map (some mb),m1,.slice none 0 0,.int .i64 (decM l),.int .i64 (decM f),.bool false] 88)∧w.heap.size≤g∧DirAt w' mb (putG b (g,s) fs)∧Keep (fun c=>c=db∨c=mb) w w':=by
 obtain⟨gp,cap,cur,rfl,hpd,hpl,hpc,hpt⟩:∃ gp cap cur,pv=.slice (some ⟨gp,0,none⟩) 1 cap∧gp≠db∧gp<w.heap.size∧w.heap[gp]?=some (.cells cur 146 (0,0))∧cur.toList.take 3=[.int .i64 1,.string (nameB b),.string s]:=by
  rcases hown.2 with ⟨_,h⟩ | ⟨g',cap',cur,h,_,hh,_,_,_,h2⟩
  ·omega
  ·subst h
   exact⟨g',cap',cur,rfl,jab hown rfl hd (by decide),ltB hh,hh,by simpa using h2⟩
 have hmd:mb≠db:=hD.map.ne hd
 have hmg:mb≠gp:=hD.map.ne hpc
 have hcc:∀ j,j<3→cur[j]?=([.int .i64 1,.string (nameB b),.string s]:List Value)[j]?:=fun j hj=>by
  rw [←hpt,List.getElem?_take,if_pos hj,Array.getElem?_toList]
 have HNP:∀ p∈fs,¬p.2.1=db:=fun p hp e=>by have:=hD.str p hp;rw [e,hd] at this;simp at this
 have HD:=hide hD
 have HP:=hide HNP
 have HPC:=hide hpc
 have HCC:=hide hcc
 clear hown hD HNP hpc hcc hpt
 go_enter Tryz.func258,Tryz.ntmps258
 go_wp2_with fail
 refine (jbB db _ _ _ l f w hd hl hf).mono ?_
 rintro e w1 ⟨rfl,hd1,hk1⟩
 have hp1:=(hk1.block gp hpl hpd).trans HPC.out
 have hD1:DirAt w1 mb fs:=HD.out.keep hk1 hmd HP.out
 have k0:w1.cell? ⟨gp,0,none⟩=some (.int .i64 1):=(cellB hp1 0).trans (HCC.out 0 (by omega))
 have k1:w1.cell? ⟨gp,1,none⟩=some (.string (nameB b)):=(cellB hp1 1).trans (HCC.out 1 (by omega))
 have k2:w1.cell? ⟨gp,2,none⟩=some (.string s):=(cellB hp1 2).trans (HCC.out 2 (by omega))
 have a1:=cellB hd1
 have HD1:=hide hD1
 have HK1:=hide hk1
 clear hD1 hk1
 go_wp2_with fail
 refine wp_loop_rounds 2 ?_
 rw [rounds_succ]
 obtain⟨V,hV⟩:∃ V,V=w1.alloc (.cells #[.int .i64 1,.string (nameB b),.string s] 146):=⟨_,rfl⟩
 obtain⟨O,hO⟩:∃ O,O=w1.heap.size:=⟨_,rfl⟩
 have h0:V.heap[O]?=some (.cells #[.int .i64 1,.string (nameB b),.string s] 146):=by rw [hO,hV];exact ja1 _ _
 have hdV:V.heap[db]?=_:=hV▸upB hd1 _
 have hDV:DirAt V.drew mb fs:=HD1.out.kept (hV▸ja3 _ _ HD1.out.map.lt) (fun p hp=>hV▸ja3 _ _ (ltB (HD1.out.str p hp)))
 have hKV:Keep (fun _=>False) w1 V:=hV▸(Keep.refl _ w1).alloc _
 have HDV:=hide hDV
 have HKV:=hide hKV
 have HO:=hide hO
 clear hDV hKV
 go_upto_region 7 with fail
 rw [←hV,←hO]
 clear hV hO k0 k1 k2 a1
 have b1:=cellB hdV
 have b2:=cellB h0
 go_region_law (refine jaj (by rfl) 59 jeO _ _ (by rfl) #[.map (some mb),.agg #[.int .i64 1,.string (nameB b),.string s]] (by simp only [List.map_toArray,List.map_cons,List.map_nil];rfl) (do59w mb fs b s _ HDV.out) ?_;rintro e w2 ⟨rfl,hD2,hk2⟩;refine⟨_,rfl,?_⟩;have HD2:=hide hD2;have HK2:=hide hk2;clear hD2 hk2)
 all_goals (
   have hg3:Hid (w1.heap.size≤V.heap.size+1):=hide (Nat.le_trans HKV.out.size (Nat.le_succ _))
   have HK3:Hid (Keep (fun c=>c=mb) w1 w2):=hide ((HKV.out.mono (fun _ h _=>h.elim)).then (b:=V) ⟨HK2.out.os,HK2.out.tape,HK2.out.output,HK2.out.size,HK2.out.block⟩ (fun i _ h=>h))
   have hd3:=(HK3.out.block db (ltB hd1) (fun e=>hmd e.symm)).trans hd1
   have c1:=cellB hd3
   have c2:=ja2 hd3
   clear b1 b2 HK2
   go_wp2
   rw [rounds_succ]
   go_wp2
   go_ret
   have hs1:=HK1.out.size
   refine⟨rfl,_,by simpa using ja4 hd3 2 (.slice none 0 0),?_,HD2.out.kept (ja0 hmd _ _) (fun p hp=>ja0 (fun e=>by have:=HD2.out.str p hp;rw [e,hd3] at this;simp at this) _ _),?_⟩
   · have:=hg3.out
     show w.heap.size≤V.heap.size+1
     omega
   · refine Keep.set ?_ (Or.inl (Or.inl rfl)) _ _
     exact (HK1.out.mono (fun k h _=>Or.inl h)).then HK3.out (fun i _ h=>Or.inr h))
structure DskAt (w:World)(db k:Nat)(fsD fsN:Fs)(F:Nat→Prop):Prop where
 mem:∃ mb nb l f,w.heap[db]?=some (.cells #[.map (some mb),.map (some nb),.slice none 0 0,.int .i64 l,.int .i64 f,.bool false] 88)∧DirAt w mb fsD∧DirAt w nb fsN∧Brn l k∧Brn f k∧F mb∧F nb∧mb≠nb
 sD:∀ p∈fsD,F p.2.1
 sN:∀ p∈fsN,F p.2.1
 own:F db
 lt:∀ b,F b→b<w.heap.size
theorem DskAt.kept {w w':World}{db k:Nat}{fsD fsN:Fs}{F:Nat→Prop}(h:DskAt w db k fsD fsN F)(hs:w.heap.size≤w'.heap.size)(hb:∀ b,F b→w'.heap[b]?=w.heap[b]?):DskAt w' db k fsD fsN F:=by
 obtain⟨mb,nb,l,f,h1,h2,h3,h4,h5,h6,h7,h8⟩:=h.mem
 exact⟨⟨mb,nb,l,f,(hb db h.own).trans h1,h2.kept (hb mb h6) (fun p hp=>hb _ (h.sD p hp)),h3.kept (hb nb h7) (fun p hp=>hb _ (h.sN p hp)),h4,h5,h6,h7,h8⟩,h.sD,h.sN,h.own,fun b hF=>Nat.lt_of_lt_of_le (h.lt b hF) hs⟩
theorem je6 (h:Value)(w:World):(Go.method 510 78 h "Write").run Tryz.prog w=.ok (259,h) w:=by kernel_rfl
theorem jbo (h:Value)(w:World):(Go.method 510 78 h "Sync").run Tryz.prog w=.ok (258,h) w:=by kernel_rfl
theorem jlG (vs:Array Value)(w:World):Sem.run Tryz.prog (callFunc 180 vs) w=.ok (.enter 180 vs) w:=by simp [go_sem]
theorem jeE (vs:Array Value)(w:World):Sem.run Tryz.prog (callFunc 147 vs) w=.ok (.enter 147 vs) w:=by simp [go_sem]
theorem jlJ (vs:Array Value)(w:World):Sem.run Tryz.prog (callFunc 259 vs) w=.ok (.enter 259 vs) w:=by simp [go_sem]
theorem jeL {ops:Array Oper}{o:Oper}{a:Act}{w:World}{K:Act→World→Prop}{Q:Exit→Act→World→Prop}{E:Prop}{R:Ending→World→Prop}(hg:o.guard=none)(f:FuncId)(nm:String)(t:TypeId)(h:Value)(hm:∀ w,(Go.method 510 t h nm).run Tryz.prog w=.ok (f,h) w)(hcf:∀ vs w,Sem.run Tryz.prog (callFunc f vs) w=.ok (.enter f vs) w)(s:Operand)(xs:Array Operand)(tys:Array TypeId)
  (hop:o.op=.call { callee:=.invoke s nm,args:=xs,argTypes:=tys }) (hs:a.eval s=.iface t h) (vs:Array Value) (hx:xs.map a.eval=vs) (hC:Calls Tryz.prog f (#[h] ++ vs) w R)
  (hR:∀ e w',R e w'→∃ v,e=.returned v∧K (a.put o.dst v) w') :
  if Region.wanted o (yielded ops a.tmps)=true then Oper.wp Tryz.prog o a w K Q else E:=by
 have hw:Region.wanted o (yielded ops a.tmps)=true:=by simp [Region.wanted,hg]
 rw [if_pos hw]
 have hr:(execOp a.eval o).run Tryz.prog w=.ok (.enter f (#[h] ++ vs)) w:=by
  subst hx
  simp only [execOp,hop,resolve,hs]
  simp [invoke,callMethod,go_sem]
  have h0:(#[Value.iface t h] ++ Array.map a.eval xs)[0]?=some (.iface t h):=by rw [Array.getElem?_append_left (by simp)];rfl
  have hp:Sem.run Tryz.prog program w=.ok Tryz.prog w:=rfl
  have hn:Tryz.prog.types.size+100=510:=by kernel_rfl
  have hx:(Array.map a.eval xs).extract 0 xs.size=Array.map a.eval xs:=by
   rw [show xs.size=(Array.map a.eval xs).size from (Array.size_map ..).symm]
   exact Array.extract_size
  rw [h0,hx]
  simp only [Sem.run_bind,hp,hn,hm,Result.andThen,hcf]
 unfold Oper.wp
 rw [hr,Oper.upon_enter]
 refine hC.mono ?_
 intro e w' h
 obtain⟨v,rfl,h2⟩:=hR e w' h
 exact h2
structure StoAt (w:World)(g db:Nat)(turn:Int):Prop where
 fro:∀ j,j<262→w.frozen? ⟨g,j,none⟩=false
 dsk:w.cell? ⟨g,0,none⟩=some (.iface 78 (.pointer (some ⟨db,0,none⟩)))
 tab:TabOk w g 1
 turn:w.cell? ⟨g,260,none⟩=some (.int .u64 turn)
 err:w.cell? ⟨g,261,none⟩=some .nilIface
theorem jaN {w:World}{g j:Nat}{v:Value}(h:w.cell? ⟨g,j,none⟩=some v):g<w.heap.size:=by
 rcases Nat.lt_or_ge g w.heap.size with h' | h'
 ·exact h'
 ·simp [World.cell?,Array.getElem?_eq_none h'] at h
theorem StoAt.lt {w:World}{g db:Nat}{turn:Int}(h:StoAt w g db turn):g<w.heap.size:=jaN h.dsk
theorem TabOk.block {w w':World}{g o:Nat}(h:TabOk w g o)(hb:w'.heap[g]?=w.heap[g]?):TabOk w' g o:=by
 have hc:∀ j,w'.cell? ⟨g,j,none⟩=w.cell? ⟨g,j,none⟩:=fun j=>World.cell?_of_block (w:=w) hb
 have hf:∀ j,w'.frozen? ⟨g,j,none⟩=w.frozen? ⟨g,j,none⟩:=fun j=>World.frozen?_of_block (w:=w) hb
 obtain⟨d,q1,q2⟩:=h.once
 exact⟨⟨d,(hc _).trans q1,fun j hj=>by obtain⟨u,hu,hx⟩:=q2 j hj;exact⟨u,(hc _).trans hu,hx⟩⟩,(hc _).trans h.mu,fun j hj=>(hf _).trans (h.fro j hj)⟩
theorem StoAt.kept {w w':World}{g db:Nat}{turn:Int}(h:StoAt w g db turn)(hb:w'.heap[g]?=w.heap[g]?):StoAt w' g db turn:=by
 have hc:∀ j,w'.cell? ⟨g,j,none⟩=w.cell? ⟨g,j,none⟩:=fun j=>World.cell?_of_block (w:=w) hb
 exact⟨fun j hj=>(World.frozen?_of_block (w:=w) hb).trans (h.fro j hj),(hc _).trans h.dsk,h.tab.block hb,(hc _).trans h.turn,(hc _).trans h.err⟩
theorem TabOk.set {w:World}{g o j:Nat}(h:TabOk w g o)(hj:j<o∨o+259≤j)(v:Value):TabOk (w.setCell ⟨g,j,none⟩ v) g o:=by
 obtain⟨d,q1,q2⟩:=h.once
 have hc:∀ i,i≠j→(w.setCell ⟨g,j,none⟩ v).cell? ⟨g,i,none⟩=w.cell? ⟨g,i,none⟩:=fun i hi=>World.cell?_setCell_other _ _ _ _ (by intro e;injection e with _ e _;exact hi e.symm)
 exact⟨⟨d,(hc _ (by omega)).trans q1,fun i hi=>by obtain⟨u,hu,hx⟩:=q2 i hi;exact⟨u,(hc _ (by omega)).trans hu,hx⟩⟩,(hc _ (by omega)).trans h.mu,fun i hi=>by rw [World.frozen?_setCell];exact h.fro i hi⟩
theorem jbD {K V:Type} [DecidableEq K] (k:K)(v:V)(ks:List (K×V)):(k,v)∈putG k v ks:=by
 refine jao ?_
 unfold putG
 split
 ·exact jaA (by assumption)
 ·rw [jaX,if_neg (by assumption),if_pos rfl]
def nextT (t:Int):Int:=(t+1) % 18446744073709551616
theorem jcU (g db b k:Nat)(es:Es)(turn time:Int)(fsD fsN:Fs)(F:Nat→Prop)(w:World)(hE:MapE w b es)(hnd:(es.map Prod.fst).Nodup)(hok:∀ p∈es,p.1.ok)(hq:∀ p∈es,p.2.2.fit)(hsz:es.length≤12)(_ht0:0≤turn)(_ht1:turn≤18446744073709551615)(hm0:0≤time)(hm1:time≤18446744073709551615)
  (hS:StoAt w g db turn) (hD:DskAt w db (k+2) fsD fsN F) (hgF:¬F g) (_hbF:¬F b) (hbg:b≠g) :
  Calls Tryz.prog 161 #[.pointer (some ⟨g,0,none⟩),.int .u64 time,.func (.func 143) #[.map (some b)] #[]] w fun e w'=>e=.returned .nilIface∧∃ (ks:List Ky) (a c:Nat) (F':Nat→Prop),ks.Perm (es.map Prod.fst)∧StoAt w' g db (nextT turn)∧DskAt w' db k (putG (nextT turn % 2==1) (a,strOfNums (imgB (nextT turn) time es ks)) fsD) (putG (nextT turn % 2==1) (c,strOfNums (imgB (nextT turn) time es ks)) fsN) F'∧(∀ b,F' b→F b∨w.heap.size≤b)∧Keep (fun c=>c=g∨F c) w w':=by
 obtain⟨T,hT⟩:∃ T,T=nextT turn:=⟨_,rfl⟩
 have hT0:0≤T∧T≤18446744073709551615:=by rw [hT];unfold nextT;omega
 have hTw:IntKind.u64.wrap (turn+1)=T:=by rw [hT,IntKind.wrap_u64];rfl
 rw [←hT]
 have hgl:=hS.lt
 have hbl:=MapG.lt hE
 have hdl:=hD.lt db hD.own
 have hgd:g≠db:=fun e=>hgF (e▸hD.own)
 obtain⟨V,hV⟩:∃ V,V=w.setCell ⟨g,260,none⟩ (.int .u64 T):=⟨_,rfl⟩
 have hSV:StoAt V g db T:=by
  rw [hV]
  exact⟨fun j hj=>by rw [World.frozen?_setCell];exact hS.fro j hj,(World.cell?_setCell_other _ _ _ _ (by simp)).trans hS.dsk,hS.tab.set (Or.inr (by omega)) _,World.cell?_setCell_same _ _ _ hS.turn,(World.cell?_setCell_other _ _ _ _ (by simp)).trans hS.err⟩
 have hDV:DskAt V db (k+2) fsD fsN F:=hD.kept (by rw [hV];simp) (fun c hc=>by rw [hV];exact ja0 (fun (e:c=g)=>hgF (e▸hc)) _ _)
 have hEV:MapE V b es:=MapG.kept hE (by rw [hV];exact ja0 hbg _ _)
 have hKV:Keep (fun c=>c=g∨F c) w V:=hV▸(Keep.refl _ w).set (Or.inl (Or.inl rfl)) _ _
 have hsV:V.heap.size=w.heap.size:=by rw [hV,World.size_setCell]
 have a1:=hS.turn
 have a2:=hS.fro 260 (by omega)
 have HW:=hide (jjf g 1 b es T time V.drew (hEV.kept rfl) hnd hok hq hsz hT0.1 hT0.2 hm0 hm1 (hSV.tab.block rfl) (by show g<V.heap.size;omega) hbg)
 have HSV:=hide hSV
 have HDV:=hide hDV
 have HKV:=hide hKV
 have HSZ:=hide hsV
 have HTT:=hide hT
 clear hS hD hE hnd hok hq hSV hDV hEV hKV hsV hT
 go_enter Tryz.func161,Tryz.ntmps161
 go_upto_region 2 with fail
 rw [←hV]
 clear hV a1 a2
 have b1:=HSV.out.turn
 go_cut [7] (fun s7 wx=>∃ (W:World) (gv cap:Nat) (ks:List Ky),W=wx∧s7=.slice (some ⟨gv,0,none⟩) (imgB T time es ks).length cap∧ks.Perm (es.map Prod.fst)∧V.heap.size≤gv∧W.ownsRow V.heap.size 5 1 (.slice (some ⟨gv,0,none⟩) (imgB T time es ks).length cap) (imgB T time es ks).length ((imgB T time es ks).map (Value.int .u8))∧TabPost V W g 1)
 case first=>
  go_region_law (refine jaj (by rfl) 180 jlG _ _ (by rfl) #[.pointer (some ⟨g,1,none⟩),.int .u64 T,.int .u64 time,.func (.func 143) #[.map (some b)] #[]] (by simp only [List.map_toArray,List.map_cons,List.map_nil];rfl) HW.out ?_;rintro e w2 ⟨gv,cap,ks,rfl,h1,h2,h3,h4⟩;refine⟨_,rfl,?_⟩;have H1:=hide h1;have H2:=hide h2;have H3:=hide h3;have H4:=hide h4;clear h1 h2 h3 h4)
  all_goals (go_wp2_with fail;go_meet)
  all_goals exact⟨w2,gv,cap,ks,rfl,rfl,H1.out,H2.out,H3.out,H4.out.tab,fun j hj=>H4.out.cel j hj,⟨H4.out.keep.os,H4.out.keep.tape,H4.out.keep.output,H4.out.keep.size,H4.out.keep.block⟩⟩
 case rest=>
  obtain⟨w2,gv,cap,ks,rfl,rfl,hp,hgv,ho2,hP2⟩:=hcut
  obtain⟨n,hn⟩:∃ n,n=(imgB T time es ks).length:=⟨_,rfl⟩
  obtain⟨bs,hbs⟩:∃ bs,bs=imgB T time es ks:=⟨_,rfl⟩
  rw [←hbs] at hn ho2
  rw [←hbs,←hn]
  rw [←hn] at ho2
  have hn1:n≤4000000:=by
   have e1:=jbK T time es ks
   have e2:ks.length=es.length:=by rw [hp.length_eq,List.length_map]
   rw [hn,hbs]
   unfold imgB
   rw [List.length_append,e1]
   simp [be8]
   omega
  have hS2:StoAt w2 g db T:=by
   refine⟨fun j hj=>?_,(hP2.cel 0 (Or.inl (by omega))).1.trans HSV.out.dsk,hP2.tab,(hP2.cel 260 (Or.inr (by omega))).1.trans HSV.out.turn,(hP2.cel 261 (Or.inr (by omega))).1.trans HSV.out.err⟩
   by_cases h1:j<1∨260≤j
   ·exact (hP2.cel j (by omega)).2.trans (HSV.out.fro j hj)
   ·have:=hP2.tab.fro (j - 1) (by omega)
    rwa [show 1+(j - 1)=j by omega] at this
  have hD2:DskAt w2 db (k+2) fsD fsN F:=HDV.out.kept hP2.keep.size (fun c hc=>hP2.keep.block c (HDV.out.lt c hc) (fun (e:c=g)=>hgF (e▸hc)))
  obtain⟨mb,nb,l,f,m1,m2,m3,m4,m5,m6,m7,m8⟩:=hD2.mem
  have hmw:=je6 (.pointer (some ⟨db,0,none⟩))
  have c1:=hS2.dsk
  have c2:=hS2.turn
  have HWR:=hide (jhZ db nb V.heap.size gv n cap (.map (some mb)) fsN (T % 2==1) bs l f w2.drew m1 (m3.kept rfl (fun _ _=>rfl)) m4.ne m5.ne hn.symm hn1 ho2)
  have HNA:=hide (jaH T w2.drew hT0.1 hT0.2)
  have HS2:=hide hS2
  have HD2:=hide hD2
  have HP2:=hide hP2
  have HP:=hide hp
  have HBS:=hide hbs
  have HGV:=hide hgv
  have HM:=hide (And.intro m1 (And.intro m2 (And.intro m3 (And.intro m4 m5))))
  have HF:=hide (And.intro m6 (And.intro m7 m8))
  clear hS2 hD2 hP2 hp hbs hgv m1 m2 m3 m4 m5 m6 m7 m8 ho2 hn HW b1
  go_upto_region 3 with fail
  go_cut [8] (fun s8 wx=>∃ (W:World) (pv:Value) (c:Nat),W=wx∧s8=.nilIface∧W.heap[db]?=some (.cells #[.map (some mb),.map (some nb),pv,.int .i64 (decM l),.int .i64 (decM f),.bool false] 88)∧w2.heap.size≤c∧DirAt W nb (putG (T % 2==1) (c,strOfNums bs) fsN)∧W.ownsRow w2.heap.size 146 3 pv 1 [.int .i64 1,.string (nameB (T % 2==1)),.string (strOfNums bs)]∧Keep (fun c=>c=db∨c=nb∨c=gv) w2 W)
  case first=>
   go_region_law (first
     | (refine jaj (by rfl) 147 jeE _ _ (by rfl) #[.int .u64 T] (by simp only [List.map_toArray,List.map_cons,List.map_nil];rfl) HNA.out ?_;rintro e w3 ⟨rfl,rfl⟩;refine⟨_,rfl,?_⟩)
     | (refine jeL (by rfl) 259 "Write" 78 (.pointer (some ⟨db,0,none⟩)) hmw jlJ _ _ _ (by rfl) (by rfl) #[.string (nameB (T % 2==1)),.slice (some ⟨gv,0,none⟩) n cap] (by simp only [List.map_toArray,List.map_cons,List.map_nil];rfl) HWR.out ?_;rintro e w3 ⟨rfl,pv,c,h1,h2,h3,h4,h5⟩;refine⟨_,rfl,?_⟩;have H1:=hide h1;have H2:=hide h2;have H3:=hide h3;have H4:=hide h4;have H5:=hide h5;clear h1 h2 h3 h4 h5))
   all_goals (go_wp2_with fail;go_meet)
   all_goals exact⟨w3,pv,c,rfl,rfl,H1.out,H2.out,H3.out,H4.out,⟨H5.out.os,H5.out.tape,H5.out.output,H5.out.size,H5.out.block⟩⟩
  case rest=>
   obtain⟨w3,pv,c,rfl,rfl,q1,q2,q3,q4,q5⟩:=hcut
   obtain⟨m1,m2,m3,m4,m5⟩:=HM.out
   obtain⟨m6,m7,m8⟩:=HF.out
   have hgn:g≠nb:=fun e=>hgF (e▸m7)
   have hgm:g≠mb:=fun e=>hgF (e▸m6)
   have sV:=HSZ.out
   have sG:=HGV.out
   have s2:=HP2.out.keep.size
   have s3:=q5.size
   have hFl:=HDV.out.lt
   have hS3:StoAt w3 g db T:=HS2.out.kept (q5.block g HS2.out.lt (fun h=>by rcases h with h | h | h;exact hgd h;exact hgn h;omega))
   have hmd:mb≠db:=m2.map.ne m1
   have hnd:nb≠db:=m3.map.ne m1
   have hD3:DirAt w3 mb fsD:=m2.keep q5 (fun h=>by
     rcases h with h | h | h
     · exact hmd h
     · exact m8 h
     · have:=hFl mb m6;omega) (fun p hp h=>by
     have h1:=m2.str p hp
     rcases h with h | h | h
     · rw [h,m1] at h1;simp at h1
     · rw [h] at h1;exact m3.map.ne h1 rfl
     · have:=hFl _ (HD2.out.sD p hp);omega)
   have hms:=jbo (.pointer (some ⟨db,0,none⟩))
   have d1:=hS3.dsk
   have HSY:=hide (jhS db mb w2.heap.size (.map (some nb)) pv fsD (T % 2==1) (strOfNums bs) (decM l) (decM f) w3 q1 hD3 m4.dec.ne m5.dec.ne q4)
   have HQ:=hide (And.intro q2 (And.intro q3 q5))
   have HQ1:=hide q1
   have HD3:=hide hD3
   have HS3:=hide hS3
   clear q1 q2 q3 q4 q5 hD3 hS3 c1 c2 m1 m2 m3 HWR HNA
   go_wp2_with fail
   refine HSY.out.mono ?_
   rintro e w4 ⟨rfl,a,r1,r2,r3,r4⟩
   have HR:=hide (And.intro r1 (And.intro r2 (And.intro r3 r4)))
   clear r1 r2 r3 r4
   go_wp2
   go_ret
   obtain⟨r1,r2,r3,r4⟩:=HR.out
   obtain⟨q2,q3,q5⟩:=HQ.out
   have s4:=r4.size
   have hbs:=HBS.out
   subst hbs
   have hS4:StoAt w4 g db T:=HS3.out.kept (r4.block g HS3.out.lt (fun h=>h.elim hgd hgm))
   have hN4:DirAt w4 nb (putG (T % 2==1) (c,strOfNums (imgB T time es ks)) fsN):=q3.keep r4 (fun h=>h.elim hnd (fun e=>m8 e.symm)) (fun p hp h=>by
     have h1:=q3.str p hp
     rcases h with h | h
     · rw [h,HQ1.out] at h1;simp at h1
     · rw [h] at h1;exact HD3.out.map.ne h1 rfl)
   refine⟨rfl,ks,a,c,fun x=>F x∨x=a∨x=c,HP.out,hS4,⟨⟨mb,nb,decM (decM l),decM (decM f),r1,r3,hN4,m4.dec.dec,m5.dec.dec,Or.inl m6,Or.inl m7,m8⟩,fun p hp=>?_,fun p hp=>?_,Or.inl HDV.out.own,fun x hx=>?_⟩,fun x hx=>?_,?_⟩
   ·rcases jaW hp with h | h
    ·exact Or.inl (HD2.out.sD p h)
    ·subst h;exact Or.inr (Or.inl rfl)
   ·rcases jaW hp with h | h
    ·exact Or.inl (HD2.out.sN p h)
    ·subst h;exact Or.inr (Or.inr rfl)
   ·rcases hx with h | h | h
    ·have:=hFl x h;omega
    ·rw [h];exact ltB (r3.str _ (jbD _ _ _))
    ·rw [h];exact ltB (hN4.str _ (jbD _ _ _))
   ·rcases hx with h | h | h
    ·exact Or.inl h
    ·right;omega
    ·right;omega
   ·refine ((HKV.out.then HP2.out.keep (fun i _ h=>Or.inl h)).then q5 (fun i hi h=>?_)).then r4 (fun i hi h=>?_)
    ·rcases h with h | h | h
     ·exact Or.inr (h▸HDV.out.own)
     ·exact Or.inr (h▸m7)
     ·omega
    ·rcases h with h | h
     ·exact Or.inr (h▸HDV.out.own)
     ·exact Or.inr (h▸m6)
theorem jcI (p:Addr)(w:World) :
  CallsD Tryz.prog 144 #[.pointer (some p)] .returning w fun e u' w'=>e=.returned (.tuple #[])∧u'=.returning∧w'=w:=by
 refine callsD_of_wpS Tryz.func144 rfl fun c₀ cs hu=>?_
 apply wpS_seq
 apply wpS_region
 simp [wpOpsS,go_sem,recoverD,hu,Tryz.ntmps144,Exit.thenS]
 refine wpS_cond (t:=false) (by simp [Act.eval,Array.replicate]) ?_
 simp only [Bool.false_eq_true,if_false]
 refine wpS_of_wp (wp_skip ?_)
 cases c₀
 simp_all [bodyPostS,results,Tryz.results144]
theorem jca (f:FuncId)(cap:Array Value)(hcf:∀ vs w,Sem.run Tryz.prog (callFunc f vs) w=.ok (.enter f vs) w)(w:World)(R:World→Prop)
  (hC:Calls Tryz.prog f cap (w.alloc (.cells #[.nilIface] 97)) fun e w'=>e=.returned .nilIface∧w'.heap[w.heap.size]?=some (.cells #[.nilIface] 97)∧R w') :
  Calls Tryz.prog 116 #[.func (.func f) #[] cap] w fun e w'=>e=.returned .nilIface∧∃ w2,R w2∧w2.heap[w.heap.size]?=some (.cells #[.nilIface] 97)∧w'=w2.setCell ⟨w.heap.size,0,none⟩ .nilIface:=by
 have hmf:∀ (fn:Fn) (first cap:Array Value) (w:World),(Instr.makeFunc fn first cap).run Tryz.prog w=.ok (.func fn first cap) w:=fun _ _ _ _=>rfl
 have HC:=hide hC
 clear hC
 have hcf':=hcf cap
 have e0:(#[]:Array Value) ++ cap=cap:=by simp
 go_enter_defers Tryz.func116,Tryz.ntmps116
 go_wp2_with fail
 refine HC.out.mono ?_
 rintro e w2 ⟨rfl,hb,hR⟩
 have a1:=cellB hb
 have a2:=ja2 hb
 have HR:=hide hR
 have HB:=hide hb
 clear hR hb
 go_wp2
 refine leaves_cons (f:=144) (args:=#[.pointer (some ⟨w.heap.size,0,none⟩)]) (by simp) (by simp [go_sem]) ?_
 refine (jcI ⟨w.heap.size,0,none⟩ _).mono ?_
 rintro e u' w'' ⟨rfl,rfl,rfl⟩
 simp [Leaves,settle,results,Tryz.results116,go_sem,a1]
 exact⟨w2,HR.out,HB.out,rfl⟩
def KpPost (w w':World)(g db k:Nat)(turn time:Int)(es:Es)(fsD fsN:Fs)(F:Nat→Prop):Prop:=
 ∃ (ks:List Ky) (a c:Nat) (F':Nat→Prop),ks.Perm (es.map Prod.fst)∧StoAt w' g db (nextT turn)∧DskAt w' db k (putG (nextT turn % 2==1) (a,strOfNums (imgB (nextT turn) time es ks)) fsD) (putG (nextT turn % 2==1) (c,strOfNums (imgB (nextT turn) time es ks)) fsN) F'∧(∀ b,F' b→F b∨w.heap.size≤b)∧Keep (fun c=>c=g∨F c) w w'
theorem KpPost.from {w V w':World}{g db k:Nat}{turn time:Int}{es:Es}{fsD fsN:Fs}{F:Nat→Prop}(h:KpPost V w' g db k turn time es fsD fsN F)(hV:Keep (fun _=>False) w V):KpPost w w' g db k turn time es fsD fsN F:=by
 obtain⟨ks,a,c,F',h1,h2,h3,h4,h5⟩:=h
 exact⟨ks,a,c,F',h1,h2,h3,fun b hb=>(h4 b hb).imp id (fun h=>Nat.le_trans hV.size h),(hV.mono (fun _ h _=>h.elim)).trans h5⟩
theorem KpPost.set {w V w':World}{g db k:Nat}{turn time:Int}{es:Es}{fsD fsN:Fs}{F:Nat→Prop}(h:KpPost V w' g db k turn time es fsD fsN F){x:Nat}(hx:x<V.heap.size)(hF:¬F x)(hg:x≠g)(hV:Keep (fun _=>False) w V)(hw:w.heap.size≤x)(j:Nat)(v:Value):KpPost w (w'.setCell ⟨x,j,none⟩ v) g db k turn time es fsD fsN F:=by
 obtain⟨ks,a,c,F',h1,h2,h3,h4,h5⟩:=h
 refine⟨ks,a,c,F',h1,h2.kept (ja0 (fun e=>hg e.symm) _ _),h3.kept (by rw [World.size_setCell];exact Nat.le_refl _) (fun b hb=>ja0 (fun e=>?_) _ _),fun b hb=>(h4 b hb).imp id (fun h=>Nat.le_trans hV.size h),((hV.mono (fun _ h _=>h.elim)).trans h5).set (Or.inr hw) _ _⟩
 subst e
 rcases h4 b hb with h | h
 ·exact hF h
 ·omega
theorem StoAt.seterr {w:World}{g db:Nat}{turn:Int}(h:StoAt w g db turn):StoAt (w.setCell ⟨g,261,none⟩ .nilIface) g db turn:=
 ⟨fun j hj=>by rw [World.frozen?_setCell];exact h.fro j hj,(World.cell?_setCell_other _ _ _ _ (by simp)).trans h.dsk,h.tab.set (Or.inr (by omega)) _,(World.cell?_setCell_other _ _ _ _ (by simp)).trans h.turn,World.cell?_setCell_same _ _ _ h.err⟩
theorem KpPost.err {w w':World}{g db k:Nat}{turn time:Int}{es:Es}{fsD fsN:Fs}{F:Nat→Prop}(h:KpPost w w' g db k turn time es fsD fsN F)(hF:¬F g)(hg:g<w.heap.size):KpPost w (w'.setCell ⟨g,261,none⟩ .nilIface) g db k turn time es fsD fsN F:=by
 obtain⟨ks,a,c,F',h1,h2,h3,h4,h5⟩:=h
 refine⟨ks,a,c,F',h1,h2.seterr,h3.kept (by rw [World.size_setCell];exact Nat.le_refl _) (fun b hb=>ja0 (fun e=>?_) _ _),h4,h5.set (Or.inl (Or.inl rfl)) _ _⟩
 subst e
 rcases h4 b hb with h | h
 ·exact hF h
 ·omega
structure KpPre (w:World)(g db b k:Nat)(turn time:Int)(es:Es)(fsD fsN:Fs)(F:Nat→Prop):Prop where
 e:MapE w b es
 nd:(es.map Prod.fst).Nodup
 ok:∀ p∈es,p.1.ok
 fit:∀ p∈es,p.2.2.fit
 sz:es.length≤12
 t0:0≤turn
 t1:turn≤18446744073709551615
 m0:0≤time
 m1:time≤18446744073709551615
 s:StoAt w g db turn
 d:DskAt w db (k+2) fsD fsN F
 gF:¬F g
 bF:¬F b
 bg:b≠g
theorem KpPre.to {w V:World}{g db b k:Nat}{turn time:Int}{es:Es}{fsD fsN:Fs}{F:Nat→Prop}(h:KpPre w g db b k turn time es fsD fsN F)(hV:Keep (fun _=>False) w V):KpPre V g db b k turn time es fsD fsN F:=
 ⟨MapG.kept h.e (hV.block b (MapG.lt h.e) (fun h=>h)),h.nd,h.ok,h.fit,h.sz,h.t0,h.t1,h.m0,h.m1,h.s.kept (hV.block g h.s.lt (fun h=>h)),h.d.kept hV.size (fun c hc=>hV.block c (h.d.lt c hc) (fun h=>h)),h.gF,h.bF,h.bg⟩
theorem jg1 (A B C g db b k:Nat)(turn time:Int)(es:Es)(fsD fsN:Fs)(F:Nat→Prop)(w:World)(h:KpPre w g db b k turn time es fsD fsN F)
  (hA:w.heap[A]?=some (.cells #[.pointer (some ⟨g,0,none⟩)] 122)) (hB:w.heap[B]?=some (.cells #[.int .u64 time] 23)) (hC:w.heap[C]?=some (.cells #[.func (.func 143) #[.map (some b)] #[]] 278)) :
  Calls Tryz.prog 172 #[.pointer (some ⟨A,0,none⟩),.pointer (some ⟨B,0,none⟩),.pointer (some ⟨C,0,none⟩)] w fun e w'=>e=.returned .nilIface∧KpPost w w' g db k turn time es fsD fsN F:=by
 have H:=hide (jcU g db b k es turn time fsD fsN F w h.e h.nd h.ok h.fit h.sz h.t0 h.t1 h.m0 h.m1 h.s h.d h.gF h.bF h.bg)
 have a1:=cellB hA
 have a2:=cellB hB
 have a3:=cellB hC
 clear h
 go_enter Tryz.func172,Tryz.ntmps172
 go_wp2_with fail
 refine H.out.mono ?_
 rintro e w2 ⟨rfl,hX⟩
 have HX:=hide hX
 clear hX
 go_wp2
 go_ret
 exact⟨rfl,HX.out⟩
theorem jkG (vs:Array Value)(w:World):Sem.run Tryz.prog (callFunc 172 vs) w=.ok (.enter 172 vs) w:=by simp [go_sem]
theorem jl2 (A B C g db b k:Nat)(turn time:Int)(es:Es)(fsD fsN:Fs)(F:Nat→Prop)(w:World)(h:KpPre w g db b k turn time es fsD fsN F)
  (hA:w.heap[A]?=some (.cells #[.pointer (some ⟨g,0,none⟩)] 122)) (hB:w.heap[B]?=some (.cells #[.int .u64 time] 23)) (hC:w.heap[C]?=some (.cells #[.func (.func 143) #[.map (some b)] #[]] 278)) :
  Calls Tryz.prog 159 #[.pointer (some ⟨g,0,none⟩),.func (.func 172) #[] #[.pointer (some ⟨A,0,none⟩),.pointer (some ⟨B,0,none⟩),.pointer (some ⟨C,0,none⟩)]] w fun e w'=>e=.returned .nilIface∧KpPost w w' g db k turn time es fsD fsN F:=by
 have hgl:=h.s.lt
 have hKV:Keep (fun _=>False) w (w.alloc (.cells #[.nilIface] 97)):=(Keep.refl _ w).alloc _
 have hFn:¬F w.heap.size:=fun hF=>by have:=h.d.lt _ hF;omega
 have HG:=hide (jca 172 #[.pointer (some ⟨A,0,none⟩),.pointer (some ⟨B,0,none⟩),.pointer (some ⟨C,0,none⟩)] jkG w (fun w2=>KpPost (w.alloc (.cells #[.nilIface] 97)) w2 g db k turn time es fsD fsN F) (by
   refine (jg1 A B C g db b k turn time es fsD fsN F _ (h.to hKV) (upB hA _) (upB hB _) (upB hC _)).mono ?_
   rintro e w2 ⟨rfl,hP⟩
   refine⟨rfl,?_,hP⟩
   obtain⟨_,_,_,_,_,_,_,_,h5⟩:=hP
   exact (h5.block w.heap.size (by simp) (fun hh=>hh.elim (fun e=>by omega) hFn)).trans (ja1 _ _)))
 have a1:=h.s.err
 have HP:=hide h
 clear h
 go_enter Tryz.func159,Tryz.ntmps159
 go_wp2_with fail
 refine HG.out.mono ?_
 rintro e w1 ⟨rfl,w2,hP,hb,hw1⟩
 have hP1:KpPost w w1 g db k turn time es fsD fsN F:=by
  rw [hw1]
  exact hP.set (by simp) hFn (by omega) hKV (Nat.le_refl _) _ _
 have hs1:w1.cell? ⟨g,261,none⟩=some .nilIface:=by
  obtain⟨_,_,_,_,_,h2,_⟩:=hP1
  exact h2.err
 have hf1:w1.frozen? ⟨g,261,none⟩=false:=by
  obtain⟨_,_,_,_,_,h2,_⟩:=hP1
  exact h2.fro 261 (by omega)
 have HP1:=hide hP1
 clear hP1 hP hb hw1 a1
 go_wp2
 go_ret
 exact⟨rfl,HP1.out.err HP.out.gF hgl⟩
theorem jkM (g db b k:Nat)(turn time:Int)(es:Es)(fsD fsN:Fs)(F:Nat→Prop)(w:World)(h:KpPre w g db b k turn time es fsD fsN F) :
  Calls Tryz.prog 154 #[.pointer (some ⟨g,0,none⟩),.int .u64 time,.func (.func 143) #[.map (some b)] #[]] w fun e w'=>e=.returned .nilIface∧KpPost w w' g db k turn time es fsD fsN F:=by
 have hmf:∀ (fn:Fn) (first cap:Array Value) (w:World),(Instr.makeFunc fn first cap).run Tryz.prog w=.ok (.func fn first cap) w:=fun _ _ _ _=>rfl
 obtain⟨V,hV⟩:∃ V,V=((w.alloc (.cells #[.pointer (some ⟨g,0,none⟩)] 122)).alloc (.cells #[.int .u64 time] 23)).alloc (.cells #[.func (.func 143) #[.map (some b)] #[]] 278):=⟨_,rfl⟩
 have hA:V.heap[w.heap.size]?=some (.cells #[.pointer (some ⟨g,0,none⟩)] 122):=hV▸upB (upB (ja1 _ _) _) _
 have hB:V.heap[w.heap.size+1]?=some (.cells #[.int .u64 time] 23):=hV▸upB (heapN (by simp)) _
 have hC:V.heap[w.heap.size+2]?=some (.cells #[.func (.func 143) #[.map (some b)] #[]] 278):=hV▸heapN (by simp)
 have hKV:Keep (fun _=>False) w V:=hV▸(((Keep.refl _ w).alloc _).alloc _).alloc _
 have HA:=hide (jl2 w.heap.size (w.heap.size+1) (w.heap.size+2) g db b k turn time es fsD fsN F V (h.to hKV) hA hB hC)
 have HKV:=hide hKV
 have a1:=cellB hA
 clear h hKV
 go_enter Tryz.func154,Tryz.ntmps154
 go_upto_region 1 with fail
 rw [←hV]
 clear hV
 go_wp2_with fail
 refine HA.out.mono ?_
 rintro e w2 ⟨rfl,hX⟩
 have HX:=hide (hX.from HKV.out)
 clear hX
 go_wp2
 go_ret
 exact⟨rfl,HX.out⟩
end Go.Proofs.YtnlgndpcddngoaaGreatDoor
