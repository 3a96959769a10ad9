import Derived.Test.YtnlgndpcddngoaaGreatDoorZd13
import Derived.Test.YtnlgndpcddngoaaGreatDoorZd00
import Derived.Test.YtnlgndpcddngoaaGreatDoorZd03
import Derived.Test.YtnlgndpcddngoaaGreatDoorZd11
import Derived.Test.YtnlgndpcddngoaaGreatDoorZd12
import Derived.Deep.RegionLaw
set_option linter.unusedVariables false
set_option linter.unusedSimpArgs false
set_option maxRecDepth 100000
set_option maxHeartbeats 2000000
namespace Go.Proofs.YtnlgndpcddngoaaGreatDoor
open Go.RowKit
theorem jlq (g so n cap:Nat)(b:Nat→Int)(w:World)(hn:18≤n)(hnc:n≤cap)(hn1:n≤1048576)(hg:g<w.heap.size)(hb:∀ j,j<n→w.cell? ⟨g,so+j,none⟩=some (.int .u8 (b j)))(hr:∀ j,0≤b j∧b j≤255)(hb0:b 0=17)(hb1:b 1=2) :
  Calls Tryz.prog 85 #[.slice (some ⟨g,so,none⟩) n cap] w fun e w'=>e=.returned (.tuple #[.agg #[.int .u8 2,.int .u8 (b 2),.int .u8 (b 3),.int .u8 (b 4),.int .u8 (b 5),.int .u8 (b 6),.int .u8 (b 7),.int .u8 (b 8),.int .u8 (b 9),.int .u8 0,.int .u64 0,.int .u64 0,.int .u64 (rdTo (fun j=>b (10+j)) 8)],.int .i64 18,.int .i64 0])∧Below w.heap.size w w':=by
 have hn0:(0:Int)<n:=by omega
 have hnd:decide ((0:Int)<n)=true:=by simpa using hn0
 have hn2:decide ((1:Int)<n)=true:=by simp;omega
 have hnI:(1:Int)<n:=by omega
 have hne:((n:Int)==0)=false:=by simp;omega
 have hlt:decide ((n:Int)<18)=false:=by simp;omega
 have hl:jaf 2=17:=rfl
 have hS:=St2.start w g hg #[.int .u8 0,.int .u8 0,.int .u8 0,.int .u8 0,.int .u8 0,.int .u8 0,.int .u8 0,.int .u8 0,.int .u8 0,.int .u8 0,.int .u64 0,.int .u64 0,.int .u64 0]
 have hc0:w.cell? ⟨g,so,none⟩=some (.int .u8 17):=(hb 0 (by omega)).trans (by rw [hb0])
 have hc1:w.cell? ⟨g,so+1,none⟩=some (.int .u8 2):=(hb 1 (by omega)).trans (by rw [hb1])
 have hc0':∀ o1 o2,((w.alloc o1).alloc o2).cell? ⟨g,so,none⟩=some (.int .u8 17):=fun o1 o2=>by rw [World.cell?_alloc_past _ _ _ (by simp;omega),World.cell?_alloc_past _ _ _ hg];exact hc0
 have hc1':∀ o1 o2,((w.alloc o1).alloc o2).cell? ⟨g,so+1,none⟩=some (.int .u8 2):=fun o1 o2=>by rw [World.cell?_alloc_past _ _ _ (by simp;omega),World.cell?_alloc_past _ _ _ hg];exact hc1
 have HB:=hide hb
 have HR:=hide hr
 clear hb hr hb0 hb1
 have hn3:decide ((2:Int)<n)=true:=by simp;omega
 have hcap:¬cap=10:=by omega
 have hnI10:(10:Int)≤n:=by omega
 have hncI:(n:Int)≤cap:=by omega
 go_enter Tryz.func85,Tryz.ntmps85
 go_wp2_with (go_at_call 83;refine (jan _ _).mono ?_;rintro e w' ⟨rfl,rfl⟩)
 have HS:St2 w ((w.alloc (.cells #[.int .u8 0,.int .u8 0,.int .u8 0,.int .u8 0,.int .u8 0,.int .u8 0,.int .u8 0,.int .u8 0,.int .u8 0,.int .u8 0,.int .u64 0,.int .u64 0,.int .u64 0] 65)).alloc (.cells #[.int .u8 2,.int .u8 0,.int .u8 0,.int .u8 0,.int .u8 0,.int .u8 0,.int .u8 0,.int .u8 0,.int .u8 0,.int .u8 0,.int .u64 0,.int .u64 0,.int .u64 0] 65)) g (jaY 2 b 0):=St2.start w g hg _
 clear hS hc0' hc1'
 go_loopw [7] (fun i wr=>∃ j:Nat,j≤8∧i=.int .i64 j∧St2 w wr g (jaY 2 b j)) (fun i _=>8 - (intOf i).toNat)
 case atStart=>exact⟨0,by omega,rfl,HS⟩
 case round=>
  obtain⟨j,hj,rfl,S⟩:=hrel
  clear HS
  by_cases hj8:j<8
  ·have hbj:wr.cell? ⟨g,so+(2+j),none⟩=some (.int .u8 (b (2+j))):=(S.G (so+(2+j))).trans (HB.out (2+j) (by omega))
   have hrs:1+j<(jaY 2 b j).size:=by show _<13;omega
   obtain⟨u,hu⟩:∃ u,wr.cell? ⟨w.heap.size+1,1+j,none⟩=some u:=⟨_,(S.r (1+j)).trans (Array.getElem?_eq_getElem hrs)⟩
   have hfu:=S.rf (1+j)
   have hjn:2+j<n:=by omega
   go_wp2
   go_roundw
   case rel=>exact⟨j+1,by omega,by go_num,by rw [←jb9 2 b j hj8];exact S.setr (1+j) hrs _⟩
   case measure=>simp [intOf];omega
  ·obtain rfl:j=8:=by omega
   have S8:St2 w wr g #[.int .u8 2,.int .u8 (b 2),.int .u8 (b 3),.int .u8 (b 4),.int .u8 (b 5),.int .u8 (b 6),.int .u8 (b 7),.int .u8 (b 8),.int .u8 (b 9),.int .u8 0,.int .u64 0,.int .u64 0,.int .u64 0]:=S
   clear S
   have hr8:=S8.r
   have hrf8:=S8.rf
   have hR8:=S8.R
   have hRf8:=S8.Rf
   have hG0:wr.cell? ⟨g,so,none⟩=some (.int .u8 17):=(S8.G so).trans hc0
   go_wp2_with fail
   refine (jce g (so+10) (n - 10) (cap - 10) (fun j=>b (10+j)) _ (by omega) (by omega) (fun j hj=>by rw [Nat.add_assoc];exact (S8.G (so+(10+j))).trans (HB.out (10+j) (by omega))) (fun j=>HR.out (10+j))).mono ?_
   rintro e w5 ⟨rfl,hw5⟩
   have S9:St2 w w5 g #[.int .u8 2,.int .u8 (b 2),.int .u8 (b 3),.int .u8 (b 4),.int .u8 (b 5),.int .u8 (b 6),.int .u8 (b 7),.int .u8 (b 8),.int .u8 (b 9),.int .u8 0,.int .u64 0,.int .u64 0,.int .u64 0]:=by rw [hw5];exact S8
   clear hw5 hG0 hr8 hrf8 hR8 hRf8 S8
   have hrS9:=S9.r
   have hrfS9:=S9.rf
   have hRS9:=S9.R
   have hRfS9:=S9.Rf
   go_wp2_with fail
   have hGS90:=(S9.G so).trans hc0
   go_region
   all_goals
    go_wp2
    refine bodyPost_ret (v:=.tuple #[.agg #[.int .u8 2,.int .u8 (b 2),.int .u8 (b 3),.int .u8 (b 4),.int .u8 (b 5),.int .u8 (b 6),.int .u8 (b 7),.int .u8 (b 8),.int .u8 (b 9),.int .u8 0,.int .u64 0,.int .u64 0,.int .u64 (rdTo (fun j=>b (10+j)) 8)],.int .i64 18,.int .i64 0]) (by simp [results,Tryz.results85,go_sem,hRS9]) rfl ⟨rfl,?_⟩
    refine Below.drew ?_
    repeat (refine Below.setCell ?_ (by first | exact Nat.le_refl _ | (show _≤w.heap.size+1;omega)) _)
    exact S9.B
theorem jlD (g so n cap:Nat)(b:Nat→Int)(w:World)(hn:27≤n)(hnc:n≤cap)(hn1:n≤1048576)(hg:g<w.heap.size)(hb:∀ j,j<n→w.cell? ⟨g,so+j,none⟩=some (.int .u8 (b j)))(hr:∀ j,0≤b j∧b j≤255)(hb0:b 0=26)(hb1:b 1=1) :
  Calls Tryz.prog 85 #[.slice (some ⟨g,so,none⟩) n cap] w fun e w'=>e=.returned (.tuple #[.agg #[.int .u8 1,.int .u8 (b 2),.int .u8 (b 3),.int .u8 (b 4),.int .u8 (b 5),.int .u8 (b 6),.int .u8 (b 7),.int .u8 (b 8),.int .u8 (b 9),.int .u8 (b 10),.int .u64 (rdTo (fun j=>b (11+j)) 8),.int .u64 (rdTo (fun j=>b (19+j)) 8),.int .u64 0],.int .i64 27,.int .i64 0])∧Below w.heap.size w w':=by
 have hn0:(0:Int)<n:=by omega
 have hnd:decide ((0:Int)<n)=true:=by simpa using hn0
 have hn2:decide ((1:Int)<n)=true:=by simp;omega
 have hnI:(1:Int)<n:=by omega
 have hne:((n:Int)==0)=false:=by simp;omega
 have hlt:decide ((n:Int)<27)=false:=by simp;omega
 have hl:jaf 1=26:=rfl
 have hS:=St2.start w g hg #[.int .u8 0,.int .u8 0,.int .u8 0,.int .u8 0,.int .u8 0,.int .u8 0,.int .u8 0,.int .u8 0,.int .u8 0,.int .u8 0,.int .u64 0,.int .u64 0,.int .u64 0]
 have hc0:w.cell? ⟨g,so,none⟩=some (.int .u8 26):=(hb 0 (by omega)).trans (by rw [hb0])
 have hc1:w.cell? ⟨g,so+1,none⟩=some (.int .u8 1):=(hb 1 (by omega)).trans (by rw [hb1])
 have hc0':∀ o1 o2,((w.alloc o1).alloc o2).cell? ⟨g,so,none⟩=some (.int .u8 26):=fun o1 o2=>by rw [World.cell?_alloc_past _ _ _ (by simp;omega),World.cell?_alloc_past _ _ _ hg];exact hc0
 have hc1':∀ o1 o2,((w.alloc o1).alloc o2).cell? ⟨g,so+1,none⟩=some (.int .u8 1):=fun o1 o2=>by rw [World.cell?_alloc_past _ _ _ (by simp;omega),World.cell?_alloc_past _ _ _ hg];exact hc1
 have HB:=hide hb
 have HR:=hide hr
 clear hb hr hb0 hb1
 have hn3:decide ((2:Int)<n)=true:=by simp;omega
 have hcap:¬cap=11:=by omega
 have hcap2:¬cap=19:=by omega
 have hnI10:(10:Int)<n:=by omega
 have hnI11:(11:Int)≤n:=by omega
 have hnI19:(19:Int)≤n:=by omega
 have hncI:(n:Int)≤cap:=by omega
 go_enter Tryz.func85,Tryz.ntmps85
 go_wp2_with (go_at_call 83;refine (jan _ _).mono ?_;rintro e w' ⟨rfl,rfl⟩)
 have HS:St2 w ((w.alloc (.cells #[.int .u8 0,.int .u8 0,.int .u8 0,.int .u8 0,.int .u8 0,.int .u8 0,.int .u8 0,.int .u8 0,.int .u8 0,.int .u8 0,.int .u64 0,.int .u64 0,.int .u64 0] 65)).alloc (.cells #[.int .u8 1,.int .u8 0,.int .u8 0,.int .u8 0,.int .u8 0,.int .u8 0,.int .u8 0,.int .u8 0,.int .u8 0,.int .u8 0,.int .u64 0,.int .u64 0,.int .u64 0] 65)) g (jaY 1 b 0):=St2.start w g hg _
 clear hS hc0' hc1'
 go_loopw [7] (fun i wr=>∃ j:Nat,j≤8∧i=.int .i64 j∧St2 w wr g (jaY 1 b j)) (fun i _=>8 - (intOf i).toNat)
 case atStart=>exact⟨0,by omega,rfl,HS⟩
 case round=>
  obtain⟨j,hj,rfl,S⟩:=hrel
  clear HS
  by_cases hj8:j<8
  ·have hbj:wr.cell? ⟨g,so+(2+j),none⟩=some (.int .u8 (b (2+j))):=(S.G (so+(2+j))).trans (HB.out (2+j) (by omega))
   have hrs:1+j<(jaY 1 b j).size:=by show _<13;omega
   obtain⟨u,hu⟩:∃ u,wr.cell? ⟨w.heap.size+1,1+j,none⟩=some u:=⟨_,(S.r (1+j)).trans (Array.getElem?_eq_getElem hrs)⟩
   have hfu:=S.rf (1+j)
   have hjn:2+j<n:=by omega
   go_wp2
   go_roundw
   case rel=>exact⟨j+1,by omega,by go_num,by rw [←jb9 1 b j hj8];exact S.setr (1+j) hrs _⟩
   case measure=>simp [intOf];omega
  ·obtain rfl:j=8:=by omega
   have S8:St2 w wr g #[.int .u8 1,.int .u8 (b 2),.int .u8 (b 3),.int .u8 (b 4),.int .u8 (b 5),.int .u8 (b 6),.int .u8 (b 7),.int .u8 (b 8),.int .u8 (b 9),.int .u8 0,.int .u64 0,.int .u64 0,.int .u64 0]:=S
   clear S
   have hr8:=S8.r
   have hrf8:=S8.rf
   have hR8:=S8.R
   have hRf8:=S8.Rf
   have hG0:wr.cell? ⟨g,so,none⟩=some (.int .u8 26):=(S8.G so).trans hc0
   have hG10:wr.cell? ⟨g,so+10,none⟩=some (.int .u8 (b 10)):=(S8.G (so+10)).trans (HB.out 10 (by omega))
   go_wp2_with fail
   have T9:=S8.setr 9 (by simp) (.int .u8 (b 10))
   refine (jce g (so+11) (n - 11) (cap - 11) (fun j=>b (11+j)) _ (by omega) (by omega) (fun j hj=>by rw [Nat.add_assoc];exact (T9.G (so+(11+j))).trans (HB.out (11+j) (by omega))) (fun j=>HR.out (11+j))).mono ?_
   rintro e w5 ⟨rfl,hw5⟩
   have S9:St2 w w5 g #[.int .u8 1,.int .u8 (b 2),.int .u8 (b 3),.int .u8 (b 4),.int .u8 (b 5),.int .u8 (b 6),.int .u8 (b 7),.int .u8 (b 8),.int .u8 (b 9),.int .u8 (b 10),.int .u64 0,.int .u64 0,.int .u64 0]:=by rw [hw5];exact T9
   clear hw5 T9 hG0 hG10 hr8 hrf8 hR8 hRf8 S8
   have hrS9:=S9.r
   have hrfS9:=S9.rf
   have hRS9:=S9.R
   have hRfS9:=S9.Rf
   go_wp2_with fail
   have T10:=S9.setr 10 (by simp) (.int .u64 (rdTo (fun j=>b (11+j)) 8))
   refine (jce g (so+19) (n - 19) (cap - 19) (fun j=>b (19+j)) _ (by omega) (by omega) (fun j hj=>by rw [Nat.add_assoc];exact (T10.G (so+(19+j))).trans (HB.out (19+j) (by omega))) (fun j=>HR.out (19+j))).mono ?_
   rintro e w6 ⟨rfl,hw6⟩
   have S10:St2 w w6 g #[.int .u8 1,.int .u8 (b 2),.int .u8 (b 3),.int .u8 (b 4),.int .u8 (b 5),.int .u8 (b 6),.int .u8 (b 7),.int .u8 (b 8),.int .u8 (b 9),.int .u8 (b 10),.int .u64 (rdTo (fun j=>b (11+j)) 8),.int .u64 0,.int .u64 0]:=by rw [hw6];exact T10
   clear hw6 T10 hrS9 hrfS9 hRS9 hRfS9 S9
   have hrS10:=S10.r
   have hrfS10:=S10.rf
   have hRS10:=S10.R
   have hRfS10:=S10.Rf
   go_wp2_with fail
   have hGS100:=(S10.G so).trans hc0
   go_region
   all_goals
    go_wp2
    refine bodyPost_ret (v:=.tuple #[.agg #[.int .u8 1,.int .u8 (b 2),.int .u8 (b 3),.int .u8 (b 4),.int .u8 (b 5),.int .u8 (b 6),.int .u8 (b 7),.int .u8 (b 8),.int .u8 (b 9),.int .u8 (b 10),.int .u64 (rdTo (fun j=>b (11+j)) 8),.int .u64 (rdTo (fun j=>b (19+j)) 8),.int .u64 0],.int .i64 27,.int .i64 0]) (by simp [results,Tryz.results85,go_sem,hRS10]) rfl ⟨rfl,?_⟩
    refine Below.drew ?_
    repeat (refine Below.setCell ?_ (by first | exact Nat.le_refl _ | (show _≤w.heap.size+1;omega)) _)
    exact S10.B
theorem jbO (lo hi:Int)(f:Nat)(v:Value)(w:World)
  (hbeg:Hid (∀ w1,Below w.heap.size w w1→Calls Tryz.prog 132 #[.agg #[.int .u8 lo,.int .u8 hi,.func (.func f) #[] #[]],v] w1 fun e w'=>e=.returned (.iface 53 (.int .i64 2))∧Below w1.heap.size w1 w')) :
  Calls Tryz.prog 103 #[.agg #[.int .u8 lo,.int .u8 hi,.func (.func f) #[] #[]],v] w fun e w'=>e=.returned (.tuple #[.slice none 0 0,.iface 53 (.int .i64 2)])∧Below w.heap.size w w':=by
 go_enter Tryz.func103,Tryz.ntmps103
 go_wp2_with fail
 refine (hbeg.out _ ((Below.refl _ w).alloc (Nat.le_refl _) _)).mono ?_
 rintro e w1 ⟨rfl,hb1⟩
 go_wp2_with fail
 refine (jdm _ _).mono ?_
 rintro e w2 ⟨rfl,rfl⟩
 go_wp2
 go_ret2
 exact⟨rfl,((Below.refl _ w).alloc (Nat.le_refl _) _).trans (hb1.mono (by simp))⟩
theorem jcL (lo hi:Int)(f:Nat)(v:Value)(w:World)
  (hbeg:Hid (∀ w1,Below w.heap.size w w1→Calls Tryz.prog 132 #[.agg #[.int .u8 lo,.int .u8 hi,.func (.func f) #[] #[]],v] w1 fun e w'=>e=.returned (.iface 53 (.int .i64 1))∧Below w1.heap.size w1 w')) :
  Calls Tryz.prog 103 #[.agg #[.int .u8 lo,.int .u8 hi,.func (.func f) #[] #[]],v] w fun e w'=>e=.returned (.tuple #[.slice none 0 0,.iface 53 (.int .i64 1)])∧Below w.heap.size w w':=by
 go_enter Tryz.func103,Tryz.ntmps103
 go_wp2_with fail
 refine (hbeg.out _ ((Below.refl _ w).alloc (Nat.le_refl _) _)).mono ?_
 rintro e w1 ⟨rfl,hb1⟩
 go_wp2_with fail
 refine (jeW _ _ _ (by decide)).mono ?_
 rintro e w2 ⟨rfl,rfl⟩
 go_wp2_with fail
 refine (jdm _ _).mono ?_
 rintro e w2 ⟨rfl,rfl⟩
 go_wp2
 go_ret2
 exact⟨rfl,((Below.refl _ w).alloc (Nat.le_refl _) _).trans (hb1.mono (by simp))⟩
theorem jex (lo hi:Int)(f:Nat)(g so n cap:Nat)(b0:Int)(w:World)(hn:0<n)(h0:0≤b0)(h1:b0≤255)(hg:g<w.heap.size)(hc0:w.cell? ⟨g,so,none⟩=some (.int .u8 b0))(hle:(n:Int)≤b0)
  (hbeg:Hid (∀ w1,Below w.heap.size w w1→Calls Tryz.prog 132 #[.agg #[.int .u8 lo,.int .u8 hi,.func (.func f) #[] #[]],.slice (some ⟨g,so,none⟩) n cap] w1 fun e w'=>e=.returned .nilIface∧Below w1.heap.size w1 w')) :
  Calls Tryz.prog 103 #[.agg #[.int .u8 lo,.int .u8 hi,.func (.func f) #[] #[]],.slice (some ⟨g,so,none⟩) n cap] w fun e w'=>e=.returned (.tuple #[.slice none 0 0,.iface 53 (.int .i64 1)])∧Below w.heap.size w w':=by
 go_enter Tryz.func103,Tryz.ntmps103
 go_wp2_with fail
 refine (hbeg.out _ ((Below.refl _ w).alloc (Nat.le_refl _) _)).mono ?_
 rintro e w1 ⟨rfl,hb1⟩
 have hB1:Below w.heap.size w w1:=((Below.refl _ w).alloc (Nat.le_refl _) _).trans (hb1.mono (by simp))
 have hc1:w1.cell? ⟨g,so,none⟩=some (.int .u8 b0):=(hB1.cell (p:=⟨g,so,none⟩) hg).trans hc0
 clear hb1
 go_wp2_with fail
 refine (jeX _ _).mono ?_
 rintro e w2 ⟨rfl,rfl⟩
 go_wp2_with fail
 refine (jeX _ _).mono ?_
 rintro e w2 ⟨rfl,rfl⟩
 go_wp2
 go_ret2
 exact⟨rfl,hB1⟩
theorem jjZ (lo hi:Int)(f:Nat)(g so n cap:Nat)(b0:Nat)(w:World)(hn:b0<n)(hnc:n≤cap)(hn1:n≤1048576)(h0:0<b0)(h1:b0≤255)(hg:g<w.heap.size)(hc0:w.cell? ⟨g,so,none⟩=some (.int .u8 b0))
  (hbeg:Hid (∀ w1,Below w.heap.size w w1→Calls Tryz.prog 132 #[.agg #[.int .u8 lo,.int .u8 hi,.func (.func f) #[] #[]],.slice (some ⟨g,so,none⟩) n cap] w1 fun e w'=>e=.returned .nilIface∧Below w1.heap.size w1 w')) :
  Calls Tryz.prog 103 #[.agg #[.int .u8 lo,.int .u8 hi,.func (.func f) #[] #[]],.slice (some ⟨g,so,none⟩) n cap] w fun e w'=>e=.returned (.tuple #[.slice (some ⟨g,so+1,none⟩) b0 b0,.nilIface])∧Below w.heap.size w w':=by
 have hnp:0<n:=by omega
 have hcm:0<cap:=by omega
 go_enter Tryz.func103,Tryz.ntmps103
 go_wp2_with fail
 refine (hbeg.out _ ((Below.refl _ w).alloc (Nat.le_refl _) _)).mono ?_
 rintro e w1 ⟨rfl,hb1⟩
 have hB1:Below w.heap.size w w1:=((Below.refl _ w).alloc (Nat.le_refl _) _).trans (hb1.mono (by simp))
 have hc1:w1.cell? ⟨g,so,none⟩=some (.int .u8 b0):=(hB1.cell (p:=⟨g,so,none⟩) hg).trans hc0
 clear hb1
 go_wp2_with fail
 refine (jeX _ _).mono ?_
 rintro e w2 ⟨rfl,rfl⟩
 go_wp2_with fail
 refine (jeX _ _).mono ?_
 rintro e w2 ⟨rfl,rfl⟩
 go_wp2
 go_ret2
 rw [Nat.add_sub_cancel_left]
 exact⟨rfl,hB1⟩
theorem jbp (g so n cap:Nat)(b0:Nat)(b1:Int)(w:World)(hn:b0<n)(hnc:n≤cap)(hn1:n≤1048576)(hb0:0<b0)(hb1:b0≤26)(hl:(b0:Int)=jaf b1)(hg:g<w.heap.size)(hc0:w.cell? ⟨g,so,none⟩=some (.int .u8 b0))(hc1:w.cell? ⟨g,so+1,none⟩=some (.int .u8 b1)) :
  Calls Tryz.prog 103 #[.agg #[.int .u8 1,.int .u8 26,.func (.func 66) #[] #[]],.slice (some ⟨g,so,none⟩) n cap] w fun e w'=>e=.returned (.tuple #[.slice (some ⟨g,so+1,none⟩) b0 b0,.nilIface])∧Below w.heap.size w w':=by
 refine jjZ 1 26 66 g so n cap b0 w hn hnc hn1 hb0 (by omega) hg hc0 ?_
 intro w1 hB
 refine (jhf g so n cap b0 b1 w1 (by omega) (Nat.lt_of_lt_of_le hg hB.size) ((hB.cell (p:=⟨g,so,none⟩) hg).trans hc0) ((hB.cell (p:=⟨g,so+1,none⟩) hg).trans hc1) (by omega) (by omega)).mono ?_
 rintro e w2 ⟨rfl,hb⟩
 exact⟨by rw [if_pos hl],hb⟩
theorem ja9 {w2:World}{g:Nat}(o1 o2:Obj)(j:Nat)(hg:g<w2.heap.size):((w2.alloc o1).alloc o2).cell? ⟨g,j,none⟩=w2.cell? ⟨g,j,none⟩:=by
 rw [World.cell?_alloc_past _ _ _ (by simp;omega),World.cell?_alloc_past _ _ _ hg]
theorem rreq3 (g so n cap:Nat)(k0 k1 k2 k3 k4 k5 k6 k7:Int)(w:World)(hn:10≤n)(hnc:n≤cap)(hn1:n≤1048576)(hg:g<w.heap.size)(c0:w.cell? ⟨g,so,none⟩=some (.int .u8 9))(c1:w.cell? ⟨g,so+1,none⟩=some (.int .u8 3))(h0:w.cell? ⟨g,so+2,none⟩=some (.int .u8 k0))(h1:w.cell? ⟨g,so+3,none⟩=some (.int .u8 k1))(h2:w.cell? ⟨g,so+4,none⟩=some (.int .u8 k2))(h3:w.cell? ⟨g,so+5,none⟩=some (.int .u8 k3))(h4:w.cell? ⟨g,so+6,none⟩=some (.int .u8 k4))(h5:w.cell? ⟨g,so+7,none⟩=some (.int .u8 k5))(h6:w.cell? ⟨g,so+8,none⟩=some (.int .u8 k6))(h7:w.cell? ⟨g,so+9,none⟩=some (.int .u8 k7)) :
  Calls Tryz.prog 72 #[.slice (some ⟨g,so,none⟩) n cap] w fun e w'=>e=.returned (.tuple #[.agg #[.int .u8 3,.int .u8 k0,.int .u8 k1,.int .u8 k2,.int .u8 k3,.int .u8 k4,.int .u8 k5,.int .u8 k6,.int .u8 k7,.int .u8 0,.int .u64 0,.int .u64 0,.int .u64 0],.int .i64 10,.nilIface])∧Below w.heap.size w w':=by
 go_enter Tryz.func72,Tryz.ntmps72
 go_wp2_with fail
 refine (jav _).mono ?_
 rintro e w1 ⟨rfl,hb1⟩
 have hB1:Below w.heap.size w w1:=((Below.refl _ w).alloc (Nat.le_refl _) _).trans (hb1.mono (by simp))
 have hs1:w.heap.size<w1.heap.size:=by have:=hb1.size;simp at this;omega
 go_wp2_with fail
 refine (jbp g so n cap 9 3 w1 (by omega) hnc hn1 (by omega) (by omega) (by decide) (by omega) ((hB1.cell (p:=⟨g,so,none⟩) hg).trans c0) ((hB1.cell (p:=⟨g,so+1,none⟩) hg).trans c1)).mono ?_
 rintro e w2 ⟨rfl,hb2⟩
 have hB2:Below w.heap.size w w2:=hB1.trans (hb2.mono (by omega))
 have hs2:w.heap.size<w2.heap.size:=by have:=hb2.size;omega
 have hR:∀ j,w2.cell? ⟨w.heap.size,j,none⟩=(#[.int .u8 0,.int .u8 0,.int .u8 0,.int .u8 0,.int .u8 0,.int .u8 0,.int .u8 0,.int .u8 0,.int .u8 0,.int .u8 0,.int .u64 0,.int .u64 0,.int .u64 0]:Array Value)[j]?:=fun j=>(hb2.cell (p:=⟨w.heap.size,j,none⟩) hs1).trans ((hb1.cell (p:=⟨w.heap.size,j,none⟩) (by simp)).trans (jam w _ _ j))
 have hRf:∀ j,w2.frozen? ⟨w.heap.size,j,none⟩=false:=fun j=>(hb2.frozen (p:=⟨w.heap.size,j,none⟩) hs1).trans ((hb1.frozen (p:=⟨w.heap.size,j,none⟩) (by simp)).trans (by simp))
 clear hb1 hb2
 go_wp2_with fail
 refine (jcn _ _ _ _).mono ?_
 rintro e wf ⟨rfl,rfl⟩
 go_wp2_with fail
 have hg2:g<w2.heap.size:=by omega
 refine (jb2 w2.heap.size g (so+1) 9 3 _ (by simp) (by simp) (by omega) (by omega) (by rw [World.cell?_alloc_lt _ _ ⟨g,so+1,none⟩ hg2];exact (hB2.cell (p:=⟨g,so+1,none⟩) hg).trans c1)).mono ?_
 rintro e w3 ⟨rfl,rfl⟩
 go_wp2_with fail
 refine (jf9 w2.heap.size g (so+2) k0 k1 k2 k3 k4 k5 k6 k7 _ (by simp;omega) (by simp;omega) (by simp) (by simp)
   (by rw [ja9 _ _ _ hg2];exact (hB2.cell (p:=⟨g,so+2,none⟩) hg).trans h0)
   (by rw [ja9 _ _ _ hg2];exact (hB2.cell (p:=⟨g,so+3,none⟩) hg).trans h1)
   (by rw [ja9 _ _ _ hg2];exact (hB2.cell (p:=⟨g,so+4,none⟩) hg).trans h2)
   (by rw [ja9 _ _ _ hg2];exact (hB2.cell (p:=⟨g,so+5,none⟩) hg).trans h3)
   (by rw [ja9 _ _ _ hg2];exact (hB2.cell (p:=⟨g,so+6,none⟩) hg).trans h4)
   (by rw [ja9 _ _ _ hg2];exact (hB2.cell (p:=⟨g,so+7,none⟩) hg).trans h5)
   (by rw [ja9 _ _ _ hg2];exact (hB2.cell (p:=⟨g,so+8,none⟩) hg).trans h6)
   (by rw [ja9 _ _ _ hg2];exact (hB2.cell (p:=⟨g,so+9,none⟩) hg).trans h7)).mono ?_
 rintro e w5 ⟨rfl,v,hb5⟩
 have S5:=St.of_key hB2 hg hs2 hR hRf hb5
 clear hb5 hR hRf h0 h1 h2 h3 h4 h5 h6 h7 c0 c1 hB1 hB2
 have hrS5:=S5.r
 have hrfS5:=S5.rf
 have hRS5:=S5.R
 have hRfS5:=S5.Rf
 have hne:¬w.heap.size=w2.heap.size+1:=by omega
 have hne':¬w2.heap.size+1=w.heap.size:=by omega
 go_wp2
 refine bodyPost_ret (v:=.tuple #[.agg #[.int .u8 3,.int .u8 k0,.int .u8 k1,.int .u8 k2,.int .u8 k3,.int .u8 k4,.int .u8 k5,.int .u8 k6,.int .u8 k7,.int .u8 0,.int .u64 0,.int .u64 0,.int .u64 0],.int .i64 10,.nilIface]) (by simp [results,Tryz.results72,go_sem,hRS5]) rfl ⟨rfl,?_⟩
 repeat (refine Below.setCell ?_ (by first | exact Nat.le_refl _ | (show _≤w2.heap.size+1;omega) | (show _≤w2.heap.size;omega)) _)
 exact S5.B
theorem rreq4 (g so n cap:Nat)(k0 k1 k2 k3 k4 k5 k6 k7:Int)(w:World)(hn:10≤n)(hnc:n≤cap)(hn1:n≤1048576)(hg:g<w.heap.size)(c0:w.cell? ⟨g,so,none⟩=some (.int .u8 9))(c1:w.cell? ⟨g,so+1,none⟩=some (.int .u8 4))(h0:w.cell? ⟨g,so+2,none⟩=some (.int .u8 k0))(h1:w.cell? ⟨g,so+3,none⟩=some (.int .u8 k1))(h2:w.cell? ⟨g,so+4,none⟩=some (.int .u8 k2))(h3:w.cell? ⟨g,so+5,none⟩=some (.int .u8 k3))(h4:w.cell? ⟨g,so+6,none⟩=some (.int .u8 k4))(h5:w.cell? ⟨g,so+7,none⟩=some (.int .u8 k5))(h6:w.cell? ⟨g,so+8,none⟩=some (.int .u8 k6))(h7:w.cell? ⟨g,so+9,none⟩=some (.int .u8 k7)) :
  Calls Tryz.prog 72 #[.slice (some ⟨g,so,none⟩) n cap] w fun e w'=>e=.returned (.tuple #[.agg #[.int .u8 4,.int .u8 k0,.int .u8 k1,.int .u8 k2,.int .u8 k3,.int .u8 k4,.int .u8 k5,.int .u8 k6,.int .u8 k7,.int .u8 0,.int .u64 0,.int .u64 0,.int .u64 0],.int .i64 10,.nilIface])∧Below w.heap.size w w':=by
 go_enter Tryz.func72,Tryz.ntmps72
 go_wp2_with fail
 refine (jav _).mono ?_
 rintro e w1 ⟨rfl,hb1⟩
 have hB1:Below w.heap.size w w1:=((Below.refl _ w).alloc (Nat.le_refl _) _).trans (hb1.mono (by simp))
 have hs1:w.heap.size<w1.heap.size:=by have:=hb1.size;simp at this;omega
 go_wp2_with fail
 refine (jbp g so n cap 9 4 w1 (by omega) hnc hn1 (by omega) (by omega) (by decide) (by omega) ((hB1.cell (p:=⟨g,so,none⟩) hg).trans c0) ((hB1.cell (p:=⟨g,so+1,none⟩) hg).trans c1)).mono ?_
 rintro e w2 ⟨rfl,hb2⟩
 have hB2:Below w.heap.size w w2:=hB1.trans (hb2.mono (by omega))
 have hs2:w.heap.size<w2.heap.size:=by have:=hb2.size;omega
 have hR:∀ j,w2.cell? ⟨w.heap.size,j,none⟩=(#[.int .u8 0,.int .u8 0,.int .u8 0,.int .u8 0,.int .u8 0,.int .u8 0,.int .u8 0,.int .u8 0,.int .u8 0,.int .u8 0,.int .u64 0,.int .u64 0,.int .u64 0]:Array Value)[j]?:=fun j=>(hb2.cell (p:=⟨w.heap.size,j,none⟩) hs1).trans ((hb1.cell (p:=⟨w.heap.size,j,none⟩) (by simp)).trans (jam w _ _ j))
 have hRf:∀ j,w2.frozen? ⟨w.heap.size,j,none⟩=false:=fun j=>(hb2.frozen (p:=⟨w.heap.size,j,none⟩) hs1).trans ((hb1.frozen (p:=⟨w.heap.size,j,none⟩) (by simp)).trans (by simp))
 clear hb1 hb2
 go_wp2_with fail
 refine (jcn _ _ _ _).mono ?_
 rintro e wf ⟨rfl,rfl⟩
 go_wp2_with fail
 have hg2:g<w2.heap.size:=by omega
 refine (jb2 w2.heap.size g (so+1) 9 4 _ (by simp) (by simp) (by omega) (by omega) (by rw [World.cell?_alloc_lt _ _ ⟨g,so+1,none⟩ hg2];exact (hB2.cell (p:=⟨g,so+1,none⟩) hg).trans c1)).mono ?_
 rintro e w3 ⟨rfl,rfl⟩
 go_wp2_with fail
 refine (jf9 w2.heap.size g (so+2) k0 k1 k2 k3 k4 k5 k6 k7 _ (by simp;omega) (by simp;omega) (by simp) (by simp)
   (by rw [ja9 _ _ _ hg2];exact (hB2.cell (p:=⟨g,so+2,none⟩) hg).trans h0)
   (by rw [ja9 _ _ _ hg2];exact (hB2.cell (p:=⟨g,so+3,none⟩) hg).trans h1)
   (by rw [ja9 _ _ _ hg2];exact (hB2.cell (p:=⟨g,so+4,none⟩) hg).trans h2)
   (by rw [ja9 _ _ _ hg2];exact (hB2.cell (p:=⟨g,so+5,none⟩) hg).trans h3)
   (by rw [ja9 _ _ _ hg2];exact (hB2.cell (p:=⟨g,so+6,none⟩) hg).trans h4)
   (by rw [ja9 _ _ _ hg2];exact (hB2.cell (p:=⟨g,so+7,none⟩) hg).trans h5)
   (by rw [ja9 _ _ _ hg2];exact (hB2.cell (p:=⟨g,so+8,none⟩) hg).trans h6)
   (by rw [ja9 _ _ _ hg2];exact (hB2.cell (p:=⟨g,so+9,none⟩) hg).trans h7)).mono ?_
 rintro e w5 ⟨rfl,v,hb5⟩
 have S5:=St.of_key hB2 hg hs2 hR hRf hb5
 clear hb5 hR hRf h0 h1 h2 h3 h4 h5 h6 h7 c0 c1 hB1 hB2
 have hrS5:=S5.r
 have hrfS5:=S5.rf
 have hRS5:=S5.R
 have hRfS5:=S5.Rf
 have hne:¬w.heap.size=w2.heap.size+1:=by omega
 have hne':¬w2.heap.size+1=w.heap.size:=by omega
 go_wp2
 refine bodyPost_ret (v:=.tuple #[.agg #[.int .u8 4,.int .u8 k0,.int .u8 k1,.int .u8 k2,.int .u8 k3,.int .u8 k4,.int .u8 k5,.int .u8 k6,.int .u8 k7,.int .u8 0,.int .u64 0,.int .u64 0,.int .u64 0],.int .i64 10,.nilIface]) (by simp [results,Tryz.results72,go_sem,hRS5]) rfl ⟨rfl,?_⟩
 repeat (refine Below.setCell ?_ (by first | exact Nat.le_refl _ | (show _≤w2.heap.size+1;omega) | (show _≤w2.heap.size;omega)) _)
 exact S5.B
theorem rreq5 (g so n cap:Nat)(w:World)(hn:2≤n)(hnc:n≤cap)(hn1:n≤1048576)(hg:g<w.heap.size)(c0:w.cell? ⟨g,so,none⟩=some (.int .u8 1))(c1:w.cell? ⟨g,so+1,none⟩=some (.int .u8 5)) :
  Calls Tryz.prog 72 #[.slice (some ⟨g,so,none⟩) n cap] w fun e w'=>e=.returned (.tuple #[.agg #[.int .u8 5,.int .u8 0,.int .u8 0,.int .u8 0,.int .u8 0,.int .u8 0,.int .u8 0,.int .u8 0,.int .u8 0,.int .u8 0,.int .u64 0,.int .u64 0,.int .u64 0],.int .i64 2,.nilIface])∧Below w.heap.size w w':=by
 go_enter Tryz.func72,Tryz.ntmps72
 go_wp2_with fail
 refine (jav _).mono ?_
 rintro e w1 ⟨rfl,hb1⟩
 have hB1:Below w.heap.size w w1:=((Below.refl _ w).alloc (Nat.le_refl _) _).trans (hb1.mono (by simp))
 have hs1:w.heap.size<w1.heap.size:=by have:=hb1.size;simp at this;omega
 go_wp2_with fail
 refine (jbp g so n cap 1 5 w1 (by omega) hnc hn1 (by omega) (by omega) (by decide) (by omega) ((hB1.cell (p:=⟨g,so,none⟩) hg).trans c0) ((hB1.cell (p:=⟨g,so+1,none⟩) hg).trans c1)).mono ?_
 rintro e w2 ⟨rfl,hb2⟩
 have hB2:Below w.heap.size w w2:=hB1.trans (hb2.mono (by omega))
 have hs2:w.heap.size<w2.heap.size:=by have:=hb2.size;omega
 have hR:∀ j,w2.cell? ⟨w.heap.size,j,none⟩=(#[.int .u8 0,.int .u8 0,.int .u8 0,.int .u8 0,.int .u8 0,.int .u8 0,.int .u8 0,.int .u8 0,.int .u8 0,.int .u8 0,.int .u64 0,.int .u64 0,.int .u64 0]:Array Value)[j]?:=fun j=>(hb2.cell (p:=⟨w.heap.size,j,none⟩) hs1).trans ((hb1.cell (p:=⟨w.heap.size,j,none⟩) (by simp)).trans (jam w _ _ j))
 have hRf:∀ j,w2.frozen? ⟨w.heap.size,j,none⟩=false:=fun j=>(hb2.frozen (p:=⟨w.heap.size,j,none⟩) hs1).trans ((hb1.frozen (p:=⟨w.heap.size,j,none⟩) (by simp)).trans (by simp))
 clear hb1 hb2
 go_wp2_with fail
 refine (jcn _ _ _ _).mono ?_
 rintro e wf ⟨rfl,rfl⟩
 go_wp2_with fail
 have hg2:g<w2.heap.size:=by omega
 refine (jcK w2.heap.size g (so+1) 5 _ (by simp) (by simp) (by rw [World.cell?_alloc_lt _ _ ⟨g,so+1,none⟩ hg2];exact (hB2.cell (p:=⟨g,so+1,none⟩) hg).trans c1)).mono ?_
 rintro e w3 ⟨rfl,v,rfl⟩
 clear c0 c1 hB1
 have hne:¬w.heap.size=w2.heap.size :=by omega
 have hne':¬w2.heap.size =w.heap.size:=by omega
 go_wp2
 have hs2':w.heap.size<w2.heap.size+1:=by omega
 refine bodyPost_ret (v:=.tuple #[.agg #[.int .u8 5,.int .u8 0,.int .u8 0,.int .u8 0,.int .u8 0,.int .u8 0,.int .u8 0,.int .u8 0,.int .u8 0,.int .u8 0,.int .u64 0,.int .u64 0,.int .u64 0],.int .i64 2,.nilIface]) (by simp [results,Tryz.results72,go_sem,hR,hs2,hs2']) rfl ⟨rfl,?_⟩
 refine Below.alloc ?_ (by simp;omega) _
 refine Below.alloc ?_ (by simp;omega) _
 repeat (refine Below.setCell ?_ (by first | exact Nat.le_refl _ | (show _≤w2.heap.size;omega)) _)
 exact hB2
theorem rreq6 (g so n cap:Nat)(w:World)(hn:2≤n)(hnc:n≤cap)(hn1:n≤1048576)(hg:g<w.heap.size)(c0:w.cell? ⟨g,so,none⟩=some (.int .u8 1))(c1:w.cell? ⟨g,so+1,none⟩=some (.int .u8 6)) :
  Calls Tryz.prog 72 #[.slice (some ⟨g,so,none⟩) n cap] w fun e w'=>e=.returned (.tuple #[.agg #[.int .u8 6,.int .u8 0,.int .u8 0,.int .u8 0,.int .u8 0,.int .u8 0,.int .u8 0,.int .u8 0,.int .u8 0,.int .u8 0,.int .u64 0,.int .u64 0,.int .u64 0],.int .i64 2,.nilIface])∧Below w.heap.size w w':=by
 go_enter Tryz.func72,Tryz.ntmps72
 go_wp2_with fail
 refine (jav _).mono ?_
 rintro e w1 ⟨rfl,hb1⟩
 have hB1:Below w.heap.size w w1:=((Below.refl _ w).alloc (Nat.le_refl _) _).trans (hb1.mono (by simp))
 have hs1:w.heap.size<w1.heap.size:=by have:=hb1.size;simp at this;omega
 go_wp2_with fail
 refine (jbp g so n cap 1 6 w1 (by omega) hnc hn1 (by omega) (by omega) (by decide) (by omega) ((hB1.cell (p:=⟨g,so,none⟩) hg).trans c0) ((hB1.cell (p:=⟨g,so+1,none⟩) hg).trans c1)).mono ?_
 rintro e w2 ⟨rfl,hb2⟩
 have hB2:Below w.heap.size w w2:=hB1.trans (hb2.mono (by omega))
 have hs2:w.heap.size<w2.heap.size:=by have:=hb2.size;omega
 have hR:∀ j,w2.cell? ⟨w.heap.size,j,none⟩=(#[.int .u8 0,.int .u8 0,.int .u8 0,.int .u8 0,.int .u8 0,.int .u8 0,.int .u8 0,.int .u8 0,.int .u8 0,.int .u8 0,.int .u64 0,.int .u64 0,.int .u64 0]:Array Value)[j]?:=fun j=>(hb2.cell (p:=⟨w.heap.size,j,none⟩) hs1).trans ((hb1.cell (p:=⟨w.heap.size,j,none⟩) (by simp)).trans (jam w _ _ j))
 have hRf:∀ j,w2.frozen? ⟨w.heap.size,j,none⟩=false:=fun j=>(hb2.frozen (p:=⟨w.heap.size,j,none⟩) hs1).trans ((hb1.frozen (p:=⟨w.heap.size,j,none⟩) (by simp)).trans (by simp))
 clear hb1 hb2
 go_wp2_with fail
 refine (jcn _ _ _ _).mono ?_
 rintro e wf ⟨rfl,rfl⟩
 go_wp2_with fail
 have hg2:g<w2.heap.size:=by omega
 refine (jcK w2.heap.size g (so+1) 6 _ (by simp) (by simp) (by rw [World.cell?_alloc_lt _ _ ⟨g,so+1,none⟩ hg2];exact (hB2.cell (p:=⟨g,so+1,none⟩) hg).trans c1)).mono ?_
 rintro e w3 ⟨rfl,v,rfl⟩
 clear c0 c1 hB1
 have hne:¬w.heap.size=w2.heap.size :=by omega
 have hne':¬w2.heap.size =w.heap.size:=by omega
 go_wp2
 have hs2':w.heap.size<w2.heap.size+1:=by omega
 refine bodyPost_ret (v:=.tuple #[.agg #[.int .u8 6,.int .u8 0,.int .u8 0,.int .u8 0,.int .u8 0,.int .u8 0,.int .u8 0,.int .u8 0,.int .u8 0,.int .u8 0,.int .u64 0,.int .u64 0,.int .u64 0],.int .i64 2,.nilIface]) (by simp [results,Tryz.results72,go_sem,hR,hs2,hs2']) rfl ⟨rfl,?_⟩
 refine Below.alloc ?_ (by simp;omega) _
 refine Below.alloc ?_ (by simp;omega) _
 repeat (refine Below.setCell ?_ (by first | exact Nat.le_refl _ | (show _≤w2.heap.size;omega)) _)
 exact hB2
theorem jdf (w:World):Calls Tryz.prog 35 #[.nilIface] w fun e w'=>e=.returned (.int .i64 0)∧Below w.heap.size w w':=by
 go_enter Tryz.func35,Tryz.ntmps35
 go_wp2
 go_ret
 exact⟨rfl,(Below.refl _ w).alloc (Nat.le_refl _) _⟩
theorem jiC (n:Int)(w:World)(hg:w.cell? ⟨0,0,none⟩=some (.iface 236 (.agg #[.pointer (some ⟨5,97,none⟩)]))) :
  Calls Tryz.prog 35 #[.iface 53 (.int .i64 n)] w fun e w'=>e=.returned (.int .i64 n)∧Below w.heap.size w w':=by
 have hlt:0<w.heap.size:=by
  rcases Nat.eq_zero_or_pos w.heap.size with h0 | h
  ·simp [World.cell?,h0] at hg
  ·exact h
 have hgA:(w.alloc (.cells #[.int .i64 0] 53)).cell? ⟨0,0,none⟩=some (.iface 236 (.agg #[.pointer (some ⟨5,97,none⟩)])):=by
  rw [World.cell?_alloc_lt _ _ ⟨0,0,none⟩ hlt];exact hg
 have htA:(w.alloc (.cells #[.int .i64 0] 53)).cell? ⟨w.heap.size,0,none⟩=some (.int .i64 0):=by simp
 have hfA:(w.alloc (.cells #[.int .i64 0] 53)).frozen? ⟨w.heap.size,0,none⟩=false:=by simp
 go_enter Tryz.func35,Tryz.ntmps35
 go_wp2_with (first | (go_at_call 51;refine (jl0 _ _ (.int .i64 0) _ hgA htA hfA).mono ?_;rintro e w' ⟨rfl,rfl⟩) | (go_at_call 52;refine (jdm _ _).mono ?_;rintro e w' ⟨rfl,rfl⟩))
 go_ret
 exact⟨rfl,(((((Below.refl _ w).alloc (Nat.le_refl _) _).alloc (by simp) _).alloc (by simp;omega) _).alloc (by simp;omega) _).alloc (by simp;omega) _⟩
def qby (q:Qt):List Int:=[q.kd] ++ be8 q.x ++ be8 q.y ++ be8 q.lv ++ be8 q.wn
theorem jbQ (q:Qt):(qby q).length=33:=by simp [qby,be8]
structure Qt.fit (q:Qt):Prop where
 kd:0≤q.kd∧q.kd≤255
 x:0≤q.x∧q.x≤18446744073709551615
 y:0≤q.y∧q.y≤18446744073709551615
 lv:0≤q.lv∧q.lv≤18446744073709551615
 wn:0≤q.wn∧q.wn≤18446744073709551615
theorem qapp (base n:Nat)(xs:List Int)(b:Value)(q:Qt)(w:World)(hn:xs.length=n)(hown:w.ownsRow base 5 1 b n (xs.map (Value.int .u8)))(hroom:n+33≤4000000)(hbase:base≤w.heap.size)(hq:q.fit) :
  Calls Tryz.prog 194 #[.agg #[.int .u8 q.kd,.int .u64 q.x,.int .u64 q.y,.int .u64 q.lv,.int .u64 q.wn],b] w fun e w'=>∃ b',e=.returned b'∧w'.ownsRow base 5 1 b' (n+33) ((xs ++ qby q).map (Value.int .u8))∧Grw w w' b b':=by
 have hbl:∀ g,b.ownBlock=some g→g<w.heap.size:=fun g e=>(ja5 hown e).2
 obtain⟨V,hV⟩:∃ V,V=w.alloc (.cells #[.int .u8 q.kd,.int .u64 q.x,.int .u64 q.y,.int .u64 q.lv,.int .u64 q.wn] 173):=⟨_,rfl⟩
 have hsV:V.heap.size=w.heap.size+1:=by rw [hV];simp
 have hP0:V.heap[w.heap.size]?=some (.cells #[.int .u8 q.kd,.int .u64 q.x,.int .u64 q.y,.int .u64 q.lv,.int .u64 q.wn] 173):=hV▸ja1 _ _
 have HGV:Hid (Grw w V b b):=hide (by rw [hV];exact (Grw.refl w b).alloc _)
 have HO:Hid (V.ownsRow base 5 1 b n (xs.map (Value.int .u8))):=hide (by rw [hV];exact hown.alloc _)
 obtain⟨P,hP⟩:∃ P,P=w.heap.size:=⟨_,rfl⟩
 have HPb:b.ownBlock≠some P:=fun e=>by have:=hbl P e;omega
 rw [←hP] at hP0
 have HNN:=hide hn
 have HPP:=hide hP
 have HSV:=hide hsV
 have HXX:=hide hq
 have c0:=cellB hP0
 clear hown hbl hn hP hsV hq
 go_enter Tryz.func194,Tryz.ntmps194
 go_wp2_with fail
 rw [←hV,←HPP.out]
 clear hV
 go_wp2_with fail
 refine (polG base n xs b q.kd q.x q.y V HNN.out HO.out (by omega) (by have:=HSV.out;omega) HXX.out.x.1 HXX.out.x.2 HXX.out.y.1 HXX.out.y.2).mono ?_
 rintro e w1 ⟨b1,rfl,o1,G1⟩
 have hP1:=G1.block hP0 HPb
 have n1:=G1.ne (ltB hP0) HPb
 have c1:=cellB hP1
 have hs1:=G1.g.size
 have HO1:=hide o1
 have HG1:=hide G1
 clear o1 G1 c0
 go_wp2_with fail
 refine (numG base (n+17) _ b1 q.lv w1 (by have:=HNN.out;simp [be8];omega) HO1.out (by omega) (by have:=HSV.out;omega) HXX.out.lv.1 HXX.out.lv.2).mono ?_
 rintro e w2 ⟨b2,rfl,o2,G2⟩
 have hP2:=G2.block hP1 n1
 have c2:=cellB hP2
 have hs2:=G2.g.size
 have HO2:=hide o2
 have HG2:=hide G2
 clear o2 G2 c1
 go_wp2_with fail
 refine (numG base (n+17+8) _ b2 q.wn w2 (by have:=HNN.out;simp [be8];omega) HO2.out (by omega) (by have:=HSV.out;omega) HXX.out.wn.1 HXX.out.wn.2).mono ?_
 rintro e w3 ⟨b3,rfl,o3,G3⟩
 have HO3:=hide o3
 have HG3:=hide G3
 clear o3 G3 c2
 go_wp2
 go_ret
 exact⟨b3,rfl,by have:=HO3.out;simpa [qby,Nat.add_assoc,List.append_assoc] using this,((HGV.out.trans HG1.out).trans HG2.out).trans HG3.out⟩
def kby (k:Ky):List Int:=[k.k0,k.k1,k.k2,k.k3,k.k4,k.k5,k.k6,k.k7]
theorem jj8 {w:World}{base n cap g:Nat}{x y:Int}{xs:List Int}(h:w.ownsRow base 5 1 (.slice (some ⟨g,0,none⟩) n cap) n ((x :: xs).map (Value.int .u8))):(w.setCell ⟨g,0,none⟩ (.int .u8 y)).ownsRow base 5 1 (.slice (some ⟨g,0,none⟩) n cap) n ((y :: xs).map (Value.int .u8)):=by
 obtain⟨h1,h2⟩:=h
 refine⟨by simpa using h1,?_⟩
 rcases h2 with ⟨h2,_⟩ | ⟨g',cap',cur,hv,hg,hh,r⟩
 ·simp at h2
 ·simp at hv
  obtain⟨e1,e2⟩:=hv
  subst e1 e2
  refine Or.inr ⟨g,cap,cur.setIfInBounds 0 (.int .u8 y),rfl,hg,ja4 hh 0 _,?_⟩
  obtain⟨r1,r2,r3,r4⟩:=r
  refine⟨r1,r2,by simpa using r3,?_⟩
  have hn:n=xs.length+1:=by simpa using h1.symm
  subst hn
  rw [Array.toList_setIfInBounds]
  cases hc:cur.toList with
  | nil=>rw [hc] at r4;simp at r4
  | cons c rest=>
   rw [hc] at r4
   simp at r4 ⊢
   exact r4.2
theorem jk8 (bb base n:Nat)(x0:Int)(xs:List Int)(b:Value)(k:Ky)(q:Qt)(w:World)(hn:xs.length=n)(hbox:w.heap[bb]?=some (.cells #[b] 76))(hown:w.ownsRow base 5 1 b (n+1) ((x0 :: xs).map (Value.int .u8)))(hx:0≤x0∧x0<255)(hroom:n+50≤4000000)(hbase:base≤w.heap.size)(hq:q.fit) :
  Calls Tryz.prog 193 #[.agg #[.int .u8 k.k0,.int .u8 k.k1,.int .u8 k.k2,.int .u8 k.k3,.int .u8 k.k4,.int .u8 k.k5,.int .u8 k.k6,.int .u8 k.k7,.int .u8 q.kd,.int .u64 q.x,.int .u64 q.y,.int .u64 q.lv,.int .u64 q.wn],.pointer (some ⟨bb,0,none⟩)] w fun e w'=>e=.returned (.tuple #[])∧∃ b',w'.heap[bb]?=some (.cells #[b'] 76)∧w'.ownsRow base 5 1 b' (n+42) (((x0+1) :: (xs ++ kby k ++ qby q)).map (Value.int .u8))∧Keep (fun c=>c=bb∨b.ownBlock=some c) w w'∧(b'.ownBlock=b.ownBlock∨∃ g,b'.ownBlock=some g∧w.heap.size≤g):=by
 obtain⟨i0,hi,hz0,hz1,hz2⟩:=info_parts Tryz.info5
 obtain⟨g,cap,hb⟩:∃ g cap,b=.slice (some ⟨g,0,none⟩) (n+1) cap:=by
  rcases hown.2 with ⟨_,h⟩ | ⟨g,cap,_,h,_⟩
  ·omega
  ·exact⟨g,cap,h⟩
 subst hb
 have hgb:g≠bb:=jab hown rfl hbox (by decide)
 have hbl:g<w.heap.size:=(ja5 hown (g:=g) rfl).2
 have hbg:base≤g:=(ja5 hown (g:=g) rfl).1
 obtain⟨V,hV⟩:∃ V,V=w.alloc (.cells #[.int .u8 k.k0,.int .u8 k.k1,.int .u8 k.k2,.int .u8 k.k3,.int .u8 k.k4,.int .u8 k.k5,.int .u8 k.k6,.int .u8 k.k7,.int .u8 q.kd,.int .u64 q.x,.int .u64 q.y,.int .u64 q.lv,.int .u64 q.wn] 175):=⟨_,rfl⟩
 have hsV:V.heap.size=w.heap.size+1:=by rw [hV];simp
 have hR0:V.heap[w.heap.size]?=some (.cells #[.int .u8 k.k0,.int .u8 k.k1,.int .u8 k.k2,.int .u8 k.k3,.int .u8 k.k4,.int .u8 k.k5,.int .u8 k.k6,.int .u8 k.k7,.int .u8 q.kd,.int .u64 q.x,.int .u64 q.y,.int .u64 q.lv,.int .u64 q.wn] 175):=hV▸ja1 _ _
 have hbV:V.heap[bb]?=some (.cells #[.slice (some ⟨g,0,none⟩) (n+1) cap] 76):=hV▸upB hbox _
 have hoV:V.ownsRow base 5 1 (.slice (some ⟨g,0,none⟩) (n+1) cap) (n+1) ((x0 :: xs).map (Value.int .u8)):=hV▸hown.alloc _
 obtain⟨R,hR⟩:∃ R,R=w.heap.size:=⟨_,rfl⟩
 have hgR:g≠R:=by omega
 have hbR:bb≠R:=by have:=ltB hbox;omega
 rw [←hR] at hR0
 obtain⟨cur,hg0,hcur⟩:∃ cur,V.heap[g]?=some (.cells cur 5 (0,0))∧cur[0]?=some (.int .u8 x0):=by
  rcases hoV.2 with ⟨h,_⟩ | ⟨g',cap',cur,h,_,hh,_,_,hcs,ht⟩
  ·simp at h
  ·simp at h
   obtain⟨e1,e2⟩:=h
   subst e1 e2
   refine⟨cur,hh,?_⟩
   have:=congrArg (fun l=>l[0]?) ht
   simpa [List.getElem?_take] using this
 have hKV:Keep (fun c=>c=bb∨(Value.slice (some ⟨g,0,none⟩) (n+1) cap).ownBlock=some c) w V:=hV▸(Keep.refl _ w).alloc _
 have a0:=cellB hbV 0
 have a1:V.cell? ⟨g,0,none⟩=some (.int .u8 x0):=(cellB hg0 0).trans hcur
 have a2:=ja2 hg0 0
 have e1:IntKind.u8.wrap (x0+1)=x0+1:=by rw [IntKind.wrap_u8];omega
 have hn1:(0:Int)<((n+1:Nat):Int):=by omega
 obtain⟨V1,hV1⟩:∃ V1,V1=V.setCell ⟨g,0,none⟩ (.int .u8 (x0+1)):=⟨_,rfl⟩
 have hR1:V1.heap[R]?=_:=hV1▸(ja0 (fun e=>hgR e.symm) _ _).trans hR0
 have hb1:V1.heap[bb]?=_:=hV1▸(ja0 (fun e=>hgb e.symm) _ _).trans hbV
 have ho1:V1.ownsRow base 5 1 (.slice (some ⟨g,0,none⟩) (n+1) cap) (n+1) (((x0+1) :: xs).map (Value.int .u8)):=hV1▸jj8 hoV
 have hK1:Keep (fun c=>c=bb∨(Value.slice (some ⟨g,0,none⟩) (n+1) cap).ownBlock=some c) w V1:=hV1▸hKV.set (Or.inl (Or.inr rfl)) _ _
 have hs1:V1.heap.size=w.heap.size+1:=by rw [hV1,World.size_setCell];exact hsV
 have HNN:=hide hn
 have HR:=hide hR
 have HK1:=hide hK1
 have HO1:=hide ho1
 have HS1:=hide hs1
 have HQ:=hide hq
 have HBL:=hide hbl
 have HBS:=hide hbase
 clear hown hbox hn hR hKV hK1 ho1 hs1 hsV hoV hcur hq hbl hbase hbg
 go_enter Tryz.func193,Tryz.ntmps193
 go_upto_region 1 with fail
 rw [←hV,←HR.out]
 clear hV
 go_upto_region 2 with fail
 rw [←hV1]
 clear hV1 a0 a1 a2
 have c0:=cellB hb1 0
 have cR:∀ j u,((kby k).map (Value.int .u8))[j]?=some u→V1.drew.cell? ((⟨R,0,none⟩:Addr).add j)=some u:=by
  intro j u hj
  rw [Addr.add_lit,Nat.zero_add]
  show V1.cell? ⟨R,j,none⟩=_
  rw [cellB hR1]
  match j,hj with
  | 0,hj=>exact hj
  | 1,hj=>exact hj
  | 2,hj=>exact hj
  | 3,hj=>exact hj
  | 4,hj=>exact hj
  | 5,hj=>exact hj
  | 6,hj=>exact hj
  | 7,hj=>exact hj
  | j+8,hj=>simp [kby] at hj
 have HCR:=hide cR
 have HB1:=hide hb1
 have HR1:=hide hR1
 clear cR
 go_region_law (refine jah (by rfl) _ _ 76 5 i0 (.int .u8 0) 1 1 Tryz.underlying76 hi hz0 hz1 hz2 rfl (by decide) (by rfl) base (.slice (some ⟨g,0,none⟩) (n+1) cap) (n+1) _ (by rfl) HO1.out ⟨R,0,none⟩ 8 8 ((kby k).map (Value.int .u8)) (by rfl) (by rfl) HCR.out (ints_oneCell _ _) (by omega) (by omega) (by have:=HBS.out;have:=HS1.out;show base≤V1.heap.size;omega) ?_;intro b2 w2 hown2 hgrow2 hat2;obtain⟨a2,c2,e2⟩:=ja8 hown2;subst e2;have hG2:Grw V1.drew w2 _ (.slice a2 (n+1+8) c2):=Grw.one hgrow2 hat2;have hb2:=hG2.block (b:=bb) HB1.out (by intro e;injection e with e;exact hgb e);have hR2:=hG2.block (b:=R) HR1.out (by intro e;injection e with e;exact hgR e);have d0:=cellB hb2 0;have d1:=ja2 hb2 0;have HO2:=hide hown2;have HG2:=hide hG2;clear hown2 hgrow2 hat2 hG2)
 all_goals go_upto_region 3 with fail
 all_goals (
   obtain⟨W2,hW2⟩:∃ W2,W2=w2.setCell ⟨bb,0,none⟩ (.slice a2 (n+1+8) c2):=⟨_,rfl⟩
   have hb3:W2.heap[bb]?=some (.cells #[.slice a2 (n+1+8) c2] 76):=by rw [hW2];simpa using ja4 hb2 0 (.slice a2 (n+1+8) c2)
   have hR3:W2.heap[R]?=_:=hW2▸(ja0 (fun e=>hbR e.symm) _ _).trans hR2
   have nb2:(Value.slice a2 (n+1+8) c2).ownBlock≠some bb:=HG2.out.ne (b:=bb) (ltB HB1.out) (by intro e;injection e with e;exact hgb e)
   have hO3:W2.ownsRow base 5 1 (.slice a2 (n+1+8) c2) (n+1+8) ((((x0+1) :: xs) ++ kby k).map (Value.int .u8)):=by rw [hW2,List.map_append];exact ownsRow_setCell_other HO2.out nb2 _
   have hK3:Keep (fun c=>c=bb∨(Value.slice (some ⟨g,0,none⟩) (n+1) cap).ownBlock=some c) w W2:=by
     rw [hW2]
     refine Keep.set ?_ (Or.inl (Or.inl rfl)) _ _
     exact HK1.out.then (T:=fun c=>(Value.slice (some ⟨g,0,none⟩) (n+1) cap).ownBlock=some c) ⟨HG2.out.g.os,HG2.out.g.tape,HG2.out.g.output,HG2.out.g.size,fun i hi hn=>HG2.out.g.block i hi (fun e=>hn e.symm)⟩ (fun i _ h=>Or.inr h)
   have hs3:w.heap.size+1≤W2.heap.size:=by rw [hW2,World.size_setCell];have:=HG2.out.g.size;have h1:=HS1.out;have h2:V1.heap.size≤w2.heap.size:=this;omega
   rw [←hW2]
   have HO3:=hide hO3
   have HK3:=hide hK3
   have HS3:=hide hs3
   have HB3:=hide hb3
   have f3:=cellB hR3
   have f4:=cellB hb3
   clear hW2 hO3 hK3 hs3 d0 d1 c0
   go_wp2_with fail
   refine (qapp base (n+1+8) _ (.slice a2 (n+1+8) c2) q W2 (by have:=HNN.out;simp [kby];omega) HO3.out (by omega) (by have:=HBS.out;have:=HS3.out;omega) HQ.out).mono ?_
   rintro e w4 ⟨b4,rfl,o4,G4⟩
   obtain⟨a4,c4,e4⟩:=ja8 o4
   subst e4
   have hb4:=G4.block HB3.out nb2
   have n4:=G4.ne (ltB HB3.out) nb2
   have g1:=cellB hb4
   have g2:=ja2 hb4
   have HO4:=hide o4
   have HG4:=hide G4
   clear o4 G4 f3 f4
   go_wp2
   go_end0
   refine⟨rfl,_,by simpa using ja4 hb4 0 (.slice a4 (n+1+8+33) c4),?_,?_,?_⟩
   · have:=ownsRow_setCell_other HO4.out (a:=⟨bb,0,none⟩) n4 (.slice a4 (n+1+8+33) c4)
     simpa [Nat.add_assoc,List.append_assoc] using this
   · refine Keep.set ?_ (Or.inl (Or.inl rfl)) _ _
     refine HK3.out.then (T:=fun c=>(Value.slice a2 (n+1+8) c2).ownBlock=some c) ⟨HG4.out.g.os,HG4.out.g.tape,HG4.out.g.output,HG4.out.g.size,fun i hi hn=>HG4.out.g.block i hi (fun e=>hn e.symm)⟩ (fun i hi h=>?_)
     rcases HG2.out.at_ with e | ⟨j,e,hj⟩
     · exact Or.inr (e▸h)
     · rw [e] at h;injection h with h;have h1:V1.heap.size≤j:=hj;have:=HS1.out;omega
   · rcases HG4.out.at_ with e | ⟨j,e,hj⟩
     · rcases HG2.out.at_ with e2 | ⟨j,e2,hj⟩
       · exact Or.inl (e.trans e2)
       · exact Or.inr ⟨j,e.trans e2,by have h1:V1.heap.size≤j:=hj;have:=HS1.out;omega⟩
     · exact Or.inr ⟨j,e,by have:=HS3.out;omega⟩)
end Go.Proofs.YtnlgndpcddngoaaGreatDoor
