import Derived.Test.YtnlgndpcddngoaaGreatDoorZ04
import Derived.Test.YtnlgndpcddngoaaGreatDoorZ05
import Derived.Deep.RegionWith
import Derived.Laws.AppendOwnNone
import Derived.Lib.AppendZerosOnto
import Derived.Lib.AppendZeros
import Derived.LoopN
import Derived.Test.YtnlgndpcddngoaaGreatDoorZ01
import Derived.Deep.RegionHeld3
import Derived.Maps.AppendAt
import Derived.Laws.IdiomStrings
import Derived.Laws.BytesArg
import Derived.Deep.AppendLies
import Derived.Laws.StructEq
import Derived.Lib.BytesEntry
import Derived.Laws.Externs
import Derived.Sort.Grow
import Derived.Deep.DeepCutAuto
import Derived.Shelf.SlSortCmp.InsertionK
set_option linter.all false
set_option maxRecDepth 100000
set_option maxHeartbeats 2000000
namespace Go.Proofs.YtnlgndpcddngoaaGreatDoor
open Go.Proofs.Tryz Go.RowKit Go.Maps
variable [dK] [iK]
theorem jcA (bs:List Int)(a:aF bs=0)(b:bs.getD 1 0=1):rdQ bs=⟨1,bs.getD 2 0,bs.getD 3 0,bs.getD 4 0,bs.getD 5 0,bs.getD 6 0,bs.getD 7 0,bs.getD 8 0,bs.getD 9 0,bs.getD 10 0,gA bs 11,gA bs 19,0⟩:=by
 unfold rdQ;rw [if_pos a,if_pos b]
theorem jcB (bs:List Int)(a:aF bs=0)(b:bs.getD 1 0=2):rdQ bs=⟨2,bs.getD 2 0,bs.getD 3 0,bs.getD 4 0,bs.getD 5 0,bs.getD 6 0,bs.getD 7 0,bs.getD 8 0,bs.getD 9 0,0,0,0,gA bs 10⟩:=by
 unfold rdQ;rw [if_pos a,if_neg (by omega),if_pos b]
theorem lJ (bs:List Int)(a:aF bs=0)(b:bs.getD 1 0=3\/bs.getD 1 0=4):rdQ bs=⟨bs.getD 1 0,bs.getD 2 0,bs.getD 3 0,bs.getD 4 0,bs.getD 5 0,bs.getD 6 0,bs.getD 7 0,bs.getD 8 0,bs.getD 9 0,0,0,0,0⟩:=by
 unfold rdQ;rw [if_pos a,if_neg (by omega),if_neg (by omega),if_pos b]
theorem lL (bs:List Int)(a:aF bs=0)(b:bs.getD 1 0=5\/bs.getD 1 0=6):rdQ bs=⟨bs.getD 1 0,0,0,0,0,0,0,0,0,0,0,0,0⟩:=by
 unfold rdQ;rw [if_pos a,if_neg (by omega),if_neg (by omega),if_neg (by omega)]
def sH (k:Int):Value:=if k=0 then .nilIface else .iface 53 (.int .i64 k)
theorem dH (v:Value)(k:Int)(w:World)
  (l:Hid (∀ b,B7 w b->Calls prog 103 #[OB,v] b fun e w'=>e=.returned (.tuple #[.slice none 0 0,.iface 53 (.int .i64 k)])/\B7 b w')) :
  Calls prog 72 #[v] w fun e w'=>e=.returned (.tuple #[oz,.int .i64 0,.iface 53 (.int .i64 k)])/\B7 w w':=by
 go_enter func72,ntmps72
 go_wp2_with fail
 refine (cE _).mono ?_
 rintro e b ⟨rfl,c⟩;have g:B7 w b:=(ba w).trans (c.mono (by simp));have h:w.heap.size<b.heap.size:=by have:=c.size;simp at this;omega
 go_wp2_with fail
 refine (l.out b g).mono ?_
 rintro e f ⟨rfl,d⟩;have i:B7 w f:=g.trans (d.mono (by omega));have j:∀ a,f.cell? ⟨w.heap.size,a,none⟩=(#[.int .u8 0,.int .u8 0,.int .u8 0,.int .u8 0,.int .u8 0,.int .u8 0,.int .u8 0,.int .u8 0,.int .u8 0,.int .u8 0,.int .u64 0,.int .u64 0,.int .u64 0]:Array Value)[a]?:=fun a=>(d.cell (p:=⟨w.heap.size,a,none⟩) h).trans ((c.cell (p:=⟨w.heap.size,a,none⟩) (by simp)).trans (bR w _ _ a));have m:∀ a,f.frozen? ⟨w.heap.size,a,none⟩=false:=fun a=>(d.frozen (p:=⟨w.heap.size,a,none⟩) h).trans ((c.frozen (p:=⟨w.heap.size,a,none⟩) (by simp)).trans (by simp));clear c d;go_wp2
 refine bodyPost_ret (v:=.tuple #[oz,.int .i64 0,.iface 53 (.int .i64 k)]) (by simp [results,results72,go_sem,j]) rfl ⟨rfl,?_⟩
 repeat (refine Below.setCell ?_ (by first | exact lz | (show _<=f.heap.size;omega)) _)
 exact i
theorem lM (a:Option Addr)(b:Nat)(w:World) :
  Calls prog 72 #[.slice a 0 b] w fun e w'=>e=.returned (.tuple #[oz,.int .i64 0,.iface 53 (.int .i64 1)])/\B7 w w':=by
 refine dH _ 1 w ?_
 intro c _;refine kG 1 26 66 _ c ?_
 intro d _;exact jfb a b d
theorem rh (g d m:Nat)(a:Int)(t:List Int)(w:World)(z:(a :: t).length<=m)(A:(a :: t).length<=1048576)(j:g<w.heap.size)
  (G:∀ f,f<(a :: t).length->w.cell? ⟨g,d+f,none⟩=some (.int .u8 ((a :: t).getD f 0))) (E:∀ f,0<=(a :: t).getD f 0/\(a :: t).getD f 0<=255) (q:Rq) (s:q=rdQ (a :: t)) :
  Calls prog 72 #[.slice (some ⟨g,d,none⟩) (a :: t).length m] w fun e w'=>e=.returned (.tuple #[oj q,.int .i64 (dT (a :: t)),sH (aF (a :: t))])/\B7 w w':=by
 have n:w.cell? ⟨g,d,none⟩=some (.int .u8 a):=G 0 (by simp);have P:0<=a/\a<=255:=E 0;by_cases B:a<1
 ·have c:aF (a :: t)=2:=by simp [aF,B]
  have h:rdQ (a :: t)=Rq.zero:=by simp [rdQ,c]
  have r:dT (a :: t)=0:=by simp [dT,c]
  subst s;rw [c,h,r];refine dH _ 2 w ?_
  intro v k;refine ik 1 26 66 _ v ?_
  intro x u;have l:=k.trans (u.mono k.size);exact jfc g d _ m a x (by simp) (ll j l.size) ((l.cell (p:=⟨g,d,none⟩) j).trans n) B
 by_cases C:26<a
 ·have c:aF (a :: t)=2:=by simp [aF,C]
  have h:rdQ (a :: t)=Rq.zero:=by simp [rdQ,c]
  have r:dT (a :: t)=0:=by simp [dT,c]
  subst s;rw [c,h,r];refine dH _ 2 w ?_
  intro v k;refine ik 1 26 66 _ v ?_
  intro x u;have l:=k.trans (u.mono k.size);exact jfd g d _ m a x (by simp) (ll j l.size) ((l.cell (p:=⟨g,d,none⟩) j).trans n) B C
 have D:¬(a<1\/26<a):=by omega
 cases t with
 | nil=>
  have c:aF [a]=1:=by simp [aF,D]
  have h:rdQ [a]=Rq.zero:=by simp [rdQ,c]
  have r:dT [a]=0:=by simp [dT,c]
  subst s;rw [c,h,r];refine dH _ 1 w ?_
  intro v k;refine kG 1 26 66 _ v ?_
  intro x u;have l:=k.trans (u.mono k.size);exact jfe g d _ m a x (by simp) (ll j l.size) ((l.cell (p:=⟨g,d,none⟩) j).trans n) B C (by simp)
 | cons i t=>
  have y:w.cell? ⟨g,d+1,none⟩=some (.int .u8 i):=G 1 (by simp);by_cases o:a=aM i
  ·by_cases I:(((a :: i :: t).length:Nat):Int)<=a
   ·have c:aF (a :: i :: t)=1:=by simp only [aF];rw [if_neg D,if_pos o,if_pos I]
    have h:rdQ (a :: i :: t)=Rq.zero:=by simp [rdQ,c]
    have r:dT (a :: i :: t)=0:=by simp [dT,c]
    subst s;rw [c,h,r];refine dH _ 1 w ?_
    intro v k;refine qh 1 26 66 g d _ m a v (by simp) P.1 P.2 (ll j k.size) ((k.cell (p:=⟨g,d,none⟩) j).trans n) I ?_
    intro x u;have l:=k.trans (u.mono k.size);refine (rX g d _ m a i x (by simp) (ll j l.size) ((l.cell (p:=⟨g,d,none⟩) j).trans n) ((l.cell (p:=⟨g,d+1,none⟩) j).trans y) B C).mono ?_
    rintro e R ⟨rfl,F⟩;exact⟨by rw [if_pos o],F⟩
   ·have c:aF (a :: i :: t)=0:=by simp only [aF];rw [if_neg D,if_pos o,if_neg I]
    have r:dT (a :: i :: t)=a+1:=by simp [dT,c]
    have Q:sH 0=.nilIface:=rfl;rw [c,r,Q];have b:∀ f,f<=a.toNat->w.cell? ⟨g,d+f,none⟩=some (.int .u8 ((a :: i :: t).getD f 0)):=fun f H=>G f (by omega);by_cases J:i=1
    ·subst J;obtain rfl:a=26:=o;have h:q=_:=s.trans (jcA _ c rfl);subst h;exact jgn g d _ m _ _ _ _ _ _ _ _ w (by omega) z A j n y (b 2 (by decide)) (b 3 (by decide)) (b 4 (by decide)) (b 5 (by decide)) (b 6 (by decide)) (b 7 (by decide)) (b 8 (by decide)) (b 9 (by decide)) _ (b 10 (by decide)) _ _ (fun f H=>by rw [Nat.add_assoc];exact b (11+f) (by show _<=26;omega)) (fun f=>E (11+f)) (fun f H=>by rw [Nat.add_assoc];exact b (19+f) (by show _<=26;omega)) (fun f=>E (19+f))
    by_cases K:i=2
    ·subst K;obtain rfl:a=17:=o;have h:q=_:=s.trans (jcB _ c rfl);subst h;exact jgo g d _ m _ _ _ _ _ _ _ _ w (by omega) z A j n y (b 2 (by decide)) (b 3 (by decide)) (b 4 (by decide)) (b 5 (by decide)) (b 6 (by decide)) (b 7 (by decide)) (b 8 (by decide)) (b 9 (by decide)) _ (fun f H=>by rw [Nat.add_assoc];exact b (10+f) (by show _<=17;omega)) (fun f=>E (10+f))
    by_cases L:i=3
    ·subst L;obtain rfl:a=9:=o;have h:q=_:=s.trans (lJ _ c (il rfl));subst h;exact jgp g d _ m _ _ _ _ _ _ _ _ w (by omega) z A j n y (b 2 (by decide)) (b 3 (by decide)) (b 4 (by decide)) (b 5 (by decide)) (b 6 (by decide)) (b 7 (by decide)) (b 8 (by decide)) (b 9 (by decide))
    by_cases M:i=4
    ·subst M;obtain rfl:a=9:=o;have h:q=_:=s.trans (lJ _ c (ir rfl));subst h;exact jgq g d _ m _ _ _ _ _ _ _ _ w (by omega) z A j n y (b 2 (by decide)) (b 3 (by decide)) (b 4 (by decide)) (b 5 (by decide)) (b 6 (by decide)) (b 7 (by decide)) (b 8 (by decide)) (b 9 (by decide))
    by_cases N:i=5
    ·subst N;obtain rfl:a=1:=o;have h:q=_:=s.trans (lL _ c (il rfl));subst h;exact jgr g d _ m w (by omega) z A j n y
    by_cases O:i=6
    ·subst O;obtain rfl:a=1:=o;have h:q=_:=s.trans (lL _ c (ir rfl));subst h;exact jgs g d _ m w (by omega) z A j n y
    exact absurd o (by simp [aM,J,K,L,M,N,O];omega)
  ·have c:aF (a :: i :: t)=2:=by simp only [aF];rw [if_neg D,if_neg o]
   have h:rdQ (a :: i :: t)=Rq.zero:=by simp [rdQ,c]
   have r:dT (a :: i :: t)=0:=by simp [dT,c]
   subst s;rw [c,h,r];refine dH _ 2 w ?_
   intro v k;refine ik 1 26 66 _ v ?_
   intro x u;have l:=k.trans (u.mono k.size);refine (rX g d _ m a i x (by simp) (ll j l.size) ((l.cell (p:=⟨g,d,none⟩) j).trans n) ((l.cell (p:=⟨g,d+1,none⟩) j).trans y) B C).mono ?_
   rintro e R ⟨rfl,F⟩;exact⟨by rw [if_neg o],F⟩
theorem qQ (v:Int)(a:Nat):0<=nb v a/\nb v a<=255:=by unfold nb;omega
theorem tE (v:Int)(b:0<=v)(c:v<=18446744073709551615):cu (fun a=>(bI v).getD a 0) 8=v:=by
 simp only [cu,bI,List.getD_cons_succ,List.getD_cons_zero,nb];omega
def ec (bs:List Int):Int:=
 match bs with
 | []=>1
 | b0 :: t=>if b0<17\/17<b0 then 2 else
  match t with
  | []=>1
  | b1 :: _=>if b0=gG b1 then (if (bs.length:Int)<=b0 then 1 else 0) else 2
def rpN (bs:List Int):Int:=if ec bs=0 then 18 else 0
def rpQ (bs:List Int):Rp:=if ec bs=0 then ⟨bs.getD 1 0,gA bs 2,gA bs 10⟩ else ⟨0,0,0⟩
theorem rz (a:Option Addr)(b:Nat)(w:World)  :
  Calls prog 56 #[.slice a 0 b] w fun e w'=>e=.returned (.tuple #[oP,.int .i64 0,.int .i64 1])/\B7 w w':=by
 go_enter func56,ntmps56
 go_wp2
 refine bodyPost_ret (v:=.tuple #[oP,.int .i64 0,.int .i64 1]) (by simp [results,results56,go_sem]) rfl ⟨rfl,?_⟩
 exact ba w
theorem jaP (g b n d:Nat)(a:Int)(w:World)(l:0<n)(i:g<w.heap.size)(h:w.cell? ⟨g,b,none⟩=some (.int .u8 a))(f:¬a=17) :
  Calls prog 56 #[.slice (some ⟨g,b,none⟩) n d] w fun e w'=>e=.returned (.tuple #[oP,.int .i64 0,.int .i64 2])/\B7 w w':=by
 have j:(0:Int)<n:=by omega
 have m:decide ((0:Int)<n)=true:=by simpa using j
 have k:∀ c,(w.alloc c).cell? ⟨g,b,none⟩=some (.int .u8 a):=fun c=>by rw [World.cell?_alloc_past _ _ _ i];exact h
 have o:(a != 17)=true:=by simpa using f
 go_enter func56,ntmps56
 go_wp2
 refine bodyPost_ret (v:=.tuple #[oP,.int .i64 0,.int .i64 2]) (by simp [results,results56,go_sem]) rfl ⟨rfl,?_⟩
 exact ba w
theorem jcP (g b n d:Nat)(a:Int)(w:World)(j:0<n)(i:g<w.heap.size)(h:w.cell? ⟨g,b,none⟩=some (.int .u8 a))(f:a=17)(o:n=1) :
  Calls prog 56 #[.slice (some ⟨g,b,none⟩) n d] w fun e w'=>e=.returned (.tuple #[oP,.int .i64 0,.int .i64 1])/\B7 w w':=by
 have k:(0:Int)<n:=by omega
 have q:decide ((0:Int)<n)=true:=by simpa using k
 have l:∀ c,(w.alloc c).cell? ⟨g,b,none⟩=some (.int .u8 a):=fun c=>by rw [World.cell?_alloc_past _ _ _ i];exact h
 subst f;have _:=j;have p:decide ((1:Int)<n)=false:=by simp;omega
 have m:decide ((n:Int)<18)=true:=by simp;omega
 go_enter func56,ntmps56
 go_wp2
 refine bodyPost_ret (v:=.tuple #[oP,.int .i64 0,.int .i64 1]) (by simp [results,results56,go_sem]) rfl ⟨rfl,?_⟩
 exact ba w
theorem jcO (g b n h:Nat)(d:Int)(w:World)(r:0<n)(f:g<w.heap.size)(j:w.cell? ⟨g,b,none⟩=some (.int .u8 d))(i:d=17)(s:1<n)(c:Int)(k:w.cell? ⟨g,b+1,none⟩=some (.int .u8 c))(l:c<1) :
  Calls prog 56 #[.slice (some ⟨g,b,none⟩) n h] w fun e w'=>e=.returned (.tuple #[oP,.int .i64 0,.int .i64 2])/\B7 w w':=by
 have m:(0:Int)<n:=by omega
 have x:decide ((0:Int)<n)=true:=by simpa using m
 have o:∀ a,(w.alloc a).cell? ⟨g,b,none⟩=some (.int .u8 d):=fun a=>by rw [World.cell?_alloc_past _ _ _ f];exact j
 subst i;have t:decide ((1:Int)<n)=true:=by simp;omega
 have u:(1:Int)<n:=by omega
 have p:∀ a,(w.alloc a).cell? ⟨g,b+1,none⟩=some (.int .u8 c):=fun a=>by rw [World.cell?_alloc_past _ _ _ f];exact k
 have q:decide (c<1)=true:=by simpa using l
 go_enter func56,ntmps56
 go_wp2
 refine bodyPost_ret (v:=.tuple #[oP,.int .i64 0,.int .i64 2]) (by simp [results,results56,go_sem]) rfl ⟨rfl,?_⟩
 exact ba w
theorem jaQ (g c n h:Nat)(d:Int)(w:World)(t:0<n)(f:g<w.heap.size)(j:w.cell? ⟨g,c,none⟩=some (.int .u8 d))(i:d=17)(u:1<n)(a:Int)(k:w.cell? ⟨g,c+1,none⟩=some (.int .u8 a))(m:¬a<1)(l:9<a) :
  Calls prog 56 #[.slice (some ⟨g,c,none⟩) n h] w fun e w'=>e=.returned (.tuple #[oP,.int .i64 0,.int .i64 2])/\B7 w w':=by
 have o:(0:Int)<n:=by omega
 have z:decide ((0:Int)<n)=true:=by simpa using o
 have p:∀ b,(w.alloc b).cell? ⟨g,c,none⟩=some (.int .u8 d):=fun b=>by rw [World.cell?_alloc_past _ _ _ f];exact j
 subst i;have x:decide ((1:Int)<n)=true:=by simp;omega
 have y:(1:Int)<n:=by omega
 have q:∀ b,(w.alloc b).cell? ⟨g,c+1,none⟩=some (.int .u8 a):=fun b=>by rw [World.cell?_alloc_past _ _ _ f];exact k
 have r:decide (a<1)=false:=by simpa using m
 have s:decide (9<a)=true:=by simpa using l
 go_enter func56,ntmps56
 go_wp2
 refine bodyPost_ret (v:=.tuple #[oP,.int .i64 0,.int .i64 2]) (by simp [results,results56,go_sem]) rfl ⟨rfl,?_⟩
 exact ba w
theorem tS (g c n h:Nat)(d:Int)(w:World)(u:0<n)(f:g<w.heap.size)(j:w.cell? ⟨g,c,none⟩=some (.int .u8 d))(i:d=17)(x:1<n)(a:Int)(k:w.cell? ⟨g,c+1,none⟩=some (.int .u8 a))(m:¬a<1)(l:¬9<a)(B:n<18) :
  Calls prog 56 #[.slice (some ⟨g,c,none⟩) n h] w fun e w'=>e=.returned (.tuple #[oP,.int .i64 0,.int .i64 1])/\B7 w w':=by
 have o:(0:Int)<n:=by omega
 have A:decide ((0:Int)<n)=true:=by simpa using o
 have p:∀ b,(w.alloc b).cell? ⟨g,c,none⟩=some (.int .u8 d):=fun b=>by rw [World.cell?_alloc_past _ _ _ f];exact j
 subst i;have y:decide ((1:Int)<n)=true:=by simp;omega
 have z:(1:Int)<n:=by omega
 have q:∀ b,(w.alloc b).cell? ⟨g,c+1,none⟩=some (.int .u8 a):=fun b=>by rw [World.cell?_alloc_past _ _ _ f];exact k
 have r:decide (a<1)=false:=by simpa using m
 have s:decide (9<a)=false:=by simpa using l
 have t:decide ((n:Int)<18)=true:=by simp;omega
 go_enter func56,ntmps56
 go_wp2
 refine bodyPost_ret (v:=.tuple #[oP,.int .i64 0,.int .i64 1]) (by simp [results,results56,go_sem]) rfl ⟨rfl,?_⟩
 exact ba w
theorem jex (g f n d:Nat)(b:Nat->Int)(w:World)(C:18<=n)(I:n<=d)(D:n<=1048576)(p:g<w.heap.size)(l:∀ a,a<n->w.cell? ⟨g,f+a,none⟩=some (.int .u8 (b a)))(o:∀ a,0<=b a/\b a<=255)(m:b 0=17)(r:¬b 1<1)(q:¬9<b 1) :
  Calls prog 56 #[.slice (some ⟨g,f,none⟩) n d] w fun e w'=>e=.returned (.tuple #[ot (b 1) (cu (fun a=>b (2+a)) 8) (cu (fun a=>b (10+a)) 8),.int .i64 18,.int .i64 0])/\B7 w w':=by
 have s:(0:Int)<n:=by omega
 have K:decide ((0:Int)<n)=true:=by simpa using s
 have E:decide ((1:Int)<n)=true:=by simp;omega
 have F:(1:Int)<n:=by omega
 have H:(2:Int)<=n:=by omega
 have G:(10:Int)<=n:=by omega
 have J:(n:Int)<=d:=by omega
 have x:¬d=2:=by omega
 have y:¬d=10:=by omega
 have B:decide ((n:Int)<18)=false:=by simp;omega
 have z:decide (b 1<1)=false:=by simpa using r
 have A:decide (9<b 1)=false:=by simpa using q
 have h:∀ c a,a<n->(w.alloc c).cell? ⟨g,f+a,none⟩=some (.int .u8 (b a)):=fun c a i=>by rw [World.cell?_alloc_past _ _ _ p];exact l a i
 have j:=aa h;have k:=aa o;have t:∀ c,(w.alloc c).cell? ⟨g,f,none⟩=some (.int .u8 17):=fun c=>(h c 0 (by omega)).trans (by rw [m]);have u:∀ c,(w.alloc c).cell? ⟨g,f+1,none⟩=some (.int .u8 (b 1)):=fun c=>h c 1 (by omega);clear l o h m;go_enter func56,ntmps56
 go_wp2_with fail
 refine (je g (f+2) (n - 2) (d - 2) (fun a=>b (2+a)) _ (by omega) (by omega) (fun a i=>by rw [Nat.add_assoc];exact j.out _ (2+a) (by omega)) (fun a=>k.out (2+a))).mono ?_
 rintro e w' ⟨rfl,rfl⟩;go_wp2_with fail
 refine (je g (f+10) (n - 10) (d - 10) (fun a=>b (10+a)) _ (by omega) (by omega) (fun a i=>by rw [Nat.add_assoc];exact j.out _ (10+a) (by omega)) (fun a=>k.out (10+a))).mono ?_
 rintro e w' ⟨rfl,rfl⟩;go_wp2
 refine bodyPost_ret (v:=.tuple #[ot (b 1) (cu (fun a=>b (2+a)) 8) (cu (fun a=>b (10+a)) 8),.int .i64 18,.int .i64 0]) (by simp [results,results56,go_sem]) rfl ⟨rfl,?_⟩
 exact ba w
theorem ny {w:World}{base:Nat}{v:Value}{n:Nat}{bs:List Int}(c:w.ownsRow base 5 1 v n (bs.map (Value.int .u8)))(m:0<n)(l:bs.length=n) :
  ∃ g b,v=.slice (some ⟨g,0,none⟩) n b/\base<=g/\g<w.heap.size/\n<=b/\∀ a,a<n->w.cell? ⟨g,a,none⟩=some (.int .u8 (bs.getD a 0)):=by
 rcases c.2 with ⟨_,j⟩ | ⟨g,b,i,d,e,f,h,_⟩
 ·omega
 ·refine⟨g,b,d,e,(Array.getElem?_eq_some_iff.1 f).1,h,fun a k=>?_⟩
  subst d;rw [c.cellAt a (by omega)];simp [List.getD,List.getElem?_eq_getElem (show a<bs.length by omega)]
def jJ (w:World)(d:Value)(bs:List Int):Prop:=
 (bs=[]/\(d=.slice none 0 0\/∃ a b c,d=.slice (some ⟨a,b,none⟩) 0 c))\/
 (0<bs.length/\∃ a b c,d=.slice (some ⟨a,b,none⟩) bs.length c/\a<w.heap.size/\∀ e f,(bs.map (Value.int .u8))[e]?=some f->w.cell? ⟨a,b+e,none⟩=some f)
theorem jam (w:World):Calls prog 75 #[.slice none 0 0,.int .i64 0] w fun e w'=>e=.returned (.slice none 0 0)/\w'=w:=by
 go_enter func75,ntmps75
 go_wp2
 go_ret
 exact⟨rfl,rfl⟩
theorem jbS (n:Nat)(m:0<n)(s:n<=4194304)(w:World) :
  Calls prog 75 #[.slice none 0 0,.int .i64 n] w fun e w'=>∃ v,e=.returned v/\w'.ownsRow w.heap.size 5 1 v 0 []/\B7 w w':=by
 obtain⟨c,l,o,t,j⟩:=info_parts Tryz.info5;have h:(Builtin.firstCells c.size 0 (.slice none 0 0)).run prog w.drew=.ok ([]:List Value).toArray w.drew:=run_firstCells_none w.drew c.size 0 0 0;have i:∀ d,(Builtin.append_ #[76,3] d #[.slice none 0 0,.int .i64 n]).run prog w=
   .ok (.slice (some ⟨w.heap.size,0,none⟩) n (grownCap w n 0 5)) (w.drew.alloc (.cells (([]:List Value).toArray ++ Builtin.zeroCells (Value.int .u8 0).cells n ++ Builtin.zeroCells (Value.int .u8 0).cells (grownCap w n 0 5 - n)) 5)):=fun d=>by
  have f:=Lib.run_append_grow_zeros (P:=prog) w 76 3 d 5 c (.int .u8 0) .i64 .i64 underlying76 underlying3 l o none 0 0 [] h n m (by omega) (by omega) (by omega) (by rw [j];omega)
   (by rw [Nat.zero_add];exact growslice_fits (by omega) (by rw [j];omega))
  rw [Nat.zero_add] at f;exact f
 have k:n<=grownCap w n 0 5:=grownCap_ge w _ _ _;have b:=grownCap_le_maxLen w n 0 5 (by unfold maxLen;omega);obtain⟨a,g⟩:∃ a,a=grownCap w n 0 5:=⟨_,rfl⟩;rw [<-g] at i k b;clear h g;have r:a<=9223372036854775807:=by unfold maxLen at b;omega
 have p:¬((n:Int)<0):=by omega
 have q:(n:Int) > 0:=by omega
 go_enter func75,ntmps75
 go_wp2_with (at_builtin;refine Lib.wpList_append_run _ rfl _ _ _ _ rfl _ _ rfl rfl _ _ (i _) ?_)
 go_ret
 refine⟨_,rfl,⟨rfl,ir ⟨w.heap.size,a,_,rfl,lz,aC (by simp),Nat.zero_le _,b,?_,by simp⟩⟩,((Below.refl _ w).drew).alloc lz _⟩
 simp [Builtin.zeroCells];omega
theorem jJ.shape {w:World}{v:Value}{bs:List Int}(d:jJ w v bs):∃ a c,v=.slice a bs.length c:=by
 rcases d with ⟨rfl,rfl | ⟨e,f,b,rfl⟩⟩ | ⟨_,e,f,b,rfl,_⟩
 ·exact⟨_,_,rfl⟩
 ·exact⟨_,_,rfl⟩
 ·exact⟨_,_,rfl⟩
theorem jJ.kept {w w':World}{v:Value}{bs:List Int}(a:jJ w v bs)(l:w.heap.size<=w'.heap.size)(k:∀ g o n c,v=.slice (some ⟨g,o,none⟩) n c->g<w.heap.size->w'.heap[g]?=w.heap[g]?):jJ w' v bs:=by
 rcases a with a | ⟨h,d,e,f,rfl,b,i⟩
 ·exact il a
 ·exact ir ⟨h,d,e,f,rfl,ll b l,fun m p j=>(World.cell?_of_block (w:=w) (k d e _ _ rfl b)).trans (i m p j)⟩
theorem jJ.below {w w':World}{v:Value}{bs:List Int}{B:Nat}(c:jJ w v bs)(a:Below B w w')(d:w.heap.size<=B):jJ w' v bs:=
 c.kept a.size fun b _ _ _ _ e=>a.block b (ll e d)
theorem jJ.of_own {w:World}{base:Nat}{v:Value}{n:Nat}{bs:List Int}(d:w.ownsRow base 5 1 v n (bs.map (Value.int .u8))):jJ w v bs:=by
 have a:bs.length=n:=by simpa using d.1
 rcases d.2 with ⟨i,j⟩ | ⟨c,b,p,e,q,r,s,_⟩
 ·exact il ⟨List.length_eq_zero_iff.1 (a.trans j),il i⟩
 ·by_cases f:bs=[]
  ·subst f;simp at a;subst a;exact il ⟨rfl,ir ⟨c,0,b,e⟩⟩
  ·have o:0<bs.length:=List.length_pos_iff.2 f;obtain⟨c,b,e,_,l,_,k⟩:=ny d (by omega) a;refine ir ⟨o,c,0,b,by rw [e,a],l,fun h t g=>?_⟩
   have m:h<bs.length:=by
    have:=(List.getElem?_eq_some_iff.1 g).1;simpa using this
   rw [Nat.zero_add,k h (by omega),<-g];simp [List.getD,List.getElem?_eq_getElem m]
theorem eW {l:Array Oper}{rest:List Oper}{o:Oper}{a:Act}{g:Exit->Act->World->Prop}{w:World}(y:o.guard=none)(s x:Operand)
  (A:o.op=.call { callee:=.builtin .append,args:=#[s,x],argTypes:=#[76,76] }) (base:Nat) (v:Value) (n:Nat) (r:List Int) (B:a.eval s=v) (k:w.ownsRow base 5 1 v n (r.map (Value.int .u8)))
  (q:Value) (bs:List Int) (C:a.eval x=q) (M:jJ w q bs) (Q:n+bs.length<=4194304) (K:base<=w.heap.size)
  (u:∀ f w',w'.ownsRow base 5 1 f (n+bs.length) ((r ++ bs).map (Value.int .u8))->w.grownBy w' v.ownBlock->wpList prog l g rest (a.put o.dst f) w'):wpList prog l g (o :: rest) a w:=by
 obtain⟨D,z,N,O,P⟩:=info_parts Tryz.info5;have E:∀ (d:Addr) (e h:Nat),q=.slice (some d) e h->bs.length=e->(∀ b c,(bs.map (Value.int .u8))[b]?=some c->w.cell? (d.add b)=some c)->wpList prog l g (o :: rest) a w:=by
  intro d e h G t H;subst G;refine wpList_append_own (w:=w) y s x 76 A base 5 D (.int .u8 0) 1 1 underlying76 z N O P rfl (by decide) v n _ B k d e h (bs.map (Value.int .u8)) C (by simpa using t) H (ints_oneCell _ _) (by unfold maxLen;omega) (by omega) K ?_
  intro f w' I J _;refine u f w' ?_ J
  rw [t,List.map_append];exact I
 rcases M with ⟨rfl,rfl | ⟨m,p,i,rfl⟩⟩ | ⟨_,m,p,i,F,_,L⟩
 ·refine wpList_append_own_none y s x 76 A base 5 D 1 underlying76 z v n _ B k C ?_
  refine u v w ?_ (World.grownBy.refl w _)
  simpa using k
 ·exact E ⟨m,p,none⟩ 0 i rfl rfl (fun b c j=>by simp at j)
 ·exact E ⟨m,p,none⟩ bs.length i F rfl (fun b c j=>by rw [Addr.add_lit];exact L b c j)
theorem jbR (n:Nat)(k:Int)(b:k=n)(c:n<=4194304)(w:World) :
  Calls prog 75 #[.slice none 0 0,.int .i64 k] w fun e w'=>∃ v,e=.returned v/\w'.ownsRow w.heap.size 5 1 v 0 (([]:List Int).map (Value.int .u8))/\B7 w w':=by
 subst b;by_cases a:n=0
 ·subst a;refine (jam w).mono ?_
  rintro e w' ⟨rfl,rfl⟩;exact⟨_,rfl,World.ownsRow_nil _ _ _ _,Below.refl _ _⟩
 ·exact jbS n (by omega) c w
theorem jdq (g:Nat)(z A:Value)(a c:List Int)(t:TypeId)(w:World)(h:w.heap[g]?=some (.cells #[z,A] t))(o:jJ w z a)(f:jJ w A c)(L:a.length<=1048576)(M:c.length<=1048576) :
  Calls prog 49 #[.slice (some ⟨g,0,none⟩) 2 2] w fun e w'=>∃ y,e=.returned y/\w'.ownsRow w.heap.size 5 1 y (a.length+c.length) ((a ++ c).map (Value.int .u8))/\B7 w w':=by
 obtain⟨V,D,F⟩:=o.shape;obtain⟨W,E,G⟩:=f.shape;have B:=aa o;have C:=aa f;have x:=am h;clear o f;subst F G;have k:=ab h;obtain⟨P,m⟩:∃ q,q=a.length:=⟨_,rfl⟩;obtain⟨Q,n⟩:∃ q,q=c.length:=⟨_,rfl⟩;rw [<-m] at k L ⊢;rw [<-n] at k M ⊢;have b:=aa m;have d:=aa n;clear m n;go_enter func49,ntmps49
 go_wp2
 refine wp_loop_rounds 3 ?_
 rw [rounds_succ];go_wp2
 rw [rounds_succ];go_wp2
 rw [rounds_succ];go_wp2_with fail
 refine (jbR (P+Q) _ (by omega) (by omega) w).mono ?_
 rintro e Y ⟨R,rfl,u,i⟩;have s:=ab ((i.block g x).trans h);have O:=i.size;rw [<-b.out,<-d.out] at s;clear k;go_wp2
 refine wp_loop_rounds 3 ?_
 rw [rounds_succ];go_wp2_with (at_builtin;refine eW rfl _ _ rfl w.heap.size R 0 [] rfl u _ a (by exact congrArg (fun r=>Value.slice V r D) b.out) (B.out.below i lz) (by rw [<-b.out];omega) (by omega) ?_;intro S T v J)
 have j:B7 w T:=i.grown J O (fun p l=>(u.lt p l).1);have H:=ab ((j.block g x).trans h);rw [<-b.out,<-d.out] at H;have f:=j.size;clear s;rw [rounds_succ];go_wp2_with (at_builtin;refine eW rfl _ _ rfl w.heap.size S (0+a.length) ([] ++ a) rfl v _ c (by exact congrArg (fun r=>Value.slice W r E) d.out) (C.out.below j lz) (by rw [<-b.out,<-d.out];omega) (by omega) ?_;intro X U N K)
 have I:B7 w U:=j.grown K f (fun p l=>(v.lt p l).1);rw [rounds_succ];go_wp2
 go_ret
 refine⟨_,rfl,?_,I⟩
 have:=N;rw [Nat.zero_add,<-b.out,<-d.out] at this;exact this
def Sl (w:World)(e:Value)(bs:List Int):Prop:=
 (bs=[]/\(e=.slice none 0 0\/∃ a c b,e=.slice (some ⟨a,c,none⟩) 0 b))\/
 (0<bs.length/\∃ a c b,e=.slice (some ⟨a,c,none⟩) bs.length b/\bs.length<=b/\a<w.heap.size/\∀ d,d<bs.length->w.cell? ⟨a,c+d,none⟩=some (.int .u8 (bs.getD d 0)))
theorem Sl.kept {w w':World}{v:Value}{bs:List Int}(a:Sl w v bs)(m:w.heap.size<=w'.heap.size)(l:∀ g o n c,v=.slice (some ⟨g,o,none⟩) n c->g<w.heap.size->w'.heap[g]?=w.heap[g]?):Sl w' v bs:=by
 rcases a with a | ⟨i,d,e,f,rfl,h,b,j⟩
 ·exact il a
 ·exact ir ⟨i,d,e,f,rfl,h,ll b m,fun p k=>(World.cell?_of_block (w:=w) (l d e _ _ rfl b)).trans (j p k)⟩
theorem Sl.below {w w':World}{v:Value}{bs:List Int}{B:Nat}(c:Sl w v bs)(a:Below B w w')(d:w.heap.size<=B):Sl w' v bs:=
 c.kept a.size fun b _ _ _ _ e=>a.block b (ll e d)
theorem Sl.src {w:World}{v:Value}{bs:List Int}(a:Sl w v bs):jJ w v bs:=by
 rcases a with a | ⟨f,i,j,e,rfl,k,g,h⟩
 ·exact il a
 ·refine ir ⟨f,i,j,e,rfl,g,fun d l b=>?_⟩
  have c:d<bs.length:=by
   have:=(List.getElem?_eq_some_iff.1 b).1;simpa using this
  rw [h d c,<-b];simp [List.getD,List.getElem?_eq_getElem c]
theorem Sl.of_own {w:World}{base:Nat}{v:Value}{n:Nat}{bs:List Int}(d:w.ownsRow base 5 1 v n (bs.map (Value.int .u8))):Sl w v bs:=by
 have a:bs.length=n:=by simpa using d.1
 rcases d.2 with ⟨g,h⟩ | ⟨c,b,o,e,p,q,k,_⟩
 ·exact il ⟨List.length_eq_zero_iff.1 (a.trans h),il g⟩
 ·by_cases f:bs=[]
  ·subst f;simp at a;subst a;exact il ⟨rfl,ir ⟨c,0,b,e⟩⟩
  ·have l:0<bs.length:=List.length_pos_iff.2 f;obtain⟨c,b,e,_,j,k,i⟩:=ny d (by omega) a;exact ir ⟨l,c,0,b,by rw [e,a],by omega,j,fun m r=>by rw [Nat.zero_add,i m (by omega)]⟩
theorem Sl.shape {w:World}{v:Value}{bs:List Int}(b:Sl w v bs):∃ a c,v=.slice a bs.length c:=b.src.shape
theorem tG (i:Value)(bs:List Int)(w:World)(t:Sl w i bs)(o:bs.length<=1048576)(s:∀ f,0<=bs.getD f 0/\bs.getD f 0<=255)(q:Rq)(a:q=rdQ bs)(g c:Int)(p:g=dT bs)(n:c=aF bs) :
  Calls prog 72 #[i] w fun e w'=>e=.returned (.tuple #[oj q,.int .i64 g,sH c])/\B7 w w':=by
 subst p n;rcases t with ⟨rfl,rfl | ⟨d,h,b,rfl⟩⟩ | ⟨r,d,h,b,rfl,k,l,m⟩
 ·subst a;exact lM _ _ w
 ·subst a;exact lM _ _ w
 ·cases bs with
  | nil=>simp at r
  | cons j u=>exact rh d h b j u w k o l m s q a
theorem jfF (K:Value)(bs:List Int)(w:World)(S:Sl w K bs)(p:bs.length<=1048576)(n:∀ g,0<=bs.getD g 0/\bs.getD g 0<=255)(q:Rq)(R:q=rdQ bs)(J B:Int)(Q:J=dT bs)(N:B=aF bs) :
  Calls prog 85 #[K] w fun e w'=>e=.returned (.tuple #[oj q,.int .i64 J,.int .i64 B])/\B7 w w':=by
 subst R Q N;rcases S with ⟨rfl,rfl | ⟨b,c,f,rfl⟩⟩ | ⟨m,b,c,f,rfl,o,j,l⟩
 ·exact rx _ _ w
 ·exact rx _ _ w
 have r:∀ u:Int,aF bs=u->u≠0->(Calls prog 85 #[.slice (some ⟨b,c,none⟩) bs.length f] w fun e w'=>e=.returned (.tuple #[oz,.int .i64 0,.int .i64 u])/\B7 w w')->
   Calls prog 85 #[.slice (some ⟨b,c,none⟩) bs.length f] w fun e w'=>e=.returned (.tuple #[On (rdQ bs).op (rdQ bs).k0 (rdQ bs).k1 (rdQ bs).k2 (rdQ bs).k3 (rdQ bs).k4 (rdQ bs).k5 (rdQ bs).k6 (rdQ bs).k7 (rdQ bs).kd (rdQ bs).x (rdQ bs).y (rdQ bs).n,.int .i64 (dT bs),.int .i64 (aF bs)])/\B7 w w':=by
  intro u O U M;have A:¬aF bs=0:=by omega
  have L:rdQ bs=Rq.zero:=by unfold rdQ;rw [if_neg A]
  have v:dT bs=0:=by unfold dT;rw [if_neg A]
  rw [L,v,O];exact M
 cases bs with
 | nil=>simp at m
 | cons a i=>
  have s:w.cell? ⟨b,c,none⟩=some (.int .u8 a):=l 0 m;have T:0<=a/\a<=255:=n 0;by_cases P:a<1
  ·exact r 2 (by simp [aF,P]) (by omega) (jaO b c _ f a w m j s (by omega))
  by_cases I:26<a
  ·exact r 2 (by simp [aF,I]) (by omega) (jaN b c _ f a w m j s I T.2)
  have t:¬(a<1\/26<a):=by omega
  cases i with
  | nil=>exact r 1 (by simp [aF,t]) (by omega) (jcN b c _ f a w m j s (by omega) (by omega) rfl)
  | cons d i=>
   have y:1<(a :: d :: i).length:=by simp
   have z:w.cell? ⟨b,c+1,none⟩=some (.int .u8 d):=l 1 y;by_cases h:a=aM d
   ·by_cases x:(((a :: d :: i).length:Nat):Int)<=a
    ·exact r 1 (by simp only [aF];rw [if_neg t,if_pos h,if_pos x]) (by omega) (tR b c _ f a w m j s (by omega) (by omega) y d z h x)
    ·have k:aF (a :: d :: i)=0:=by simp only [aF];rw [if_neg t,if_pos h,if_neg x]
     have v:dT (a :: d :: i)=a+1:=by simp [dT,k]
     rw [k,v];by_cases C:d=1
     ·subst C;obtain rfl:a=26:=h;rw [jcA _ k rfl];exact jfK b c _ f (fun g=>(26 :: 1 :: i).getD g 0) w (by omega) o p j l n rfl rfl
     by_cases D:d=2
     ·subst D;obtain rfl:a=17:=h;rw [jcB _ k rfl];exact jfL b c _ f (fun g=>(17 :: 2 :: i).getD g 0) w (by omega) o p j l n rfl rfl
     by_cases E:d=3
     ·subst E;obtain rfl:a=9:=h;rw [lJ _ k (il rfl)];exact jfM b c _ f (fun g=>(9 :: 3 :: i).getD g 0) w (by omega) o p j l n rfl rfl
     by_cases F:d=4
     ·subst F;obtain rfl:a=9:=h;rw [lJ _ k (ir rfl)];exact jfN b c _ f (fun g=>(9 :: 4 :: i).getD g 0) w (by omega) o p j l n rfl rfl
     by_cases G:d=5
     ·subst G;obtain rfl:a=1:=h;rw [lL _ k (il rfl)];exact jfO b c _ f (fun g=>(1 :: 5 :: i).getD g 0) w (by omega) o p j l n rfl rfl
     by_cases H:d=6
     ·subst H;obtain rfl:a=1:=h;rw [lL _ k (ir rfl)];exact jfP b c _ f (fun g=>(1 :: 6 :: i).getD g 0) w (by omega) o p j l n rfl rfl
     exact absurd h (by simp [aM,C,D,E,F,G,H];omega)
   ·exact r 2 (by simp only [aF];rw [if_neg t,if_neg h]) (by omega) (jcM b c _ f a w m j s (by omega) (by omega) y d z h)
theorem tF (F:Value)(bs:List Int)(w:World)(O:Sl w F bs)(K:bs.length<=1048576)(N:∀ q,0<=bs.getD q 0/\bs.getD q 0<=255)(s:Rp)(M:s=rpQ bs)(E B:Int)(L:E=rpN bs)(I:B=ec bs) :
  Calls prog 56 #[F] w fun e w'=>e=.returned (.tuple #[ot s.c s.a s.b,.int .i64 E,.int .i64 B])/\B7 w w':=by
 subst M L I;rcases O with ⟨rfl,rfl | ⟨c,d,g,rfl⟩⟩ | ⟨j,c,d,g,rfl,H,k,y⟩
 ·exact rz _ _ w
 ·exact rz _ _ w
 have m:∀ r:Int,ec bs=r->r≠0->(Calls prog 56 #[.slice (some ⟨c,d,none⟩) bs.length g] w fun e w'=>e=.returned (.tuple #[oP,.int .i64 0,.int .i64 r])/\B7 w w')->
   Calls prog 56 #[.slice (some ⟨c,d,none⟩) bs.length g] w fun e w'=>e=.returned (.tuple #[ot (rpQ bs).c (rpQ bs).a (rpQ bs).b,.int .i64 (rpN bs),.int .i64 (ec bs)])/\B7 w w':=by
  intro r J P G;have A:¬ec bs=0:=by omega
  have v:rpQ bs=⟨0,0,0⟩:=by unfold rpQ;rw [if_neg A]
  have x:rpN bs=0:=by unfold rpN;rw [if_neg A]
  rw [v,x,J];exact G
 cases bs with
 | nil=>simp at j
 | cons a f=>
  have n:w.cell? ⟨c,d,none⟩=some (.int .u8 a):=y 0 j;by_cases h:a=17
  ·have i:¬(a<17\/17<a):=by omega
   cases f with
   | nil=>exact m 1 (by simp [ec,i]) (by omega) (jcP c d _ g a w j k n h rfl)
   | cons b f=>
    have p:1<(a :: b :: f).length:=by simp
    have t:w.cell? ⟨c,d+1,none⟩=some (.int .u8 b):=y 1 p;by_cases l:b<1
    ·have z:¬a=gG b:=by simp [gG,l,h]
     exact m 2 (by simp only [ec];rw [if_neg i,if_neg z]) (by omega) (jcO c d _ g a w j k n h p b t l)
    by_cases o:9<b
    ·have z:¬a=gG b:=by simp [gG,o,h]
     exact m 2 (by simp only [ec];rw [if_neg i,if_neg z]) (by omega) (jaQ c d _ g a w j k n h p b t l o)
    have C:a=gG b:=by simp [gG,l,o,h]
    by_cases D:(((a :: b :: f).length:Nat):Int)<=a
    ·exact m 1 (by simp only [ec];rw [if_neg i,if_pos C,if_pos D]) (by omega) (tS c d _ g a w j k n h p b t l o (by omega))
    ·have u:ec (a :: b :: f)=0:=by simp only [ec];rw [if_neg i,if_pos C,if_neg D]
     have v:rpQ (a :: b :: f)=⟨b,gA (a :: b :: f) 2,gA (a :: b :: f) 10⟩:=by unfold rpQ;rw [if_pos u];rfl
     have x:rpN (a :: b :: f)=18:=by unfold rpN;rw [if_pos u]
     rw [u,v,x];exact jex c d _ g (fun q=>(a :: b :: f).getD q 0) w (by omega) H K k y N h l o
  ·have i:a<17\/17<a:=by omega
   exact m 2 (by simp only [ec];rw [if_pos i]) (by omega) (jaP c d _ g a w j k n h)
abbrev rqc (q:Rq):Array Value:=#[.int .u8 q.op,.int .u8 q.k0,.int .u8 q.k1,.int .u8 q.k2,.int .u8 q.k3,.int .u8 q.k4,.int .u8 q.k5,.int .u8 q.k6,.int .u8 q.k7,.int .u8 q.kd,.int .u64 q.x,.int .u64 q.y,.int .u64 q.n]
def fA:Value->Nat
 | .slice _ n _=>n
 | _=>0
theorem eP (rs:List Rp):(bG rs).length=18 * rs.length:=by
 unfold bG;induction rs with
 | nil=>rfl
 | cons b c a=>rw [List.flatMap_cons,List.length_append,a];simp [bh,bI];omega
theorem jr (rs:List Rp)(a:Rp):bG (rs ++ [a])=bG rs ++ bh a.c a.a a.b:=by simp [bG]
theorem dS {w w':World}{base:Nat}{v:Value}{n:Nat}{c:List Value}(f:w.ownsRow base 5 1 v n c)(i:∀ g,v.ownBlock=some g->w'.heap[g]?=w.heap[g]?):w'.ownsRow base 5 1 v n c:=by
 obtain⟨h,a⟩:=f;refine⟨h,?_⟩
 rcases a with a | ⟨g,d,e,b,j,k,l⟩
 ·exact il a
 ·exact ir ⟨g,d,e,b,j,(i g (by rw [b];rfl)).trans k,l⟩
theorem nz {w:World}{base:Nat}{v:Value}{n:Nat}{e:List Value}(b:w.ownsRow base 5 1 v n e):∃ a c,v=.slice a n c:=by
 rcases b.2 with ⟨rfl,rfl⟩ | ⟨h,f,g,d,_⟩
 ·exact⟨_,_,rfl⟩
 ·exact⟨_,_,d⟩
theorem nf {w:World}{b:Nat}{p q v x y z A B C D r s u:Value}{t:TypeId}{o:Nat×Nat}(E:w.heap[b]?=some (.cells #[p,q,v,x,y,z,A,B,C,D,r,s,u] t o))(a c g h i j k l m n d e f:Value) :
  (((((((((((((w.setCell ⟨b,0,none⟩ a).setCell ⟨b,1,none⟩ c).setCell ⟨b,2,none⟩ g).setCell ⟨b,3,none⟩ h).setCell ⟨b,4,none⟩ i).setCell ⟨b,5,none⟩ j).setCell ⟨b,6,none⟩ k).setCell ⟨b,7,none⟩ l).setCell ⟨b,8,none⟩ m).setCell ⟨b,9,none⟩ n).setCell ⟨b,10,none⟩ d).setCell ⟨b,11,none⟩ e).setCell ⟨b,12,none⟩ f).heap[b]?=some (.cells #[a,c,g,h,i,j,k,l,m,n,d,e,f] t o):=by
 simpa using (ai (ai (ai (ai (ai (ai (ai (ai (ai (ai (ai (ai (ai E 0 a) 1 c) 2 g) 3 h) 4 i) 5 j) 6 k) 7 l) 8 m) 9 n) 10 d) 11 e) 12 f)
theorem jX {i:Array Oper}{o:Oper}{a:Act}{w:World}{f:Act->World->Prop}{k:Exit->Act->World->Prop}{j:Prop}(y:o.guard=none)(s x:Operand)
  (B:o.op=.call { callee:=.builtin .append,args:=#[s,x],argTypes:=#[76,76] }) (base:Nat) (v:Value) (n:Nat) (g:List Int) (E:a.eval s=v) (C:w.ownsRow base 5 1 v n (g.map (Value.int .u8)))
  (e:Addr) (d c:Nat) (bs:List Int) (G:a.eval x=.slice (some e) d c) (A:bs.length=d) (t:∀ h u,(bs.map (Value.int .u8))[h]?=some u->w.cell? (e.add h)=some u) (M:n+d<=4194304) (r:base<=w.heap.size)
  (q:∀ b w',w'.ownsRow base 5 1 b (n+d) ((g ++ bs).map (Value.int .u8))->w.grownBy w' v.ownBlock->(b.ownBlock=v.ownBlock\/b.ownBlock=some w.heap.size)->f (a.put o.dst b) w') :
  if Region.wanted o (yielded i a.tmps)=true then Oper.wp prog o a w f k else j:=by
 have F:Region.wanted o (yielded i a.tmps)=true:=by simp [Region.wanted,y]
 rw [if_pos F];obtain⟨K,z,H,I,J⟩:=info_parts Tryz.info5;obtain⟨b,w',D,l,m,L,p⟩:=run_append_own_at (P:=prog) (w:=w) base 76 o.type 5 K (.int .u8 0) 1 1 underlying76 z H I J rfl (by decide) v n _ C e d c (bs.map (Value.int .u8)) (by simpa using A) t (ints_oneCell _ _) (by unfold maxLen;omega) (by omega) r;unfold Oper.wp execOp;simp only [B,resolve,invoke,builtin,Sem.run_bind,Sem.run_pure,Result.andThen_ok,List.map_toArray,List.map_cons,List.map_nil,E,G,D];exact q b w' (by rw [List.map_append];exact l) m p
theorem cH {l:Array Oper}{rest:List Oper}{o:Oper}{a:Act}{g:Exit->Act->World->Prop}{w:World}(y:o.guard=none)(s x:Operand)
  (A:o.op=.call { callee:=.builtin .append,args:=#[s,x],argTypes:=#[76,76] }) (base:Nat) (v:Value) (n:Nat) (r:List Int) (B:a.eval s=v) (k:w.ownsRow base 5 1 v n (r.map (Value.int .u8)))
  (q:Value) (bs:List Int) (C:a.eval x=q) (N:jJ w q bs) (R:n+bs.length<=4194304) (L:base<=w.heap.size)
  (u:∀ b w',w'.ownsRow base 5 1 b (n+bs.length) ((r ++ bs).map (Value.int .u8))->w.grownBy w' v.ownBlock->(b.ownBlock=v.ownBlock\/b.ownBlock=some w.heap.size)->wpList prog l g rest (a.put o.dst b) w'):wpList prog l g (o :: rest) a w:=by
 obtain⟨D,z,O,P,Q⟩:=info_parts Tryz.info5;have E:∀ (e:Addr) (f h:Nat),q=.slice (some e) f h->bs.length=f->(∀ c d,(bs.map (Value.int .u8))[c]?=some d->w.cell? (e.add c)=some d)->wpList prog l g (o :: rest) a w:=by
  intro e f h G t H;subst G;refine wpList_append_own_at (w:=w) y s x 76 A base 5 D (.int .u8 0) 1 1 underlying76 z O P Q rfl (by decide) v n _ B k e f h (bs.map (Value.int .u8)) C (by simpa using t) H (ints_oneCell _ _) (by unfold maxLen;omega) (by omega) L ?_
  intro b w' I J _ K;refine u b w' ?_ J K
  rw [t,List.map_append];exact I
 rcases N with ⟨rfl,rfl | ⟨m,p,i,rfl⟩⟩ | ⟨_,m,p,i,F,_,M⟩
 ·refine wpList_append_own_none y s x 76 A base 5 D 1 underlying76 z v n _ B k C ?_
  refine u v w ?_ (World.grownBy.refl w _) (il rfl)
  simpa using k
 ·exact E ⟨m,p,none⟩ 0 i rfl rfl (fun c d j=>by simp at j)
 ·exact E ⟨m,p,none⟩ bs.length i F rfl (fun c d j=>by rw [Addr.add_lit];exact M c d j)
def aD (s:ByteArray):List Int:=s.data.toList.map (fun a=>(a.toNat:Int))
theorem bN (s:ByteArray):(aD s).length=s.size:=by simp [aD]
theorem dh (a:List Int)(b:Bytes a):aD (strOfNums a)=a:=by
 unfold aD;rw [strOfNums_data,List.map_map];conv=>rhs;rw [<-List.map_id a]
 apply List.map_congr_left
 intro d c;have:=b d c;simp;omega
theorem fL (s:ByteArray):Bytes (aD s):=by
 intro c b;obtain⟨a,_,rfl⟩:=List.mem_map.1 b;have:=a.toNat_lt;omega
theorem gk {w:World}{base n:Nat}{v:Value}{bs:List Int}(a:w.ownsRow base 5 1 v n (bs.map (Value.int .u8)))(g:bs.length=n):(convert 76 9 v).run prog w=.ok (.string (strOfNums bs)) w:=by
 rcases a.2 with ⟨e,j⟩ | ⟨d,c,i,h,_⟩
 ·have f:bs=[]:=List.eq_nil_of_length_eq_zero (by omega);subst f e;exact run_convert_bytes_nil w 76 5 underlying76 underlying5 0 0 9 underlying9
 ·subst h;refine run_convert_bytes_arg (P:=prog) w 76 5 underlying76 underlying5 d 0 n c bs g (fun b k=>?_) 9 underlying9
  rw [Nat.zero_add,a.cellAt b (by omega)];simp [List.getD,List.getElem?_eq_getElem (show b<bs.length by omega)]
def Rq.enc (q:Rq):List Int:=gn q.op q.k0 q.k1 q.k2 q.k3 q.k4 q.k5 q.k6 q.k7 q.kd q.x q.y q.n
def bY (qs:List Rq):List Int:=qs.flatMap Rq.enc
theorem vD (q:Rq):q.enc.length<=27:=by
 have:=mw q.op q.k0 q.k1 q.k2 q.k3 q.k4 q.k5 q.k6 q.k7 q.kd q.x q.y q.n;have a:=tM (b:=q.op);unfold Rq.enc;split at this <;> omega
theorem gO (qs:List Rq):(bY qs).length<=27 * qs.length:=by
 unfold bY;induction qs with
 | nil=>simp
 | cons a c b=>rw [List.flatMap_cons,List.length_append];have:=vD a;simp only [List.length_cons];omega
def ge (a:Nat->Nat)(c:Nat):List Value:=(List.range c).map fun b=>.pointer (some ⟨a b,0,none⟩)
theorem Sl.of_bytes (a:World)(S:ByteArray)(c:Nat)(h:S.size<=c):Sl ((a.alloc (.cells (bytesRow S c) 5 ((bytesRow S c).size,(bytesRow S c).size+1))).drew) (.slice (some ⟨a.heap.size,0,none⟩) S.size c) (aD S):=by
 have d:=bN S;by_cases f:S.size=0
 ·exact .inl ⟨List.eq_nil_of_length_eq_zero (by omega),.inr ⟨a.heap.size,0,c,by rw [f]⟩⟩
 ·refine .inr ⟨by omega,a.heap.size,0,c,by rw [d],by omega,by simp,?_⟩
  intro e g;show (a.alloc _).cell? ⟨a.heap.size,0+e,none⟩=_;rw [Nat.zero_add,World.cell?_alloc_mark];have b:e<S.data.size:=by simpa [d] using g
  unfold bytesRow aD;rw [Array.getElem?_append_left (by simpa using b)];simp only [List.getD,Array.getElem?_map,List.getElem?_map,Array.getElem?_toList,Array.getElem?_eq_getElem b,Option.map_some,Option.getD_some]
theorem gZ (S:ByteArray)(c:Nat):S.size<=(bytesRow S c).size:=by
 unfold bytesRow;rw [Array.size_append];simp
structure Wb (w3 wr:World)(b n:Nat):Prop where
 os:wr.os=w3.os
 tape:wr.tape=w3.tape
 output:wr.output=w3.output
 size:wr.heap.size=w3.heap.size
 blk:∀ k,k≠b->wr.heap[k]?=w3.heap[k]?
 cur:∃ cur fz,wr.heap[b]?=some (.cells cur 5 (fz,fz+1))/\n<=cur.size/\n<=fz
theorem Wb.step {e wr:World}{b n:Nat}(a:Wb e wr b n)(d:Nat)(u:Value):Wb e (wr.setCell ⟨b,d,none⟩ u) b n:=by
 obtain⟨k,f,g,h,i⟩:=a.cur;exact⟨a.os,a.tape,a.output,by rw [World.size_setCell];exact a.size,fun j c=>(ac c _ _).trans (a.blk j c),_,f,ai g d u,by simpa using h,i⟩
theorem Wb.cell {f wr:World}{b n:Nat}(e:Wb f wr b n)(a:Nat)(j:a<n):(∃ u,wr.cell? ⟨b,a,none⟩=some u)/\wr.frozen? ⟨b,a,none⟩=false:=by
 obtain⟨d,g,c,h,i⟩:=e.cur;refine⟨⟨d[a]'(by omega),by rw [ab c];simp⟩,?_⟩
 simp [World.frozen?,c];omega
def bp (c n:Int):Int:=(if c<0 then -(c+1) else c) % n
theorem gB (c n:Int)(a:0<n):0<=bp c n/\bp c n<n:=by
 unfold bp;exact⟨Int.emod_nonneg _ (by omega),Int.emod_lt_of_pos _ a⟩
theorem eU (a b:Int)(w:World)(j:U7 a)(k:U7 b) :
  Calls prog 151 #[.int .u64 a,.int .u64 b] w fun e w'=>e=.returned (.tuple #[.int .u64 (al (a+b)),.bool (decide (a+b<=18446744073709551615))])/\w'=w:=by
 have h:IntKind.u64.wrap (18446744073709551615 - b)=18446744073709551615 - b:=by rw [IntKind.wrap_u64];omega
 by_cases c:a+b<=18446744073709551615
 ·have i:IntKind.u64.wrap (a+b)=a+b:=by rw [IntKind.wrap_u64];omega
  have g:¬18446744073709551615 - b<a:=by omega
  have d:al (a+b)=a+b:=by unfold al;rw [if_pos c]
  have f:decide (a+b<=18446744073709551615)=true:=by simpa using c
  rw [d,f];clear d f c;go_enter func151,ntmps151
  go_wp2
  go_ret2
  exact⟨rfl,rfl⟩
 ·have g:18446744073709551615 - b<a:=by omega
  have d:al (a+b)=18446744073709551615:=by unfold al;rw [if_neg c]
  have f:decide (a+b<=18446744073709551615)=false:=by simpa using c
  rw [d,f];clear d f c;go_enter func151,ntmps151
  go_wp2
  go_ret2
  exact⟨rfl,rfl⟩
theorem lY (a b:Int)(w:World)(j:U7 a)(o:U7 b) :
  Calls prog 150 #[.int .u64 a,.int .u64 b] w fun e w'=>e=.returned (.tuple #[.int .u64 (al (a * b)),.bool (decide (a * b<=18446744073709551615))])/\w'=w:=by
 have i:0<=a * b:=Int.mul_nonneg j.1 o.1;by_cases n:a=0
 ·subst n;have c:al (0 * b)=0:=by unfold al;simp
  have d:decide (0 * b<=18446744073709551615)=true:=by simp
  rw [c,d];clear c d i;go_enter func150,ntmps150
  go_wp2
  go_ret2
  exact⟨rfl,rfl⟩
 ·have q:(18446744073709551615:Int).tdiv a=18446744073709551615 / a:=Int.tdiv_eq_ediv_of_nonneg (by omega);have k:0<=(18446744073709551615:Int) / a:=Int.ediv_nonneg (by omega) j.1;have l:(18446744073709551615:Int) / a<=18446744073709551615:=Int.ediv_le_self _ (by omega);have r:IntKind.u64.wrap (18446744073709551615 / a)=18446744073709551615 / a:=by rw [IntKind.wrap_u64];omega
  have g:a * b<=18446744073709551615↔b<=18446744073709551615 / a:=by
   rw [Int.le_ediv_iff_mul_le (by omega),Int.mul_comm]
  by_cases f:a * b<=18446744073709551615
  ·have p:IntKind.u64.wrap (a * b)=a * b:=by rw [IntKind.wrap_u64];omega
   have m:¬18446744073709551615 / a<b:=by have:=g.1 f;omega
   have c:al (a * b)=a * b:=by unfold al;rw [if_pos f]
   have d:decide (a * b<=18446744073709551615)=true:=by simpa using f
   rw [c,d];clear c d f g k l i;go_enter func150,ntmps150
   go_wp2
   go_ret2
   exact⟨rfl,rfl⟩
  ·have m:18446744073709551615 / a<b:=by
    rcases Int.lt_or_le (18446744073709551615 / a) b with h | h
    ·exact h
    ·exact absurd (g.2 h) f
   have c:al (a * b)=18446744073709551615:=by unfold al;rw [if_neg f]
   have d:decide (a * b<=18446744073709551615)=false:=by simpa using f
   rw [c,d];clear c d f g k l i;go_enter func150,ntmps150
   go_wp2
   go_ret2
   exact⟨rfl,rfl⟩
def jj (l:Ln):List Value:=[.int .u8 l.k.k0,.int .u8 l.k.k1,.int .u8 l.k.k2,.int .u8 l.k.k3,.int .u8 l.k.k4,.int .u8 l.k.k5,.int .u8 l.k.k6,.int .u8 l.k.k7,.int .u8 l.kd,.int .u64 l.x,.int .u64 l.y,.int .u64 l.at_,.int .u64 l.in_]
def bW (a:List Ln):List Value:=a.flatMap jj
theorem jb9 (a:Nat)(e:a<13):∀ (c:List Ln) (i:Nat) (b:i<c.length),(bW c)[i * 13+a]?=(jj c[i])[a]?:=by
 intro g;induction g with
 | nil=>intro i b;simp at b
 | cons h j f=>
  intro i b;unfold bW;rw [List.flatMap_cons];cases i with
  | zero=>
   rw [Nat.zero_mul,Nat.zero_add,List.getElem?_append_left (by simpa [jj] using e)];rfl
  | succ i=>
   rw [List.getElem?_append_right (by simp [jj];omega)];have d:(i+1) * 13+a - (jj h).length=i * 13+a:=by simp [jj];omega
   rw [d];exact f i (by simpa using b)
theorem qO (a:List Ln):(bW a).length=a.length * 13:=by
 unfold bW;induction a with
 | nil=>rfl
 | cons c d b=>rw [List.flatMap_cons,List.length_append,b];simp [jj];omega
structure an (w:World)(bb base:Nat)(lv:Value)(B:Bk):Prop where
 hb:w.heap[bb]?=some (ur lv B.time)
 ho:w.ownsRow base 151 13 lv B.ls.length (bW B.ls)
theorem an.cells {w:World}{d base g e:Nat}{B:Bk}{n:Nat}(b:an w d base (.slice (some ⟨g,0,none⟩) n e) B)(i:Nat)(j:i<B.ls.length)(a:Nat)(k:a<13):w.cell? ⟨g,i * 13+a,none⟩=(jj B.ls[i])[a]?:=by
 obtain⟨l,m,f⟩:=aw b.ho;injection f with o h p;have c:=b.ho;rw [h] at c;rw [c.cellAt (i * 13+a) (by omega),jb9 a k B.ls i j]
def eu (k:Ky)(b:List Ln):Int:=match du k b with | none=>-1 | some a=>a
theorem ju {k:Ky}:∀ {b:List Ln}{i:Nat},du k b=some i->i<b.length
 | [],_,a=>by simp [du] at a
 | l :: r,i,a=>by
  unfold du at a;split at a
  ·injection a with a;subst a;simp
  ·obtain⟨d,c,rfl⟩:=Option.map_eq_some_iff.1 a;have:=ju c;simp only [List.length_cons];omega
theorem kX {k:Ky}:∀ (c:List Ln) (i:Nat),(∀ b (a:b<c.length),b<i->c[b].k≠k)->(a:i<c.length)->(c[i].k=k->du k c=some i)
 | [],i,_,a,_=>by simp at a
 | l :: r,i,hn,a,he=>by
  unfold du;cases i with
  | zero=>rw [if_pos (by simpa using he)]
  | succ i=>
   rw [if_neg (by have:=hn 0 (by simp) (by omega);simpa using this)];rw [kX r i (fun b d e=>by have:=hn (b+1) (by simp;omega) (by omega);simpa using this) (by simpa using a) (by simpa using he)];rfl
theorem jbX {k:Ky}:∀ (b:List Ln),(∀ a (c:a<b.length),b[a].k≠k)->du k b=none
 | [],_=>rfl
 | l :: r,hn=>by
  unfold du;rw [if_neg (by have:=hn 0 (by simp);simpa using this),jbX r (fun a d=>by have:=hn (a+1) (by simp;omega);simpa using this)];rfl
theorem iV (a b:Ky)(w:World):(Op.equalIn 10000 63 (om a) (om b)).run prog w=.ok (decide (a=b)) w:=by
 have t:=underlying5;have h:=isAgg5;have u:=sizeOf5;obtain⟨c,d,e,f,g,i,j,k⟩:=a;obtain⟨l,m,n,o,p,q,r,s⟩:=b;rw [show (10000:Nat)=9999+1 from rfl,Op.equalIn];simp only [Sem.run_bind,run_underlying underlying63,Result.andThen_ok];simp only [Std.Legacy.Range.forIn_eq_forIn_range',Std.Legacy.Range.size,Nat.sub_zero,Nat.add_sub_cancel,Nat.div_one,List.range'_succ,List.range'_zero,List.forIn_cons,List.forIn_nil];go_simp
 repeat' split
 all_goals simp_all
theorem dX (n base:Nat)(Y:Value)(B:Bk)(k:Ky)(w:World)(c:an w n base Y B)(D:B.ls.length<=12) :
  Calls prog 89 #[pO n 0,om k] w fun e w'=>e=.returned (.int .i64 (eu k B.ls))/\B7 w w':=by
 obtain⟨ad,ao,rfl⟩:=aw c.ho;have v:=ab c.hb;have l:=aa c;have Z:=aa D;have a3:(B.ls.length:Int)<=12:=by omega
 clear c D;obtain⟨f,o⟩:∃ f,f=w.alloc (ol k):=⟨_,rfl⟩;have A:f.heap[w.heap.size]?=some (ol k):=o▸af _ _;have z:B7 w f:=o▸ba w;have U:=z.size;go_enter func89,ntmps89
 go_wp2
 rw [<-o];go_loopw [5] (fun s wr=>∃ b:Nat,b<=B.ls.length/\s=.int .i64 b/\(∀ a (c:a<B.ls.length),a<b->B.ls[a].k≠k)/\B7 f wr) (fun s _=>B.ls.length - (intOf s).toNat)
 case atStart=>exact⟨0,Nat.zero_le _,rfl,fun a _ c=>absurd c (Nat.not_lt_zero _),Below.refl _ _⟩
 case round=>
  obtain⟨b,a1,rfl,r,m⟩:=hrel;have i:B7 w wr:=z.trans (m.mono U);have J:=(i.block n (am l.out.hb)).trans l.out.hb;have K:=(m.block _ (am A)).trans A;have av:=ab J;by_cases E:b<B.ls.length
  ·obtain⟨y,a0,X,_,V⟩:=l.out.ho.form (by omega);injection X with S _ T;subst S T;obtain⟨j,q⟩:∃ j,j=B.ls[b]:=⟨_,rfl⟩;have d:∀ a,a<13->wr.cell? ⟨y,b * 13+a,none⟩=(jj j)[a]?:=fun a g=>(i.cell (p:=⟨y,b * 13+a,none⟩) V).trans (by rw [q];exact l.out.cells b E a g);have x:=d 0 (by omega);have L:=d 1 (by omega);have M:=d 2 (by omega);have N:=d 3 (by omega);have O:=d 4 (by omega);have P:=d 5 (by omega);have Q:=d 6 (by omega);have R:=d 7 (by omega);rw [Nat.add_zero] at x;simp only [jj,List.getElem?_cons_zero,List.getElem?_cons_succ] at x L M N O P Q R;have a4:=ab K;have W:(b:Int)<(B.ls.length:Int):=by omega
   have u:=aa r;have t:=aa q;have G:=aa i;have F:=aa m;clear r q i m d v;have C:=iV j.k k;by_cases h:j.k=k
   ·rw [decide_eq_true h] at C;have H:=aa h;clear h;go_wp2_with fail
    go_region
    all_goals go_wp2
    all_goals go_ret
    all_goals refine⟨?_,G.out.drew⟩
    all_goals unfold eu
    all_goals rw [kX B.ls b u.out E (by rw [<-t.out];exact H.out)]
    all_goals rfl
   ·rw [decide_eq_false h] at C;have I:Hid (∀ a (c:a<B.ls.length),a<b+1->B.ls[a].k≠k):=aa (fun a g a2=>by
      rcases Nat.lt_or_ge a b with c | c
      · exact u.out a g c
      · have e:a=b:=by omega
        subst e;rw [<-t.out];exact h)
    clear h;go_wp2_with fail
    go_region
    all_goals go_wp2
    all_goals go_roundw
    all_goals first | (exact⟨b+1,by omega,by go_num,I.out,F.out.drew⟩) | (simp [intOf];omega)
  ·obtain rfl:b=B.ls.length:=by omega
   have W:¬(B.ls.length:Int)<(B.ls.length:Int):=by omega
   clear v;go_wp2
   go_ret
   refine⟨?_,i⟩
   unfold eu;rw [jbX B.ls (fun a g=>r a g g)];rfl
structure Ln.ok (l:Ln):Prop where
 kd:cM l.kd l.x l.y
 x:U7 l.x
 y:U7 l.y
 at_:U7 l.at_
 in_:U7 l.in_
theorem Ln.ok.yp {l:Ln}(a:l.ok)(b:¬l.kd=1):1<=l.y:=by rcases a.kd with a | a;exact absurd a.1 b;exact a.2
structure LnAt (w:World)(g i:Nat)(l:Ln):Prop where
 c0:w.cell? ⟨g,i * 13,none⟩=some (.int .u8 l.k.k0)
 c1:w.cell? ⟨g,i * 13+1,none⟩=some (.int .u8 l.k.k1)
 c2:w.cell? ⟨g,i * 13+2,none⟩=some (.int .u8 l.k.k2)
 c3:w.cell? ⟨g,i * 13+3,none⟩=some (.int .u8 l.k.k3)
 c4:w.cell? ⟨g,i * 13+4,none⟩=some (.int .u8 l.k.k4)
 c5:w.cell? ⟨g,i * 13+5,none⟩=some (.int .u8 l.k.k5)
 c6:w.cell? ⟨g,i * 13+6,none⟩=some (.int .u8 l.k.k6)
 c7:w.cell? ⟨g,i * 13+7,none⟩=some (.int .u8 l.k.k7)
 c8:w.cell? ⟨g,i * 13+8,none⟩=some (.int .u8 l.kd)
 c9:w.cell? ⟨g,i * 13+9,none⟩=some (.int .u64 l.x)
 c10:w.cell? ⟨g,i * 13+10,none⟩=some (.int .u64 l.y)
 c11:w.cell? ⟨g,i * 13+11,none⟩=some (.int .u64 l.at_)
 c12:w.cell? ⟨g,i * 13+12,none⟩=some (.int .u64 l.in_)
theorem an.line {w:World}{b base g c n:Nat}{B:Bk}(d:an w b base (.slice (some ⟨g,0,none⟩) n c) B){i:Nat}{l:Ln}(e:B.ls[i]?=some l):LnAt w g i l:=by
 obtain⟨f,rfl⟩:=List.getElem?_eq_some_iff.1 e;have a:=d.cells i f;exact⟨a 0 (by omega),a 1 (by omega),a 2 (by omega),a 3 (by omega),a 4 (by omega),a 5 (by omega),a 6 (by omega),a 7 (by omega),a 8 (by omega),a 9 (by omega),a 10 (by omega),a 11 (by omega),a 12 (by omega)⟩
theorem an.open {w:World}{e base:Nat}{d:Value}{B:Bk}(b:an w e base d B){i:Nat}{l:Ln}(c:B.ls[i]?=some l):∃ g a,d=.slice (some ⟨g,0,none⟩) B.ls.length a/\base<=g/\g<w.heap.size/\LnAt w g i l/\i<B.ls.length:=by
 have j:=(List.getElem?_eq_some_iff.1 c).1;obtain⟨g,a,k,f,h⟩:=b.ho.form (by omega);subst k;exact⟨g,a,rfl,f,h,b.line c,j⟩
theorem lT (h base:Nat)(D:Value)(B:Bk)(i:Nat)(l:Ln)(w:World)(b:an w h base D B)(o:B.ls[i]?=some l)(x:B.ls.length<=12)(C:l.ok)(U:U7 B.time) :
  Calls prog 90 #[pO h 0,.int .i64 i] w fun e w'=>e=.returned (.tuple #[.int .u64 (aP B.time l).1,.int .u64 (aP B.time l).2])/\B7 w w':=by
 obtain⟨T,G,rfl,_,W,r,z⟩:=b.open o;obtain⟨H,I,M,N,O,P,Q,R,u,S,J,K,L⟩:=r;have s:=ab b.hb;have V:=am b.hb;have A:(i:Int)<(B.ls.length:Int):=by omega
 have y:(B.ls.length:Int)<=12:=by omega
 have X:(0:Int)<=(i:Int):=by omega
 obtain⟨q,p⟩:∃ q,q=B.ls.length:=⟨_,rfl⟩;have t:=fun E=>ce b.hb E 1;rw [<-p] at A y s t;have F:=aa b;have g:=aa C;clear b x o p z;by_cases c:l.kd=1
 ·have e:aP B.time l=(l.at_,0):=by unfold aP;rw [if_pos c]
  rw [e];rw [c] at u;clear e;go_enter func90,ntmps90
  go_wp2_with fail
  go_ret2
  exact⟨rfl,ba w⟩
 ·have Z:=g.out.yp c;have ao:=g.out.y;have Y:(l.kd==1)=false:=by simpa using c
  have m:B.time.tdiv l.y=B.time / l.y:=Int.tdiv_eq_ediv_of_nonneg (by omega);have j:0<=B.time / l.y:=Int.ediv_nonneg (by omega) (by omega);have k:B.time / l.y<=B.time:=Int.ediv_le_self _ (by omega);have n:IntKind.u64.wrap (B.time / l.y)=B.time / l.y:=by rw [IntKind.wrap_u64];omega
  have ad:¬l.y=0:=by omega
  obtain⟨f,d⟩:∃ f,f=B.time / l.y:=⟨_,rfl⟩;by_cases a:l.in_=B.time / l.y
  ·have e:aP B.time l=(l.at_,f):=by unfold aP;rw [if_neg c,if_pos a,d]
   rw [e];rw [<-d] at m n a;have v:(l.in_==f)=true:=by simpa using a
   clear e j k a d;go_enter func90,ntmps90
   go_wp2_with fail
   go_region
   all_goals go_wp2
   all_goals go_ret2
   all_goals exact⟨rfl,(ba w).drew⟩
  ·have e:aP B.time l=(0,f):=by unfold aP;rw [if_neg c,if_neg a,d]
   rw [e];rw [<-d] at m n a;have v:(l.in_==f)=false:=by simpa using a
   clear e j k a d;go_enter func90,ntmps90
   go_wp2_with fail
   go_region
   all_goals go_wp2
   all_goals go_ret2
   all_goals exact⟨rfl,(ba w).drew⟩
theorem an.kept {w w':World}{a base:Nat}{b:Value}{B:Bk}(c:an w a base b B)(d:∀ k,k=a\/b.ownBlock=some k->w'.heap[k]?=w.heap[k]?):an w' a base b B:=
 ⟨(d a (il rfl)).trans c.hb,aq c.ho (fun e f=>d e (ir f))⟩
theorem an.below {w w':World}{c base:Nat}{d:Value}{B:Bk}(a:an w c base d B){N:Nat}(f:Below N w w')(e:w.heap.size<=N):an w' c base d B:=
 a.kept (fun g b=>f.block g (ll (by rcases b with rfl | b;exact am a.hb;exact (aj a.ho b).2) e))
def fW (B:Bk)(a:Int):Bk:=⟨if B.time<a then a else B.time,B.ls⟩
theorem jfU (c base:Nat)(j:Value)(B:Bk)(d:Int)(w:World)(a:an w c base j B) :
  Calls prog 54 #[pO c 0,.int .u64 d] w fun e w'=>e=.returned (.tuple #[])/\an w' c base j (fW B d)/\ae (fun b=>b=c) w w':=by
 have n:=ab a.hb;have o:=ag a.hb;have i:∀ f,j.ownBlock=some f->f≠c:=fun f h=>ax a.ho h a.hb (by decide);obtain⟨m,p,rfl⟩:=aw a.ho;by_cases k:B.time<d
 ·have e:fW B d=⟨d,B.ls⟩:=by unfold fW;rw [if_pos k]
  rw [e];have g:=aa a;have l:=aa i;clear a i e;go_enter func54,ntmps54
  go_wp2
  go_end0
  refine⟨rfl,⟨by simpa using ai g.out.hb 1 (.int .u64 d),aq g.out.ho (fun f h=>ac (l.out f h) _ _)⟩,?_⟩
  exact ae.set (S:=fun b=>b=c) (b:=c) (ae.refl _ w) (il rfl) _ _
 ·have e:fW B d=B:=by unfold fW;rw [if_neg k]
  rw [e];have g:=aa a;clear a i e;go_enter func54,ntmps54
  go_wp2
  go_end0
  exact⟨rfl,g.out,ae.refl _ _⟩
structure Bk.ok (B:Bk):Prop where
 time:U7 B.time
 len:B.ls.length<=12
 ln:∀ l∈B.ls,l.ok
abbrev rqv (q:Rq):Value:=(oj q)
def aQ (c base:Nat)(d:Value)(B:Bk)(q:Rq)(w:World)(e:Ending)(w':World):Prop:=
 ∃ f,e=.returned (ot (bB B q).2.c (bB B q).2.a (bB B q).2.b)/\an w' c base f (bB B q).1/\ae (fun b=>b=c\/d.ownBlock=some b) w w'/\(∀ a,f.ownBlock=some a->d.ownBlock=some a\/w.heap.size<=a)
theorem aQ.mk' {w u:World}{e base:Nat}{j f:Value}{B k:Bk}{q:Rq}{c a b:Int}{R:Nat}(n:an u e base f k)(l:bB B q=(k,⟨c,a,b⟩))(h:w.heap.size<=R)(o:e≠R)(p:∀ g,f.ownBlock=some g->g≠R)(d:ae (fun b=>b=e\/j.ownBlock=some b) w u)(r:∀ g,f.ownBlock=some g->j.ownBlock=some g\/w.heap.size<=g) :
  aQ e base j B q w (.returned (ot c a b)) (((u.setCell ⟨R,0,none⟩ (.int .u8 c)).setCell ⟨R,1,none⟩ (.int .u64 a)).setCell ⟨R,2,none⟩ (.int .u64 b)):=by
 refine⟨f,by rw [l],?_,((d.set (ir h) _ _).set (ir h) _ _).set (ir h) _ _,r⟩
 rw [l];refine n.kept (fun m d=>?_)
 have i:m≠R:=by
  rcases d with rfl | d
  ·exact o
  ·exact p m d
 rw [ac i,ac i,ac i]
theorem jdi (b base:Nat)(l:Value)(B:Bk)(q:Rq)(w:World)(f:an w b base l B)(g:B.ok)(Q:q.ok)(j:q.op=5) :
  Calls prog 61 #[pO b 0,rqv q] w (aQ b base l B q w):=by
 obtain⟨a,e⟩:∃ a,a=(w.alloc (oh q)).alloc (og):=⟨_,rfl⟩;have z:a.heap[w.heap.size]?=some (oh q):=e▸aB (af _ _) _;have A:a.heap[w.heap.size+1]?=some (og):=e▸aC (by simp);have o:B7 w a:=e▸(ba w).alloc (by simp) _;have n:=f.below o lz;have U:=am f.hb;have x:∀ c,l.ownBlock=some c->c<w.heap.size:=fun c i=>(aj f.ho i).2;have d:=dX b base l B q.key a n g.len;have V:=g.len;have S:=g.time;have u:bB B q=(B,⟨1,0,0⟩):=by unfold bB;rw [if_neg (by omega),if_pos j]
 have H:=aa u;clear u;have D:=aa d;have F:=aa n;have s:=aa z;have t:=aa A;have r:=aa o;have I:=aa x;have M:=aa g;have N:=aa f;clear d n z A o x g f;have J:=aa j;clear j;go_enter func61,ntmps61
 go_wp2_with fail
 have d:=D.out;rw [e] at d;refine d.mono ?_
 rw [<-e];rintro R W ⟨rfl,h⟩;have m:=F.out.below h lz;have p:=(h.block _ (am s.out)).trans s.out;have k:=(h.block _ (am t.out)).trans t.out;have X:=ab p;have L:=ab k;have Y:=ag k;have Z:=ab m.hb;have E:=aa m;have P:=aa k;have O:=aa p;have G:=aa (r.out.trans (h.mono r.out.size));have K:b≠w.heap.size+1:=by omega
 have T:w.heap.size+1≠b:=by omega
 clear d e m p k h;have j:=J.out;obtain⟨C,y⟩:∃ C,C=eu q.key B.ls:=⟨_,rfl⟩;rw [<-y];clear y;go_wp2_with fail
 exact bodyPost_ret (v:=oS) (by simp [results,results61,go_sem,L]) rfl (aQ.mk' E.out H.out (Nat.le_succ _) K (fun c i=>by have:=I.out c i;omega) (ae.of_below G.out) (fun c i=>il i))
theorem jdj (b base:Nat)(l:Value)(B:Bk)(q:Rq)(w:World)(f:an w b base l B)(g:B.ok)(Q:q.ok)(j:q.op=6) :
  Calls prog 61 #[pO b 0,rqv q] w (aQ b base l B q w):=by
 obtain⟨a,e⟩:∃ a,a=(w.alloc (oh q)).alloc (og):=⟨_,rfl⟩;have z:a.heap[w.heap.size]?=some (oh q):=e▸aB (af _ _) _;have A:a.heap[w.heap.size+1]?=some (og):=e▸aC (by simp);have o:B7 w a:=e▸(ba w).alloc (by simp) _;have n:=f.below o lz;have U:=am f.hb;have x:∀ c,l.ownBlock=some c->c<w.heap.size:=fun c i=>(aj f.ho i).2;have d:=dX b base l B q.key a n g.len;have V:=g.len;have S:=g.time;have u:bB B q=(B,⟨1,B.time,0⟩):=by unfold bB;rw [if_neg (by omega),if_neg (by omega),if_pos j]
 have H:=aa u;clear u;have D:=aa d;have F:=aa n;have s:=aa z;have t:=aa A;have r:=aa o;have I:=aa x;have M:=aa g;have N:=aa f;clear d n z A o x g f;have J:=aa j;clear j;go_enter func61,ntmps61
 go_wp2_with fail
 have d:=D.out;rw [e] at d;refine d.mono ?_
 rw [<-e];rintro R W ⟨rfl,h⟩;have m:=F.out.below h lz;have p:=(h.block _ (am s.out)).trans s.out;have k:=(h.block _ (am t.out)).trans t.out;have X:=ab p;have L:=ab k;have Y:=ag k;have Z:=ab m.hb;have E:=aa m;have P:=aa k;have O:=aa p;have G:=aa (r.out.trans (h.mono r.out.size));have K:b≠w.heap.size+1:=by omega
 have T:w.heap.size+1≠b:=by omega
 clear d e m p k h;have j:=J.out;obtain⟨C,y⟩:∃ C,C=eu q.key B.ls:=⟨_,rfl⟩;rw [<-y];clear y;go_wp2_with fail
 exact bodyPost_ret (v:=(us B.time)) (by simp [results,results61,go_sem,L]) rfl (aQ.mk' E.out H.out (Nat.le_succ _) K (fun c i=>by have:=I.out c i;omega) (ae.of_below G.out) (fun c i=>il i))
theorem kD (c base:Nat)(k:Value)(B:Bk)(q:Rq)(w:World)(f:an w c base k B)(g:B.ok)(P:q.ok)(J:q.op=2\/q.op=3\/q.op=4)(o:du q.key B.ls=none) :
  Calls prog 61 #[pO c 0,rqv q] w (aQ c base k B q w):=by
 obtain⟨b,e⟩:∃ b,b=(w.alloc (oh q)).alloc (og):=⟨_,rfl⟩;have z:b.heap[w.heap.size]?=some (oh q):=e▸aB (af _ _) _;have A:b.heap[w.heap.size+1]?=some (og):=e▸aC (by simp);have n:B7 w b:=e▸(ba w).alloc (by simp) _;have m:=f.below n lz;have T:=am f.hb;have x:∀ d,k.ownBlock=some d->d<w.heap.size:=fun d i=>(aj f.ho i).2;have a:=dX c base k B q.key b m g.len;have U:=g.len;have R:=g.time;have u:bB B q=(B,⟨4,0,0⟩):=by unfold bB;rw [if_neg (by omega),if_neg (by omega),if_neg (by omega),o]
 have y:eu q.key B.ls=-1:=by unfold eu;rw [o]
 rw [y] at a;have G:=aa u;have V:(q.op==1)=false:=by simp;omega
 have W:(q.op==5)=false:=by simp;omega
 have X:(q.op==6)=false:=by simp;omega
 have Y:¬q.op=1:=by omega
 have Z:¬q.op=5:=by omega
 have ad:¬q.op=6:=by omega
 clear u o y J;have C:=aa a;have E:=aa m;have s:=aa z;have t:=aa A;have r:=aa n;have H:=aa x;have L:=aa g;have M:=aa f;clear a m z A n x g f;go_enter func61,ntmps61
 go_wp2_with fail
 have a:=C.out;rw [e] at a;refine a.mono ?_
 rw [<-e];rintro Q ao ⟨rfl,h⟩;have l:=E.out.below h lz;have p:=(h.block _ (am s.out)).trans s.out;have j:=(h.block _ (am t.out)).trans t.out;have av:=ab p;have K:=ab j;have a0:=ag j;have a1:=ab l.hb;have D:=aa l;have O:=aa j;have N:=aa p;have F:=aa (r.out.trans (h.mono r.out.size));have I:c≠w.heap.size+1:=by omega
 have S:w.heap.size+1≠c:=by omega
 clear a e l p j h;go_wp2_with fail
 exact bodyPost_ret (v:=OP) (by simp [results,results61,go_sem,K]) rfl (aQ.mk' D.out G.out (Nat.le_succ _) I (fun d i=>by have:=H.out d i;omega) (ae.of_below F.out) (fun d i=>il i))
theorem jdg (b base:Nat)(m:Value)(B:Bk)(q:Rq)(w:World)(h:an w b base m B)(f:B.ok)(bi:q.ok)(p:q.op=3)(i:Nat)(l:du q.key B.ls=some i) :
  Calls prog 61 #[pO b 0,rqv q] w (aQ b base m B q w):=by
 obtain⟨d,g⟩:∃ d,d=(w.alloc (oh q)).alloc (og):=⟨_,rfl⟩;have O:d.heap[w.heap.size]?=some (oh q):=g▸aB (af _ _) _;have P:d.heap[w.heap.size+1]?=some (og):=g▸aC (by simp);have x:B7 w d:=g▸(ba w).alloc (by simp) _;have u:=h.below x lz;have bk:=am h.hb;have L:∀ e,m.ownBlock=some e->e<w.heap.size:=fun e k=>(aj h.ho k).2;have c:=dX b base m B q.key d u f.len;have a2:=f.len;have a0:=f.time;obtain⟨a,o⟩:∃ a,B.ls[i]?=some a:=⟨_,List.getElem?_eq_getElem (ju l)⟩;have K:B.ls.getD i ⟨q.key,0,0,0,0,0⟩=a:=by simp [List.getD,o]
 have J:bB B q=(B,⟨1,(aP B.time a).1,(aP B.time a).2⟩):=by unfold bB;rw [if_neg (by omega),if_neg (by omega),if_neg (by omega),l];dsimp only;rw [if_pos p,K]
 have M:eu q.key B.ls=(i:Int):=by unfold eu;rw [l]
 rw [M] at c;have bo:(i:Int)<=12:=by have:=ju l;omega
 have bl:(0:Int)<=(i:Int):=by omega
 have bs:¬(i:Int)<0:=by omega
 have N:=f.ln a (List.mem_of_getElem? o);have W:=aa J;have Z:=aa o;have ad:=aa N;clear J l M K o N;have S:=aa c;have U:=aa u;have G:=aa O;have H:=aa P;have F:=aa x;have Y:=aa L;have bb:=aa f;have bd:=aa h;clear c u O P x L f h;have ao:=aa p;clear p;go_enter func61,ntmps61
 go_wp2_with fail
 have c:=S.out;rw [g] at c;refine c.mono ?_
 rw [<-g];rintro av a4 ⟨rfl,j⟩;have t:=U.out.below j lz;have y:=(j.block _ (am G.out)).trans G.out;have r:=(j.block _ (am H.out)).trans H.out;have a5:=ab y;have a6:=ab r;have a7:=ag r;have a8:=ab t.hb;have D:=aa t;have I:=aa r;have bg:=aa y;have E:=aa (F.out.trans (j.mono F.out.size));have a1:b≠w.heap.size+1:=by omega
 have bj:w.heap.size+1≠b:=by omega
 clear c g t y r j;have p:=ao.out;go_wp2_with fail
 refine (lT b base m B i a _ D.out Z.out a2 ad.out a0).mono ?_
 rintro av bu ⟨rfl,n⟩;obtain⟨A,Q⟩:∃ A,A=(aP B.time a).1:=⟨_,rfl⟩;obtain⟨C,R⟩:∃ C,C=(aP B.time a).2:=⟨_,rfl⟩;have s:=W.out;rw [<-Q,<-R] at s ⊢;have X:=aa s;have a3:w.heap.size+1<a4.heap.size:=am I.out;have z:=(n.block _ a3).trans I.out;have a9:=ab z;have bv:=ag z;have T:=aa (D.out.below n lz);have V:=aa (E.out.trans (n.mono E.out.size));clear a5 a6 a7 a8 s Q R n z;go_wp2_with fail
 exact bodyPost_ret (v:=(um A C)) (by simp [results,results61,go_sem,a9]) rfl (aQ.mk' T.out X.out (Nat.le_succ _) a1 (fun e k=>by have:=Y.out e k;omega) (ae.of_below V.out) (fun e k=>il k))
theorem rM (O base:Nat)(bl:Value)(B:Bk)(i:Nat)(l:Ln)(n:Int)(w:World)(p:an w O base bl B)(W:B.ls[i]?=some l)(a8:B.ls.length<=12)(x:l.ok)(X:¬l.kd=1)(cn:U7 n)(b9:U7 B.time) :
  Calls prog 123 #[pO O 0,.int .i64 i,.int .u64 n] w fun e w'=>e=.returned (.tuple #[.int .u64 (cW B.time l n).1,.bool (cW B.time l n).2.1,.int .u64 (cW B.time l n).2.2])/\B7 w w':=by
 obtain⟨A,L⟩:∃ A,A=w.alloc (oy l):=⟨_,rfl⟩;have a6:A.heap[w.heap.size]?=some (oy l):=L▸af _ _;have R:B7 w A:=L▸ba w;have a5:=p.below R lz;have Q:=lT O base bl B i l A a5 W a8 x b9;obtain⟨ct,cs,rfl,_,cv,bv,ck⟩:=p.open W;obtain⟨bw,bz,b1,b2,b3,b4,b5,b6,b7,b8,bF,bK,b0⟩:=bv;have a3:=ab p.hb 0;have cl:(i:Int)<(B.ls.length:Int):=by omega
 have ci:(B.ls.length:Int)<=12:=by omega
 have cw:(0:Int)<=(i:Int):=by omega
 have cx:=x.x;have cy:=x.y;have bk:=x.yp X;have ad:(aP B.time l).2=B.time / l.y:=by unfold aP;rw [if_neg X];split <;> rfl
 have bg:U7 (aP B.time l).1:=by
  have:=x.at_;unfold aP;rw [if_neg X];split <;> dsimp only <;> omega
 have cb:0<=B.time / l.y:=Int.ediv_nonneg (by omega) (by omega);have cc:B.time / l.y<=B.time:=Int.ediv_le_self _ (by omega);have ao:cW B.time l n=if (aP B.time l).1+n<=l.x then ((aP B.time l).1+n,true,0) else if l.x<n then (0,false,18446744073709551615) else (0,false,al (((aP B.time l).2+1) * l.y)):=by
  unfold cW;rw [ad]
 obtain⟨f,S⟩:∃ f,f=(aP B.time l).1:=⟨_,rfl⟩;obtain⟨a,U⟩:∃ a,a=(aP B.time l).2:=⟨_,rfl⟩;rw [<-S,<-U] at Q ao;rw [<-S] at bg;have bj:U7 a:=by rw [U,ad];omega
 obtain⟨bo,a9⟩:∃ bo,bo=B.ls.length:=⟨_,rfl⟩;rw [<-a9] at cl ci a3;have bb:=eU f n;have bd:=eU a 1;have bi:=lY (al (a+1)) l.y;have bs:=aa Q;have s:=aa ao;have av:=aa R;have a0:=aa a6;have bu:=aa bb;have a1:=aa bd;have a2:=aa bi;clear Q ao R a6 bb bd bi S U a9 W a8 ck a5 p x ad cb cc;go_enter func123,ntmps123
 go_wp2_with fail
 rw [<-L];clear L;refine bs.out.mono ?_
 rintro e cz ⟨rfl,V⟩;have a7:=(V.block _ (am a0.out)).trans a0.out;have cG:=ab a7;have k:=aa (av.out.trans (V.mono av.out.size));clear V a7 bw bz b1 b2 b3 b4 b5 b6 b7 b8 bF bK b0 a3;go_wp2_with fail
 refine (bu.out _ bg cn).mono ?_
 rintro e cF ⟨rfl,rfl⟩;by_cases t:f+n<=l.x
 ·have e:=s.out;rw [if_pos t] at e;have g:=aa e;have d:al (f+n)=f+n:=by unfold al;rw [if_pos (by omega)]
  have j:decide (f+n<=18446744073709551615)=true:=by simp;omega
  rw [d,j];clear e d j s;go_wp2
  exact bodyPost_ret (v:=.tuple #[.int .u64 (f+n),.bool true,.int .u64 0]) (by simp [results,results123,go_sem]) rfl ⟨by rw [g.out],k.out⟩
 ·obtain⟨I,Z⟩:∃ I,I=decide (f+n<=18446744073709551615):=⟨_,rfl⟩;obtain⟨N,T⟩:∃ N,N=al (f+n):=⟨_,rfl⟩;have u:I=true->¬N<=l.x:=fun p=>by
   rw [Z] at p;have:=of_decide_eq_true p;rw [T];unfold al;rw [if_pos this];exact t
  rw [<-Z,<-T];clear Z T;by_cases a4:l.x<n
  ·have e:=s.out;rw [if_neg t,if_pos a4] at e;have g:=aa e;clear e s t;cases I with
   | true=>
    have cp:=u rfl;clear u;go_wp2
    exact bodyPost_ret (v:=.tuple #[.int .u64 0,.bool false,.int .u64 18446744073709551615]) (by simp [results,results123,go_sem]) rfl ⟨by rw [g.out],k.out⟩
   | false=>
    clear u;go_wp2
    exact bodyPost_ret (v:=.tuple #[.int .u64 0,.bool false,.int .u64 18446744073709551615]) (by simp [results,results123,go_sem]) rfl ⟨by rw [g.out],k.out⟩
  ·have e:=s.out;rw [if_neg t,if_neg a4] at e;have g:=aa e;have M:0<=al (a+1)/\al (a+1)<=18446744073709551615:=by unfold al;split <;> omega
   clear e s t;cases I with
   | true=>
    have cp:=u rfl;clear u;go_wp2_with fail
    refine (a1.out _ bj (by omega)).mono ?_
    rintro e cq ⟨rfl,rfl⟩;go_wp2_with fail
    refine (a2.out _ M (by omega)).mono ?_
    rintro e cr ⟨rfl,rfl⟩;by_cases c:a+1<=18446744073709551615/\(a+1) * l.y<=18446744073709551615
    ·have d:al (a+1)=a+1:=by unfold al;rw [if_pos c.1]
     have j:decide (a+1<=18446744073709551615)=true:=by simpa using c.1
     have C:decide ((a+1) * l.y<=18446744073709551615)=true:=by simpa using c.2
     rw [d,j,C];clear d j C c;obtain⟨o,E⟩:∃ o,o=al ((a+1) * l.y):=⟨_,rfl⟩;have b:=g.out;rw [<-E] at b ⊢;have m:=aa b;clear b E;go_wp2
     exact bodyPost_ret (v:=.tuple #[.int .u64 0,.bool false,.int .u64 o]) (by simp [results,results123,go_sem]) rfl ⟨by rw [m.out],k.out⟩
    ·have D:al ((a+1) * l.y)=18446744073709551615:=by
      unfold al;split
      ·rename_i Y
       have ch:(a+1) * 1<=(a+1) * l.y:=Int.mul_le_mul_of_nonneg_left bk (by omega);exact absurd ⟨by omega,Y⟩ c
      ·rfl
     have b:=g.out;rw [D] at b;have m:=aa b;have H:decide (a+1<=18446744073709551615)=false\/(decide (a+1<=18446744073709551615)=true/\decide (al (a+1) * l.y<=18446744073709551615)=false):=by
      by_cases h:a+1<=18446744073709551615
      ·right
       refine⟨by simpa using h,?_⟩
       have d:al (a+1)=a+1:=by unfold al;rw [if_pos h]
       rw [d];simpa using fun P=>c ⟨h,P⟩
      ·left;simpa using h
     obtain⟨J,q⟩:∃ J,J=decide (a+1<=18446744073709551615):=⟨_,rfl⟩;obtain⟨K,r⟩:∃ K,K=decide (al (a+1) * l.y<=18446744073709551615):=⟨_,rfl⟩;obtain⟨y,F⟩:∃ y,y=al (al (a+1) * l.y):=⟨_,rfl⟩;obtain⟨z,G⟩:∃ z,z=al (a+1):=⟨_,rfl⟩;rw [<-q,<-r] at H;rw [<-F,<-r,<-q,<-G];clear q r b D c F G M;rcases H with rfl | ⟨rfl,rfl⟩
     all_goals go_wp2
     all_goals exact bodyPost_ret (v:=.tuple #[.int .u64 0,.bool false,.int .u64 18446744073709551615]) (by simp [results,results123,go_sem]) rfl ⟨by rw [m.out],k.out⟩
   | false=>
    clear u;go_wp2_with fail
    refine (a1.out _ bj (by omega)).mono ?_
    rintro e cq ⟨rfl,rfl⟩;go_wp2_with fail
    refine (a2.out _ M (by omega)).mono ?_
    rintro e cr ⟨rfl,rfl⟩;by_cases c:a+1<=18446744073709551615/\(a+1) * l.y<=18446744073709551615
    ·have d:al (a+1)=a+1:=by unfold al;rw [if_pos c.1]
     have j:decide (a+1<=18446744073709551615)=true:=by simpa using c.1
     have C:decide ((a+1) * l.y<=18446744073709551615)=true:=by simpa using c.2
     rw [d,j,C];clear d j C c;obtain⟨o,E⟩:∃ o,o=al ((a+1) * l.y):=⟨_,rfl⟩;have b:=g.out;rw [<-E] at b ⊢;have m:=aa b;clear b E;go_wp2
     exact bodyPost_ret (v:=.tuple #[.int .u64 0,.bool false,.int .u64 o]) (by simp [results,results123,go_sem]) rfl ⟨by rw [m.out],k.out⟩
    ·have D:al ((a+1) * l.y)=18446744073709551615:=by
      unfold al;split
      ·rename_i Y
       have ch:(a+1) * 1<=(a+1) * l.y:=Int.mul_le_mul_of_nonneg_left bk (by omega);exact absurd ⟨by omega,Y⟩ c
      ·rfl
     have b:=g.out;rw [D] at b;have m:=aa b;have H:decide (a+1<=18446744073709551615)=false\/(decide (a+1<=18446744073709551615)=true/\decide (al (a+1) * l.y<=18446744073709551615)=false):=by
      by_cases h:a+1<=18446744073709551615
      ·right
       refine⟨by simpa using h,?_⟩
       have d:al (a+1)=a+1:=by unfold al;rw [if_pos h]
       rw [d];simpa using fun P=>c ⟨h,P⟩
      ·left;simpa using h
     obtain⟨J,q⟩:∃ J,J=decide (a+1<=18446744073709551615):=⟨_,rfl⟩;obtain⟨K,r⟩:∃ K,K=decide (al (a+1) * l.y<=18446744073709551615):=⟨_,rfl⟩;obtain⟨y,F⟩:∃ y,y=al (al (a+1) * l.y):=⟨_,rfl⟩;obtain⟨z,G⟩:∃ z,z=al (a+1):=⟨_,rfl⟩;rw [<-q,<-r] at H;rw [<-F,<-r,<-q,<-G];clear q r b D c F G M;rcases H with rfl | ⟨rfl,rfl⟩
     all_goals go_wp2
     all_goals exact bodyPost_ret (v:=.tuple #[.int .u64 0,.bool false,.int .u64 18446744073709551615]) (by simp [results,results123,go_sem]) rfl ⟨by rw [m.out],k.out⟩
end Go.Proofs.YtnlgndpcddngoaaGreatDoor
namespace Go.Proofs.YtnlgndpcddngoaaGreatDoor
open Go.Proofs.Tryz Go.RowKit Go.Sort
variable [dK] [iK]
def kbs (k:Ky):List Int:=[k.k0,k.k1,k.k2,k.k3,k.k4,k.k5,k.k6,k.k7]
abbrev bL (k:Ky):Array Value:=#[.int .u8 k.k0,.int .u8 k.k1,.int .u8 k.k2,.int .u8 k.k3,.int .u8 k.k4,.int .u8 k.k5,.int .u8 k.k6,.int .u8 k.k7]
def kL (a b:Ky):Int:=Extern.BytealgCompare.cmp ⟨(Go.Lib.bytesOf (kbs a)).toArray⟩ ⟨(Go.Lib.bytesOf (kbs b)).toArray⟩
theorem jeU {w:World}{b:Nat}{k:Ky}{t:TypeId}{d:Nat×Nat}(e:w.heap[b]?=some (.cells (bL k) t d)):∀ c x,(kbs k)[c]?=some x->w.cell? ((⟨b,0,none⟩:Addr).add c)=some (.int .u8 x):=by
 intro c x a;rw [Addr.add_lit,Nat.zero_add,ab e];match c,a with
 | 0,a=>injection a with a;subst a;rfl
 | 1,a=>injection a with a;subst a;rfl
 | 2,a=>injection a with a;subst a;rfl
 | 3,a=>injection a with a;subst a;rfl
 | 4,a=>injection a with a;subst a;rfl
 | 5,a=>injection a with a;subst a;rfl
 | 6,a=>injection a with a;subst a;rfl
 | 7,a=>injection a with a;subst a;rfl
 | c+8,a=>simp [kbs] at a
theorem jey (c B:Nat)(a b:Ky)(t:TypeId)(w:World)(h:w.heap[c]?=some (.cells (bL a) t))(i:w.heap[B]?=some (.cells (bL b) t)) :
  (callFunc 184 #[.slice (some ⟨c,0,none⟩) 8 8,.slice (some ⟨B,0,none⟩) 8 8]).run prog w=.ok (.value (.int .i64 (kL a b))) w:=by
 rw [run_callFunc_extern func184 (by kernel_rfl) (by kernel_rfl) (by kernel_rfl) (e:=Extern.BytealgCompare.compare) (by kernel_rfl)];have d:=Go.Lib.run_loadBytesX (P:=prog) w (kbs a) ⟨c,0,none⟩ .empty (jeU h);have f:=Go.Lib.run_loadBytesX (P:=prog) w (kbs b) ⟨B,0,none⟩ .empty (jeU i);have g:(Extern.BytealgCompare.compare #[.slice (some ⟨c,0,none⟩) 8 8,.slice (some ⟨B,0,none⟩) 8 8]).run prog w=.ok (.int .i64 (kL a b)) w:=by
  change Sem.run prog (do
    let l <-Extern.Bytes.bytesOf (.slice (some ⟨c,0,none⟩) 8 8);let m <-Extern.Bytes.bytesOf (.slice (some ⟨B,0,none⟩) 8 8);pure (goInt (Extern.BytealgCompare.cmp l m))) w=_
  have j:(kbs a).length=8:=rfl;have k:(kbs b).length=8:=rfl;rw [j] at d;rw [k] at f;simp only [Extern.Bytes.bytesOf,Sem.run_bind,d,f,Result.andThen,Sem.run_pure];unfold kL goInt;congr 3
 rw [g];rfl
theorem jbl (c B:Nat)(a b:Ky)(t:TypeId)(w:World)(d:w.heap[c]?=some (.cells (bL a) t))(f:w.heap[B]?=some (.cells (bL b) t)) :
  Calls prog 166 #[.slice (some ⟨c,0,none⟩) 8 8,.slice (some ⟨B,0,none⟩) 8 8] w fun e w'=>e=.returned (.int .i64 (kL a b))/\w'=w:=by
 have g:=jey c B a b t w d f;go_enter func166,ntmps166
 go_wp2
 go_ret
 exact⟨rfl,rfl⟩
theorem jgc (w:World)(a b:Obj):((w.alloc a).alloc b).drew=grow (w.drewN 1) #[a,b]:=by
 rw [alloc_eq_grow,alloc_eq_grow,grow_grow,drew_grow];rfl
theorem jfg (a b:Ky)(w:World) :
  Calls prog 165 #[om a,om b] w fun e w'=>e=.returned (.int .i64 (kL a b))/\∃ q j,w'=grow (w.drewN q) j:=by
 obtain⟨d,c⟩:∃ d,d=(w.alloc (.cells (bL a) 63)).alloc (.cells (bL b) 63):=⟨_,rfl⟩;have f:d.drew.heap[w.heap.size]?=some (.cells (bL a) 63):=c▸aB (af _ _) _;have g:d.drew.heap[w.heap.size+1]?=some (.cells (bL b) 63):=c▸aC (by simp);have h:=aa (jbl w.heap.size (w.heap.size+1) a b _ _ f g);clear f g;go_enter func165,ntmps165
 go_upto_region 1 with fail
 rw [<-c];have i:=aa c;clear c;go_region_with (go_at_call 166;refine h.out.mono ?_;rintro e k ⟨rfl,rfl⟩)
 all_goals go_wp2
 all_goals go_ret
 all_goals exact⟨rfl,1,#[.cells (bL a) 63,.cells (bL b) 63],by rw [i.out];exact jgc w _ _⟩
end Go.Proofs.YtnlgndpcddngoaaGreatDoor
namespace Go.Proofs.YtnlgndpcddngoaaGreatDoor
open Go.Proofs.Tryz Go.RowKit Go.Sort Go.Shelf
variable [dK] [iK]
section
variable {α:Type} [Inhabited α] (lt:α->α->Bool)
theorem g8 (a b i:Nat)(g:i<b):∀ (c:Nat) (d:Array α),a<=c->c<=i->b<=d.size->PermIn a b d (insInner lt a c d)
 | 0,d,_,_,_=>by
  unfold insInner;exact permIn_refl d a b
 | c+1,d,haj,hji,hb=>by
  unfold insInner;split
  ·rename_i f
   simp only [Bool.and_eq_true,decide_eq_true_eq] at f;have e:PermIn a b d (swp d (c+1) c):=swp_permIn d a b (c+1) c haj (by omega) (by omega) (by omega) hb;have h:=g8 a b i g c (swp d (c+1) c) (by omega) (by omega) (by rw [e.1];exact hb);exact permIn_trans _ _ _ a b e h
  ·exact permIn_refl d a b
theorem ia (a b:Nat):∀ (n i:Nat) (d:Array α),b - i=n->a<i->i<=b->b<=d.size->PermIn a b d (insOuter lt a b i d)
 | 0,i,d,hn,_,hib,_=>by
  obtain rfl:i=b:=by omega
  rw [insOuter,if_neg (by omega)];exact permIn_refl d a i
 | n+1,i,d,hn,hai,hib,hb=>by
  have e:i<b:=by omega
  rw [insOuter,if_pos e];have c:=g8 lt a b i e i d (by omega) lz hb;exact permIn_trans _ _ _ a b c (ia a b n (i+1) (insInner lt a i d) (by omega) (by omega) (by omega) (by rw [c.1];exact hb))
theorem pB (d:Array α):(insertionSort lt d 0 d.size).toList.Perm d.toList/\(insertionSort lt d 0 d.size).size=d.size:=by
 have a:PermIn 0 d.size d (insertionSort lt d 0 d.size):=by
  unfold insertionSort;by_cases e:d.size=0
  ·rw [insOuter,if_neg (by omega)];exact permIn_refl d 0 d.size
  ·exact ia lt 0 d.size (d.size - 1) 1 d rfl (by omega) (by omega) lz
 generalize insertionSort lt d 0 d.size=D at a;refine⟨?_,a.1⟩
 have b:=a.2.2;rw [Array.extract_size] at b;have c:D.extract 0 d.size=D:=by rw [<-a.1];exact Array.extract_size
 rwa [c] at b
end
def dg (k:Ky):List Value:=[.int .u8 k.k0,.int .u8 k.k1,.int .u8 k.k2,.int .u8 k.k3,.int .u8 k.k4,.int .u8 k.k5,.int .u8 k.k6,.int .u8 k.k7]
namespace Ins
def ren:Go.Shelf.Ren:=⟨fun _=>207,fun a=>if a=0 then 0 else if a=3 then 3 else if a=4 then 4 else if a=22 then 304 else if a=24 then 63 else 310,fun a=>a⟩
theorem lays:SlLaysF0.n20 prog ren where
 mixed:=by first | exact Tryz.mixed | kernel_rfl | decide
 f20:=⟨Tryz.f207.name,by kernel_rfl,by kernel_rfl⟩
 t0:=by first | exact underlying0 | kernel_rfl
 a0:=by first | exact isAgg0 | (intro a;kernel_rfl)
 z0:=by first | exact sizeOf0 | (intro a;kernel_rfl)
 v0:=by first | exact Tryz.zeroValue0 | (intro a;kernel_rfl)
 t3:=by first | exact underlying3 | kernel_rfl
 a3:=by first | exact isAgg3 | (intro a;kernel_rfl)
 z3:=by first | exact sizeOf3 | (intro a;kernel_rfl)
 v3:=by first | exact Tryz.zeroValue3 | (intro a;kernel_rfl)
 t4:=by first | exact underlying4 | kernel_rfl
 a4:=by first | exact isAgg4 | (intro a;kernel_rfl)
 z4:=by first | exact sizeOf4 | (intro a;kernel_rfl)
 v4:=by first | exact Tryz.zeroValue4 | (intro a;kernel_rfl)
 t22:=by first | exact underlying304 | kernel_rfl
 a22:=by first | exact isAgg304 | (intro a;kernel_rfl)
 z22:=by first | exact sizeOf304 | (intro a;kernel_rfl)
 v22:=by first | exact Tryz.zeroValue304 | (intro a;kernel_rfl)
 t25:=by first | exact underlying310 | kernel_rfl
 a25:=by first | exact isAgg310 | (intro a;kernel_rfl)
 z25:=by first | exact sizeOf310 | (intro a;kernel_rfl)
 v25:=by first | exact Tryz.zeroValue310 | (intro a;kernel_rfl)
end Ins
theorem jdp (a:Array Value)(w:World):Sem.run prog (callFunc 165 a) w=.ok (.enter 165 a) w:=by simp [go_sem]
theorem jfp (g b n:Nat)(d:Array Ky)(w:World)(j:HoldsK dg 8 w g 0 d)(k:g<w.heap.size)(l:d.size=n)(p:n<=1000) :
  Calls prog 207 #[.slice (some ⟨g,0,none⟩) n b,.int .i64 0,.int .i64 n,.func (.func 165) #[] #[]] w fun e w'=>e=.returned (.tuple #[])/\∃ f h,w'=sortWorldK dg 8 w g 0 f (insertionSort (ltOf kL) d 0 d.size) h:=by
 subst l;exact AnyQ.insertionSortCmpFunc (P:=prog) (ρ:=Ins.ren) Ins.lays 8 (fun w=>by first | exact isAgg63 w | kernel_rfl) (fun w=>by first | exact sizeOf63 w | kernel_rfl) dg (fun _=>rfl) (fun i q c=>by simp [dg] at c;rcases c with a | a | a | a | a | a | a | a <;> subst a <;> rfl) kL 165 #[] g 0 b 0 d.size d w jdp (fun f h o _ i m=>jfg i m _) j k (Nat.zero_le _) lz (by omega)
theorem rD (w:World)(g f:Nat)(D:Array Ky)(h:Array Obj):ae (fun c=>c=g) w (sortWorldK dg 8 w g 0 f D h):=by
 unfold sortWorldK;refine⟨rfl,rfl,rfl,by rw [size_grow];simp [putRowK,putRow,mapBlock,Sort.ahead],fun e b d=>?_⟩
 rw [heap_grow_old _ _ (by simpa [putRowK,putRow,mapBlock,Sort.ahead] using b)];have:g≠e:=fun a=>d a.symm;simp [putRowK,putRow,mapBlock,Sort.ahead,Array.getElem?_modify,this]
theorem pQ (w:World)(g a:Nat)(d D:Array Ky)(b:Array Obj)(c:HoldsK dg 8 w g 0 d)(e:g<w.heap.size)(f:D.size=d.size):HoldsK dg 8 (sortWorldK dg 8 w g 0 a D b) g 0 D:=by
 unfold sortWorldK;exact holdsK_grow dg 8 _ b g 0 D (by simpa [putRowK,putRow,mapBlock,Sort.ahead] using e) (holdsK_putRowK dg 8 _ g 0 d D (holdsK_ahead dg 8 w a g 0 d c) f)
theorem jeX (n:Nat)(w:World)(b:n<=12):Calls prog 197 #[.int .u64 n] w fun e w'=>(∃ l:Int,e=.returned (.int .i64 l))/\w'=w:=by
 have a:n=0\/n=1\/n=2\/n=3\/n=4\/n=5\/n=6\/n=7\/n=8\/n=9\/n=10\/n=11\/n=12:=by omega
 rcases a with rfl | rfl | rfl | rfl | rfl | rfl | rfl | rfl | rfl | rfl | rfl | rfl | rfl
 all_goals (
   go_enter func197,ntmps197
   go_wp2
   go_ret
   exact⟨⟨_,rfl⟩,rfl⟩)
theorem jfA (g b n:Nat)(l:Int)(d:Array Ky)(w:World)(c:HoldsK dg 8 w g 0 d)(i:g<w.heap.size)(f:d.size=n)(p:n<=12) :
  Calls prog 196 #[.slice (some ⟨g,0,none⟩) n b,.int .i64 0,.int .i64 n,.int .i64 l,.func (.func 165) #[] #[]] w fun e w'=>e=.returned (.tuple #[])/\∃ j k,w'=sortWorldK dg 8 w g 0 j (insertionSort (ltOf kL) d 0 d.size) k:=by
 have h:=aa (jfp g b n d w c i f (by omega));have m:(n:Int)<=12:=by omega
 have o:IntKind.i64.wrap ((n:Int) - 0)=n:=by rw [IntKind.wrap_i64];omega
 clear c f;go_enter func196,ntmps196
 go_wp2
 refine wp_loop_rounds 1 ?_
 rw [rounds_succ];go_wp2_with (go_at_call 207;refine h.out.mono ?_;rintro e w' ⟨rfl,a⟩;have a:=aa a)
 (try simp only [Exit.inBlock,Exit.then]);refine bodyPost_ret (results_none rfl _ _ _) rfl ?_
 exact⟨rfl,a.out⟩
theorem jcU (g c n:Nat)(d:Array Ky)(w:World)(f:HoldsK dg 8 w g 0 d)(l:g<w.heap.size)(i:d.size=n)(j:n<=12) :
  Calls prog 182 #[.slice (some ⟨g,0,none⟩) n c,.func (.func 165) #[] #[]] w fun e w'=>e=.returned (.tuple #[])/\∃ m o,w'=sortWorldK dg 8 w g 0 m (insertionSort (ltOf kL) d 0 d.size) o:=by
 have k:=aa (fun b=>jfA g c n b d w f l i j);have p:IntKind.u64.wrap (n:Int)=n:=by rw [IntKind.wrap_u64];omega
 clear f i;go_enter func182,ntmps182
 go_wp2_with fail
 refine (jeX n w j).mono ?_
 rintro e q ⟨⟨b,rfl⟩,h⟩;rw [h];clear h;go_wp2_with fail
 refine (k.out b).mono ?_
 rintro e r ⟨rfl,a⟩;have a:=aa a;go_wp2
 go_end0
 exact⟨rfl,a.out⟩
end Go.Proofs.YtnlgndpcddngoaaGreatDoor
namespace Go.Proofs.YtnlgndpcddngoaaGreatDoor
open Go.Proofs.Tryz Go.RowKit Go.Maps
variable [dK] [iK]
theorem nC (L:Ld)(b:Int)(a:L.ok)(c:0<=b)(d:b<=18446744073709551615):(aW L b).ok:=by
 refine⟨?_,a.adm,a.key,a.qt,a.nd,a.len⟩
 have:=a.time;unfold aW;dsimp only;split <;> omega
def pY (q:Rq):Prop:=∀ a,aF (q.enc ++ a)=0/\dT (q.enc ++ a)=q.enc.length/\rdQ (q.enc ++ a)=q
theorem jcR (L:Ld)(q:Rq)(d:pY q)(t:List Int):fy L (q.enc ++ t)=((fy (aS L q).1 t).1,(aS L q).2 :: (fy (aS L q).1 t).2.1,(fy (aS L q).1 t).2.2):=by
 obtain⟨a,b,c⟩:=d t;rw [nL L _ a,b,c,Int.toNat_natCast,List.drop_left]
theorem jcS (L:Ld):fy L []=(L,[],[],1):=jA L [] (by simp [aF])
end Go.Proofs.YtnlgndpcddngoaaGreatDoor
