import Derived.Test.YtnlgndpcddngoaaGreatDoorZ00
set_option linter.all false
set_option maxRecDepth 100000
set_option maxHeartbeats 2000000
namespace Go.Proofs.YtnlgndpcddngoaaGreatDoor
open Go.Proofs.Tryz Go.RowKit
variable [dK] [iK]
theorem jfM (g c n o:Nat)(b:Nat->Int)(w:World)(P:10<=n)(G:n<=o)(Q:n<=1048576)(k:g<w.heap.size)(j:∀ a,a<n->w.cell? ⟨g,c+a,none⟩=some (.int .u8 (b a)))(s:∀ a,0<=b a/\b a<=255)(p:b 0=9)(q:b 1=3) :
  Calls prog 85 #[.slice (some ⟨g,c,none⟩) n o] w fun e w'=>e=.returned (.tuple #[OM (b 2) (b 3) (b 4) (b 5) (b 6) (b 7) (b 8) (b 9),.int .i64 10,.int .i64 0])/\B7 w w':=by
 have E:(0:Int)<n:=by omega
 have U:decide ((0:Int)<n)=true:=by simpa using E
 have R:decide ((1:Int)<n)=true:=by simp;omega
 have T:(1:Int)<n:=by omega
 have V:((n:Int)==0)=false:=by simp;omega
 have O:decide ((n:Int)<10)=false:=by simp;omega
 have N:aM 3=9:=rfl;have z:=gX.start w g k #[.int .u8 0,.int .u8 0,.int .u8 0,.int .u8 0,.int .u8 0,.int .u8 0,.int .u8 0,.int .u8 0,.int .u8 0,.int .u8 0,.int .u64 0,.int .u64 0,.int .u64 0];have r:w.cell? ⟨g,c,none⟩=some (.int .u8 9):=(j 0 (by omega)).trans (by rw [p]);have B:w.cell? ⟨g,c+1,none⟩=some (.int .u8 3):=(j 1 (by omega)).trans (by rw [q]);have A:∀ h i,((w.alloc h).alloc i).cell? ⟨g,c,none⟩=some (.int .u8 9):=fun h i=>by rw [World.cell?_alloc_past _ _ _ (by simp;omega),World.cell?_alloc_past _ _ _ k];exact r
 have C:∀ h i,((w.alloc h).alloc i).cell? ⟨g,c+1,none⟩=some (.int .u8 3):=fun h i=>by rw [World.cell?_alloc_past _ _ _ (by simp;omega),World.cell?_alloc_past _ _ _ k];exact B
 have x:=aa j;have F:=aa s;clear j s p q;have S:decide ((2:Int)<n)=true:=by simp;omega
 go_enter func85,ntmps85
 go_wp2_with (go_at_call 83;refine (bS _ _).mono ?_;rintro e w' ⟨rfl,rfl⟩)
 have m:gX w ((w.alloc (oM)).alloc (.cells #[.int .u8 3,.int .u8 0,.int .u8 0,.int .u8 0,.int .u8 0,.int .u8 0,.int .u8 0,.int .u8 0,.int .u8 0,.int .u8 0,.int .u64 0,.int .u64 0,.int .u64 0] 65)) g (dA 3 b 0):=gX.start w g k _;clear z A C;go_loopw [7] (fun l wr=>∃ a:Nat,a<=8/\l=.int .i64 a/\gX w wr g (dA 3 b a)) (fun l _=>8 - (intOf l).toNat)
 case atStart=>exact⟨0,by omega,rfl,m⟩
 case round=>
  obtain⟨a,L,rfl,d⟩:=hrel;clear m;by_cases D:a<8
  ·have J:wr.cell? ⟨g,c+(2+a),none⟩=some (.int .u8 (b (2+a))):=(d.G (c+(2+a))).trans (x.out (2+a) (by omega));have t:1+a<(dA 3 b a).size:=by show _<13;omega
   obtain⟨u,Y⟩:∃ u,wr.cell? ⟨w.heap.size+1,1+a,none⟩=some u:=⟨_,(d.r (1+a)).trans (Array.getElem?_eq_getElem t)⟩;have K:=d.rf (1+a);have M:2+a<n:=by omega
   go_wp2
   go_roundw
   case rel=>exact⟨a+1,by omega,by go_num,by rw [<-eR 3 b a D];exact d.setr (1+a) t _⟩
   case measure=>simp [intOf];omega
  ·obtain rfl:a=8:=by omega
   have f:gX w wr g #[.int .u8 3,.int .u8 (b 2),.int .u8 (b 3),.int .u8 (b 4),.int .u8 (b 5),.int .u8 (b 6),.int .u8 (b 7),.int .u8 (b 8),.int .u8 (b 9),.int .u8 0,.int .u64 0,.int .u64 0,.int .u64 0]:=d;clear d;have W:=f.r;have X:=f.rf;have y:=f.R;have I:=f.Rf;have H:wr.cell? ⟨g,c,none⟩=some (.int .u8 9):=(f.G c).trans r;go_wp2_with fail
   go_region
   all_goals
    go_wp2
    refine bodyPost_ret (v:=.tuple #[OM (b 2) (b 3) (b 4) (b 5) (b 6) (b 7) (b 8) (b 9),.int .i64 10,.int .i64 0]) (by simp [results,results85,go_sem,y]) rfl ⟨rfl,?_⟩
    refine Below.drew ?_
    repeat (refine Below.setCell ?_ (by first | exact lz | (show _<=w.heap.size+1;omega)) _)
    exact f.B
theorem jfN (g c n o:Nat)(b:Nat->Int)(w:World)(P:10<=n)(G:n<=o)(Q:n<=1048576)(k:g<w.heap.size)(j:∀ a,a<n->w.cell? ⟨g,c+a,none⟩=some (.int .u8 (b a)))(s:∀ a,0<=b a/\b a<=255)(p:b 0=9)(q:b 1=4) :
  Calls prog 85 #[.slice (some ⟨g,c,none⟩) n o] w fun e w'=>e=.returned (.tuple #[OL (b 2) (b 3) (b 4) (b 5) (b 6) (b 7) (b 8) (b 9),.int .i64 10,.int .i64 0])/\B7 w w':=by
 have E:(0:Int)<n:=by omega
 have U:decide ((0:Int)<n)=true:=by simpa using E
 have R:decide ((1:Int)<n)=true:=by simp;omega
 have T:(1:Int)<n:=by omega
 have V:((n:Int)==0)=false:=by simp;omega
 have O:decide ((n:Int)<10)=false:=by simp;omega
 have N:aM 4=9:=rfl;have z:=gX.start w g k #[.int .u8 0,.int .u8 0,.int .u8 0,.int .u8 0,.int .u8 0,.int .u8 0,.int .u8 0,.int .u8 0,.int .u8 0,.int .u8 0,.int .u64 0,.int .u64 0,.int .u64 0];have r:w.cell? ⟨g,c,none⟩=some (.int .u8 9):=(j 0 (by omega)).trans (by rw [p]);have B:w.cell? ⟨g,c+1,none⟩=some (.int .u8 4):=(j 1 (by omega)).trans (by rw [q]);have A:∀ h i,((w.alloc h).alloc i).cell? ⟨g,c,none⟩=some (.int .u8 9):=fun h i=>by rw [World.cell?_alloc_past _ _ _ (by simp;omega),World.cell?_alloc_past _ _ _ k];exact r
 have C:∀ h i,((w.alloc h).alloc i).cell? ⟨g,c+1,none⟩=some (.int .u8 4):=fun h i=>by rw [World.cell?_alloc_past _ _ _ (by simp;omega),World.cell?_alloc_past _ _ _ k];exact B
 have x:=aa j;have F:=aa s;clear j s p q;have S:decide ((2:Int)<n)=true:=by simp;omega
 go_enter func85,ntmps85
 go_wp2_with (go_at_call 83;refine (bS _ _).mono ?_;rintro e w' ⟨rfl,rfl⟩)
 have m:gX w ((w.alloc (oM)).alloc (.cells #[.int .u8 4,.int .u8 0,.int .u8 0,.int .u8 0,.int .u8 0,.int .u8 0,.int .u8 0,.int .u8 0,.int .u8 0,.int .u8 0,.int .u64 0,.int .u64 0,.int .u64 0] 65)) g (dA 4 b 0):=gX.start w g k _;clear z A C;go_loopw [7] (fun l wr=>∃ a:Nat,a<=8/\l=.int .i64 a/\gX w wr g (dA 4 b a)) (fun l _=>8 - (intOf l).toNat)
 case atStart=>exact⟨0,by omega,rfl,m⟩
 case round=>
  obtain⟨a,L,rfl,d⟩:=hrel;clear m;by_cases D:a<8
  ·have J:wr.cell? ⟨g,c+(2+a),none⟩=some (.int .u8 (b (2+a))):=(d.G (c+(2+a))).trans (x.out (2+a) (by omega));have t:1+a<(dA 4 b a).size:=by show _<13;omega
   obtain⟨u,Y⟩:∃ u,wr.cell? ⟨w.heap.size+1,1+a,none⟩=some u:=⟨_,(d.r (1+a)).trans (Array.getElem?_eq_getElem t)⟩;have K:=d.rf (1+a);have M:2+a<n:=by omega
   go_wp2
   go_roundw
   case rel=>exact⟨a+1,by omega,by go_num,by rw [<-eR 4 b a D];exact d.setr (1+a) t _⟩
   case measure=>simp [intOf];omega
  ·obtain rfl:a=8:=by omega
   have f:gX w wr g #[.int .u8 4,.int .u8 (b 2),.int .u8 (b 3),.int .u8 (b 4),.int .u8 (b 5),.int .u8 (b 6),.int .u8 (b 7),.int .u8 (b 8),.int .u8 (b 9),.int .u8 0,.int .u64 0,.int .u64 0,.int .u64 0]:=d;clear d;have W:=f.r;have X:=f.rf;have y:=f.R;have I:=f.Rf;have H:wr.cell? ⟨g,c,none⟩=some (.int .u8 9):=(f.G c).trans r;go_wp2_with fail
   go_region
   all_goals
    go_wp2
    refine bodyPost_ret (v:=.tuple #[OL (b 2) (b 3) (b 4) (b 5) (b 6) (b 7) (b 8) (b 9),.int .i64 10,.int .i64 0]) (by simp [results,results85,go_sem,y]) rfl ⟨rfl,?_⟩
    refine Below.drew ?_
    repeat (refine Below.setCell ?_ (by first | exact lz | (show _<=w.heap.size+1;omega)) _)
    exact f.B
theorem jfO (g c n j:Nat)(b:Nat->Int)(w:World)(B:2<=n)(s:n<=j)(C:n<=1048576)(h:g<w.heap.size)(i:∀ a,a<n->w.cell? ⟨g,c+a,none⟩=some (.int .u8 (b a)))(m:∀ a,0<=b a/\b a<=255)(k:b 0=1)(l:b 1=5) :
  Calls prog 85 #[.slice (some ⟨g,c,none⟩) n j] w fun e w'=>e=.returned (.tuple #[Ou,.int .i64 2,.int .i64 0])/\B7 w w':=by
 have r:(0:Int)<n:=by omega
 have F:decide ((0:Int)<n)=true:=by simpa using r
 have D:decide ((1:Int)<n)=true:=by simp;omega
 have E:(1:Int)<n:=by omega
 have G:((n:Int)==0)=false:=by simp;omega
 have A:decide ((n:Int)<2)=false:=by simp;omega
 have z:aM 5=1:=rfl;have o:=gX.start w g h #[.int .u8 0,.int .u8 0,.int .u8 0,.int .u8 0,.int .u8 0,.int .u8 0,.int .u8 0,.int .u8 0,.int .u8 0,.int .u8 0,.int .u64 0,.int .u64 0,.int .u64 0];have p:w.cell? ⟨g,c,none⟩=some (.int .u8 1):=(i 0 (by omega)).trans (by rw [k]);have q:w.cell? ⟨g,c+1,none⟩=some (.int .u8 5):=(i 1 (by omega)).trans (by rw [l]);have x:∀ d f,((w.alloc d).alloc f).cell? ⟨g,c,none⟩=some (.int .u8 1):=fun d f=>by rw [World.cell?_alloc_past _ _ _ (by simp;omega),World.cell?_alloc_past _ _ _ h];exact p
 have y:∀ d f,((w.alloc d).alloc f).cell? ⟨g,c+1,none⟩=some (.int .u8 5):=fun d f=>by rw [World.cell?_alloc_past _ _ _ (by simp;omega),World.cell?_alloc_past _ _ _ h];exact q
 have _:=m;clear i m k l;clear o;have u:∀ a,((w.alloc (oM)).alloc (.cells #[.int .u8 5,.int .u8 0,.int .u8 0,.int .u8 0,.int .u8 0,.int .u8 0,.int .u8 0,.int .u8 0,.int .u8 0,.int .u8 0,.int .u64 0,.int .u64 0,.int .u64 0] 65)).cell? ⟨w.heap.size,a,none⟩=(#[.int .u8 0,.int .u8 0,.int .u8 0,.int .u8 0,.int .u8 0,.int .u8 0,.int .u8 0,.int .u8 0,.int .u8 0,.int .u8 0,.int .u64 0,.int .u64 0,.int .u64 0]:Array Value)[a]?:=(gX.start w g h _).R;by_cases t:(2:Int)<n
 all_goals
  go_enter func85,ntmps85
  go_wp2_with (go_at_call 83;refine (bS _ _).mono ?_;rintro e w' ⟨rfl,rfl⟩)
  go_region
  go_wp2
  refine bodyPost_ret (v:=.tuple #[Ou,.int .i64 2,.int .i64 0]) (by simp [results,results85,go_sem]) rfl ⟨rfl,?_⟩
  exact Below.drew ((ba w).alloc (by simp) _)
theorem jfP (g c n j:Nat)(b:Nat->Int)(w:World)(B:2<=n)(s:n<=j)(C:n<=1048576)(h:g<w.heap.size)(i:∀ a,a<n->w.cell? ⟨g,c+a,none⟩=some (.int .u8 (b a)))(m:∀ a,0<=b a/\b a<=255)(k:b 0=1)(l:b 1=6) :
  Calls prog 85 #[.slice (some ⟨g,c,none⟩) n j] w fun e w'=>e=.returned (.tuple #[Ot,.int .i64 2,.int .i64 0])/\B7 w w':=by
 have r:(0:Int)<n:=by omega
 have F:decide ((0:Int)<n)=true:=by simpa using r
 have D:decide ((1:Int)<n)=true:=by simp;omega
 have E:(1:Int)<n:=by omega
 have G:((n:Int)==0)=false:=by simp;omega
 have A:decide ((n:Int)<2)=false:=by simp;omega
 have z:aM 6=1:=rfl;have o:=gX.start w g h #[.int .u8 0,.int .u8 0,.int .u8 0,.int .u8 0,.int .u8 0,.int .u8 0,.int .u8 0,.int .u8 0,.int .u8 0,.int .u8 0,.int .u64 0,.int .u64 0,.int .u64 0];have p:w.cell? ⟨g,c,none⟩=some (.int .u8 1):=(i 0 (by omega)).trans (by rw [k]);have q:w.cell? ⟨g,c+1,none⟩=some (.int .u8 6):=(i 1 (by omega)).trans (by rw [l]);have x:∀ d f,((w.alloc d).alloc f).cell? ⟨g,c,none⟩=some (.int .u8 1):=fun d f=>by rw [World.cell?_alloc_past _ _ _ (by simp;omega),World.cell?_alloc_past _ _ _ h];exact p
 have y:∀ d f,((w.alloc d).alloc f).cell? ⟨g,c+1,none⟩=some (.int .u8 6):=fun d f=>by rw [World.cell?_alloc_past _ _ _ (by simp;omega),World.cell?_alloc_past _ _ _ h];exact q
 have _:=m;clear i m k l;clear o;have u:∀ a,((w.alloc (oM)).alloc (.cells #[.int .u8 6,.int .u8 0,.int .u8 0,.int .u8 0,.int .u8 0,.int .u8 0,.int .u8 0,.int .u8 0,.int .u8 0,.int .u8 0,.int .u64 0,.int .u64 0,.int .u64 0] 65)).cell? ⟨w.heap.size,a,none⟩=(#[.int .u8 0,.int .u8 0,.int .u8 0,.int .u8 0,.int .u8 0,.int .u8 0,.int .u8 0,.int .u8 0,.int .u8 0,.int .u8 0,.int .u64 0,.int .u64 0,.int .u64 0]:Array Value)[a]?:=(gX.start w g h _).R;by_cases t:(2:Int)<n
 all_goals
  go_enter func85,ntmps85
  go_wp2_with (go_at_call 83;refine (bS _ _).mono ?_;rintro e w' ⟨rfl,rfl⟩)
  go_region
  go_wp2
  refine bodyPost_ret (v:=.tuple #[Ot,.int .i64 2,.int .i64 0]) (by simp [results,results85,go_sem]) rfl ⟨rfl,?_⟩
  exact Below.drew ((ba w).alloc (by simp) _)
theorem jfL (g c n i:Nat)(b:Nat->Int)(w:World)(X:18<=n)(a0:n<=i)(Y:n<=1048576)(m:g<w.heap.size)(l:∀ a,a<n->w.cell? ⟨g,c+a,none⟩=some (.int .u8 (b a)))(u:∀ a,0<=b a/\b a<=255)(s:b 0=17)(t:b 1=2) :
  Calls prog 85 #[.slice (some ⟨g,c,none⟩) n i] w fun e w'=>e=.returned (.tuple #[OQ (b 2) (b 3) (b 4) (b 5) (b 6) (b 7) (b 8) (b 9) (cu (fun a=>b (10+a)) 8),.int .i64 18,.int .i64 0])/\B7 w w':=by
 have L:(0:Int)<n:=by omega
 have a2:decide ((0:Int)<n)=true:=by simpa using L
 have Z:decide ((1:Int)<n)=true:=by simp;omega
 have ao:(1:Int)<n:=by omega
 have a3:((n:Int)==0)=false:=by simp;omega
 have W:decide ((n:Int)<18)=false:=by simp;omega
 have V:aM 2=17:=rfl;have F:=gX.start w g m #[.int .u8 0,.int .u8 0,.int .u8 0,.int .u8 0,.int .u8 0,.int .u8 0,.int .u8 0,.int .u8 0,.int .u8 0,.int .u8 0,.int .u64 0,.int .u64 0,.int .u64 0];have o:w.cell? ⟨g,c,none⟩=some (.int .u8 17):=(l 0 (by omega)).trans (by rw [s]);have H:w.cell? ⟨g,c+1,none⟩=some (.int .u8 2):=(l 1 (by omega)).trans (by rw [t]);have G:∀ j k,((w.alloc j).alloc k).cell? ⟨g,c,none⟩=some (.int .u8 17):=fun j k=>by rw [World.cell?_alloc_past _ _ _ (by simp;omega),World.cell?_alloc_past _ _ _ m];exact o
 have I:∀ j k,((w.alloc j).alloc k).cell? ⟨g,c+1,none⟩=some (.int .u8 2):=fun j k=>by rw [World.cell?_alloc_past _ _ _ (by simp;omega),World.cell?_alloc_past _ _ _ m];exact H
 have q:=aa l;have A:=aa u;clear l u s t;have ad:decide ((2:Int)<n)=true:=by simp;omega
 have S:¬i=10:=by omega
 have av:(10:Int)<=n:=by omega
 have a1:(n:Int)<=i:=by omega
 go_enter func85,ntmps85
 go_wp2_with (go_at_call 83;refine (bS _ _).mono ?_;rintro e w' ⟨rfl,rfl⟩)
 have r:gX w ((w.alloc (oM)).alloc (.cells #[.int .u8 2,.int .u8 0,.int .u8 0,.int .u8 0,.int .u8 0,.int .u8 0,.int .u8 0,.int .u8 0,.int .u8 0,.int .u8 0,.int .u64 0,.int .u64 0,.int .u64 0] 65)) g (dA 2 b 0):=gX.start w g m _;clear F G I;go_loopw [7] (fun p wr=>∃ a:Nat,a<=8/\p=.int .i64 a/\gX w wr g (dA 2 b a)) (fun p _=>8 - (intOf p).toNat)
 case atStart=>exact⟨0,by omega,rfl,r⟩
 case round=>
  obtain⟨a,J,rfl,f⟩:=hrel;clear r;by_cases K:a<8
  ·have R:wr.cell? ⟨g,c+(2+a),none⟩=some (.int .u8 (b (2+a))):=(f.G (c+(2+a))).trans (q.out (2+a) (by omega));have x:1+a<(dA 2 b a).size:=by show _<13;omega
   obtain⟨z,a6⟩:∃ z,wr.cell? ⟨w.heap.size+1,1+a,none⟩=some z:=⟨_,(f.r (1+a)).trans (Array.getElem?_eq_getElem x)⟩;have T:=f.rf (1+a);have U:2+a<n:=by omega
   go_wp2
   go_roundw
   case rel=>exact⟨a+1,by omega,by go_num,by rw [<-eR 2 b a K];exact f.setr (1+a) x _⟩
   case measure=>simp [intOf];omega
  ·obtain rfl:a=8:=by omega
   have d:gX w wr g #[.int .u8 2,.int .u8 (b 2),.int .u8 (b 3),.int .u8 (b 4),.int .u8 (b 5),.int .u8 (b 6),.int .u8 (b 7),.int .u8 (b 8),.int .u8 (b 9),.int .u8 0,.int .u64 0,.int .u64 0,.int .u64 0]:=f;clear f;have M:=d.r;have N:=d.rf;have C:=d.R;have E:=d.Rf;have B:wr.cell? ⟨g,c,none⟩=some (.int .u8 17):=(d.G c).trans o;go_wp2_with fail
   refine (je g (c+10) (n - 10) (i - 10) (fun a=>b (10+a)) _ (by omega) (by omega) (fun a J=>by rw [Nat.add_assoc];exact (d.G (c+(10+a))).trans (q.out (10+a) (by omega))) (fun a=>A.out (10+a))).mono ?_
   rintro e O ⟨rfl,y⟩;have h:gX w O g #[.int .u8 2,.int .u8 (b 2),.int .u8 (b 3),.int .u8 (b 4),.int .u8 (b 5),.int .u8 (b 6),.int .u8 (b 7),.int .u8 (b 8),.int .u8 (b 9),.int .u8 0,.int .u64 0,.int .u64 0,.int .u64 0]:=by rw [y];exact d
   clear y B M N C E d;have a4:=h.r;have a5:=h.rf;have D:=h.R;have Q:=h.Rf;go_wp2_with fail
   have P:=(h.G c).trans o;go_region
   all_goals
    go_wp2
    refine bodyPost_ret (v:=.tuple #[OQ (b 2) (b 3) (b 4) (b 5) (b 6) (b 7) (b 8) (b 9) (cu (fun a=>b (10+a)) 8),.int .i64 18,.int .i64 0]) (by simp [results,results85,go_sem,D]) rfl ⟨rfl,?_⟩
    refine Below.drew ?_
    repeat (refine Below.setCell ?_ (by first | exact lz | (show _<=w.heap.size+1;omega)) _)
    exact h.B
end Go.Proofs.YtnlgndpcddngoaaGreatDoor
