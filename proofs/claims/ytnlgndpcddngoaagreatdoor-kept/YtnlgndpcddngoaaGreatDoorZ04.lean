import Derived.Test.YtnlgndpcddngoaaGreatDoorZ03
set_option linter.all false
set_option maxRecDepth 100000
set_option maxHeartbeats 2000000
namespace Go.Proofs.YtnlgndpcddngoaaGreatDoor
open Go.Proofs.Tryz Go.RowKit
variable [dK] [iK]
theorem jgr (g c n j:Nat)(w:World)(A:2<=n)(u:n<=j)(t:n<=1048576)(k:g<w.heap.size)(m:w.cell? ⟨g,c,none⟩=some (.int .u8 1))(i:w.cell? ⟨g,c+1,none⟩=some (.int .u8 5)) :
  Calls prog 72 #[.slice (some ⟨g,c,none⟩) n j] w fun e w'=>e=.returned (.tuple #[Ou,.int .i64 2,.nilIface])/\B7 w w':=by
 go_enter func72,ntmps72
 go_wp2_with fail
 refine (cE _).mono ?_
 rintro e l ⟨rfl,d⟩;have h:B7 w l:=(ba w).trans (d.mono (by simp));have q:w.heap.size<l.heap.size:=by have:=d.size;simp at this;omega
 go_wp2_with fail
 refine (fj g c n j 1 5 l (by omega) u t (by omega) (by omega) (by decide) (by omega) ((h.cell (p:=⟨g,c,none⟩) k).trans m) ((h.cell (p:=⟨g,c+1,none⟩) k).trans i)).mono ?_
 rintro e b ⟨rfl,f⟩;have o:B7 w b:=h.trans (f.mono (by omega));have x:w.heap.size<b.heap.size:=by have:=f.size;omega
 have r:∀ a,b.cell? ⟨w.heap.size,a,none⟩=(#[.int .u8 0,.int .u8 0,.int .u8 0,.int .u8 0,.int .u8 0,.int .u8 0,.int .u8 0,.int .u8 0,.int .u8 0,.int .u8 0,.int .u64 0,.int .u64 0,.int .u64 0]:Array Value)[a]?:=fun a=>(f.cell (p:=⟨w.heap.size,a,none⟩) q).trans ((d.cell (p:=⟨w.heap.size,a,none⟩) (by simp)).trans (bR w _ _ a));have z:∀ a,b.frozen? ⟨w.heap.size,a,none⟩=false:=fun a=>(f.frozen (p:=⟨w.heap.size,a,none⟩) q).trans ((d.frozen (p:=⟨w.heap.size,a,none⟩) (by simp)).trans (by simp));clear d f;go_wp2_with fail
 refine (iy _ _ _ _).mono ?_
 rintro e F ⟨rfl,rfl⟩;go_wp2_with fail
 have s:g<b.heap.size:=by omega
 refine (lS b.heap.size g (c+1) 5 _ (by simp) (by simp) (by rw [World.cell?_alloc_lt _ _ ⟨g,c+1,none⟩ s];exact (o.cell (p:=⟨g,c+1,none⟩) k).trans i)).mono ?_
 rintro e E ⟨rfl,D,rfl⟩;clear m i h;have B:¬w.heap.size=b.heap.size :=by omega
 have C:¬b.heap.size =w.heap.size:=by omega
 go_wp2
 have y:w.heap.size<b.heap.size+1:=by omega
 refine bodyPost_ret (v:=.tuple #[Ou,.int .i64 2,.nilIface]) (by simp [results,results72,go_sem,r,x,y]) rfl ⟨rfl,?_⟩
 refine Below.alloc ?_ (by simp;omega) _
 refine Below.alloc ?_ (by simp;omega) _
 repeat (refine Below.setCell ?_ (by first | exact lz | (show _<=b.heap.size;omega)) _)
 exact o
theorem jgs (g c n j:Nat)(w:World)(A:2<=n)(u:n<=j)(t:n<=1048576)(k:g<w.heap.size)(m:w.cell? ⟨g,c,none⟩=some (.int .u8 1))(i:w.cell? ⟨g,c+1,none⟩=some (.int .u8 6)) :
  Calls prog 72 #[.slice (some ⟨g,c,none⟩) n j] w fun e w'=>e=.returned (.tuple #[Ot,.int .i64 2,.nilIface])/\B7 w w':=by
 go_enter func72,ntmps72
 go_wp2_with fail
 refine (cE _).mono ?_
 rintro e l ⟨rfl,d⟩;have h:B7 w l:=(ba w).trans (d.mono (by simp));have q:w.heap.size<l.heap.size:=by have:=d.size;simp at this;omega
 go_wp2_with fail
 refine (fj g c n j 1 6 l (by omega) u t (by omega) (by omega) (by decide) (by omega) ((h.cell (p:=⟨g,c,none⟩) k).trans m) ((h.cell (p:=⟨g,c+1,none⟩) k).trans i)).mono ?_
 rintro e b ⟨rfl,f⟩;have o:B7 w b:=h.trans (f.mono (by omega));have x:w.heap.size<b.heap.size:=by have:=f.size;omega
 have r:∀ a,b.cell? ⟨w.heap.size,a,none⟩=(#[.int .u8 0,.int .u8 0,.int .u8 0,.int .u8 0,.int .u8 0,.int .u8 0,.int .u8 0,.int .u8 0,.int .u8 0,.int .u8 0,.int .u64 0,.int .u64 0,.int .u64 0]:Array Value)[a]?:=fun a=>(f.cell (p:=⟨w.heap.size,a,none⟩) q).trans ((d.cell (p:=⟨w.heap.size,a,none⟩) (by simp)).trans (bR w _ _ a));have z:∀ a,b.frozen? ⟨w.heap.size,a,none⟩=false:=fun a=>(f.frozen (p:=⟨w.heap.size,a,none⟩) q).trans ((d.frozen (p:=⟨w.heap.size,a,none⟩) (by simp)).trans (by simp));clear d f;go_wp2_with fail
 refine (iy _ _ _ _).mono ?_
 rintro e F ⟨rfl,rfl⟩;go_wp2_with fail
 have s:g<b.heap.size:=by omega
 refine (lS b.heap.size g (c+1) 6 _ (by simp) (by simp) (by rw [World.cell?_alloc_lt _ _ ⟨g,c+1,none⟩ s];exact (o.cell (p:=⟨g,c+1,none⟩) k).trans i)).mono ?_
 rintro e E ⟨rfl,D,rfl⟩;clear m i h;have B:¬w.heap.size=b.heap.size :=by omega
 have C:¬b.heap.size =w.heap.size:=by omega
 go_wp2
 have y:w.heap.size<b.heap.size+1:=by omega
 refine bodyPost_ret (v:=.tuple #[Ot,.int .i64 2,.nilIface]) (by simp [results,results72,go_sem,r,x,y]) rfl ⟨rfl,?_⟩
 refine Below.alloc ?_ (by simp;omega) _
 refine Below.alloc ?_ (by simp;omega) _
 repeat (refine Below.setCell ?_ (by first | exact lz | (show _<=b.heap.size;omega)) _)
 exact o
theorem jgo (g a n C:Nat)(k l m o q r s t:Int)(w:World)(a5:18<=n)(av:n<=C)(ao:n<=1048576)(f:g<w.heap.size)(E:w.cell? ⟨g,a,none⟩=some (.int .u8 17))(B:w.cell? ⟨g,a+1,none⟩=some (.int .u8 2))(F:w.cell? ⟨g,a+2,none⟩=some (.int .u8 k))(G:w.cell? ⟨g,a+3,none⟩=some (.int .u8 l))(H:w.cell? ⟨g,a+4,none⟩=some (.int .u8 m))(I:w.cell? ⟨g,a+5,none⟩=some (.int .u8 o))(J:w.cell? ⟨g,a+6,none⟩=some (.int .u8 q))(K:w.cell? ⟨g,a+7,none⟩=some (.int .u8 r))(L:w.cell? ⟨g,a+8,none⟩=some (.int .u8 s))(M:w.cell? ⟨g,a+9,none⟩=some (.int .u8 t))(c:Nat->Int)(Q:∀ b,b<8->w.cell? ⟨g,a+10+b,none⟩=some (.int .u8 (c b)))(R:∀ b,0<=c b/\c b<=255) :
  Calls prog 72 #[.slice (some ⟨g,a,none⟩) n C] w fun e w'=>e=.returned (.tuple #[OQ k l m o q r s t (cu c 8),.int .i64 18,.nilIface])/\B7 w w':=by
 go_enter func72,ntmps72
 go_wp2_with fail
 refine (cE _).mono ?_
 rintro e D ⟨rfl,y⟩;have A:B7 w D:=(ba w).trans (y.mono (by simp));have S:w.heap.size<D.heap.size:=by have:=y.size;simp at this;omega
 go_wp2_with fail
 refine (fj g a n C 17 2 D (by omega) av ao (by omega) (by omega) (by decide) (by omega) ((A.cell (p:=⟨g,a,none⟩) f).trans E) ((A.cell (p:=⟨g,a+1,none⟩) f).trans B)).mono ?_
 rintro e d ⟨rfl,z⟩;have h:B7 w d:=A.trans (z.mono (by omega));have a2:w.heap.size<d.heap.size:=by have:=z.size;omega
 have N:∀ b,d.cell? ⟨w.heap.size,b,none⟩=(#[.int .u8 0,.int .u8 0,.int .u8 0,.int .u8 0,.int .u8 0,.int .u8 0,.int .u8 0,.int .u8 0,.int .u8 0,.int .u8 0,.int .u64 0,.int .u64 0,.int .u64 0]:Array Value)[b]?:=fun b=>(z.cell (p:=⟨w.heap.size,b,none⟩) S).trans ((y.cell (p:=⟨w.heap.size,b,none⟩) (by simp)).trans (bR w _ _ b));have O:∀ b,d.frozen? ⟨w.heap.size,b,none⟩=false:=fun b=>(z.frozen (p:=⟨w.heap.size,b,none⟩) S).trans ((y.frozen (p:=⟨w.heap.size,b,none⟩) (by simp)).trans (by simp));clear y z;go_wp2_with fail
 refine (iy _ _ _ _).mono ?_
 rintro e bg ⟨rfl,rfl⟩;go_wp2_with fail
 have i:g<d.heap.size:=by omega
 refine (eG d.heap.size g (a+1) 17 2 _ (by simp) (by simp) (by omega) (by omega) (by rw [World.cell?_alloc_lt _ _ ⟨g,a+1,none⟩ i];exact (h.cell (p:=⟨g,a+1,none⟩) f).trans B)).mono ?_
 rintro e bb ⟨rfl,rfl⟩;go_wp2_with fail
 refine (qI d.heap.size g (a+2) 16 k l m o q r s t _ (by simp;omega) (by simp;omega) (by omega) (by omega) (by simp) (by simp)
   (by rw [aA _ _ _ i];exact (h.cell (p:=⟨g,a+2,none⟩) f).trans F)
   (by rw [aA _ _ _ i];exact (h.cell (p:=⟨g,a+3,none⟩) f).trans G)
   (by rw [aA _ _ _ i];exact (h.cell (p:=⟨g,a+4,none⟩) f).trans H)
   (by rw [aA _ _ _ i];exact (h.cell (p:=⟨g,a+5,none⟩) f).trans I)
   (by rw [aA _ _ _ i];exact (h.cell (p:=⟨g,a+6,none⟩) f).trans J)
   (by rw [aA _ _ _ i];exact (h.cell (p:=⟨g,a+7,none⟩) f).trans K)
   (by rw [aA _ _ _ i];exact (h.cell (p:=⟨g,a+8,none⟩) f).trans L)
   (by rw [aA _ _ _ i];exact (h.cell (p:=⟨g,a+9,none⟩) f).trans M)).mono ?_
 rintro e bd ⟨rfl,P⟩;have j:=St.of_key h f a2 N O P;clear P N O F G H I J K L M E B A h;have U:=aa Q;have V:=aa R;clear Q R;have a0:=j.r;have a1:=j.rf;have X:=j.R;have Z:=j.Rf;have a6:¬w.heap.size=d.heap.size+1:=by omega
 have a7:¬d.heap.size+1=w.heap.size:=by omega
 go_wp2_with fail
 have u:=((((((((j.setr 1 (by simp) (.int .u8 k)).setr 2 (by simp) (.int .u8 l)).setr 3 (by simp) (.int .u8 m)).setr 4 (by simp) (.int .u8 o)).setr 5 (by simp) (.int .u8 q)).setr 6 (by simp) (.int .u8 r)).setr 7 (by simp) (.int .u8 s)).setr 8 (by simp) (.int .u8 t));refine (ix d.heap.size g (a+10) 8 c _ u.F u.Ff (by omega) (by omega) (fun b ad=>(u.G (a+10+b)).trans (U.out b ad)) V.out).mono ?_
 rintro e a3 ⟨rfl,W,T,-⟩;have x:St w d a3 g (.slice W 0 0) #[.int .u8 2,.int .u8 k,.int .u8 l,.int .u8 m,.int .u8 o,.int .u8 q,.int .u8 r,.int .u8 s,.int .u8 t,.int .u8 0,.int .u64 0,.int .u64 0,.int .u64 0]:=by rw [T];exact u.setF _
 clear T u a0 a1 X Z j;have a8:=x.r;have a9:=x.rf;have Y:=x.R;have a4:=x.Rf;go_wp2
 refine bodyPost_ret (v:=.tuple #[OQ k l m o q r s t (cu c 8),.int .i64 18,.nilIface]) (by simp [results,results72,go_sem,Y]) rfl ⟨rfl,?_⟩
 repeat (refine Below.setCell ?_ (by first | exact lz | (show _<=d.heap.size+1;omega) | (show _<=d.heap.size;omega)) _)
 exact x.B
end Go.Proofs.YtnlgndpcddngoaaGreatDoor
