import Derived.Test.YtnlgndpcddngoaaGreatDoorZ03
import Derived.Test.YtnlgndpcddngoaaGreatDoorZ15
import Derived.Test.YtnlgndpcddngoaaGreatDoorZ16
import Derived.Test.YtnlgndpcddngoaaGreatDoorZ17
import Derived.Test.YtnlgndpcddngoaaGreatDoorZ18
import Derived.Test.YtnlgndpcddngoaaGreatDoorZ19
set_option linter.all false
set_option maxRecDepth 100000
set_option maxHeartbeats 2000000
namespace Go.Proofs.YtnlgndpcddngoaaGreatDoor
open Go.Proofs.Tryz Go.RowKit
variable [dK] [iK]
theorem jgn (g a n E:Nat)(m o q r s t u x:Int)(w:World)(bk:27<=n)(a9:n<=E)(a8:n<=1048576)(d:g<w.heap.size)(H:w.cell? ⟨g,a,none⟩=some (.int .u8 26))(D:w.cell? ⟨g,a+1,none⟩=some (.int .u8 1))(I:w.cell? ⟨g,a+2,none⟩=some (.int .u8 m))(J:w.cell? ⟨g,a+3,none⟩=some (.int .u8 o))(K:w.cell? ⟨g,a+4,none⟩=some (.int .u8 q))(L:w.cell? ⟨g,a+5,none⟩=some (.int .u8 r))(M:w.cell? ⟨g,a+6,none⟩=some (.int .u8 s))(N:w.cell? ⟨g,a+7,none⟩=some (.int .u8 t))(O:w.cell? ⟨g,a+8,none⟩=some (.int .u8 u))(P:w.cell? ⟨g,a+9,none⟩=some (.int .u8 x))(C:Int)(ad:w.cell? ⟨g,a+10,none⟩=some (.int .u8 C))(k l:Nat->Int)(V:∀ b,b<8->w.cell? ⟨g,a+11+b,none⟩=some (.int .u8 (k b)))(W:∀ b,0<=k b/\k b<=255)(X:∀ b,b<8->w.cell? ⟨g,a+19+b,none⟩=some (.int .u8 (l b)))(Y:∀ b,0<=l b/\l b<=255) :
  Calls prog 72 #[.slice (some ⟨g,a,none⟩) n E] w fun e w'=>e=.returned (.tuple #[OU m o q r s t u x C (cu k 8) (cu l 8),.int .i64 27,.nilIface])/\B7 w w':=by
 go_enter func72,ntmps72
 go_wp2_with fail
 refine (cE _).mono ?_
 rintro e G ⟨rfl,z⟩;have B:B7 w G:=(ba w).trans (z.mono (by simp));have ao:w.heap.size<G.heap.size:=by have:=z.size;simp at this;omega
 go_wp2_with fail
 refine (fj g a n E 26 1 G (by omega) a9 a8 (by omega) (by omega) (by decide) (by omega) ((B.cell (p:=⟨g,a,none⟩) d).trans H) ((B.cell (p:=⟨g,a+1,none⟩) d).trans D)).mono ?_
 rintro e c ⟨rfl,A⟩;have f:B7 w c:=B.trans (A.mono (by omega));have bg:w.heap.size<c.heap.size:=by have:=A.size;omega
 have S:∀ b,c.cell? ⟨w.heap.size,b,none⟩=(#[.int .u8 0,.int .u8 0,.int .u8 0,.int .u8 0,.int .u8 0,.int .u8 0,.int .u8 0,.int .u8 0,.int .u8 0,.int .u8 0,.int .u64 0,.int .u64 0,.int .u64 0]:Array Value)[b]?:=fun b=>(A.cell (p:=⟨w.heap.size,b,none⟩) ao).trans ((z.cell (p:=⟨w.heap.size,b,none⟩) (by simp)).trans (bR w _ _ b));have T:∀ b,c.frozen? ⟨w.heap.size,b,none⟩=false:=fun b=>(A.frozen (p:=⟨w.heap.size,b,none⟩) ao).trans ((z.frozen (p:=⟨w.heap.size,b,none⟩) (by simp)).trans (by simp));clear z A;go_wp2_with fail
 refine (iy _ _ _ _).mono ?_
 rintro e bz ⟨rfl,rfl⟩;go_wp2_with fail
 have i:g<c.heap.size:=by omega
 refine (eG c.heap.size g (a+1) 26 1 _ (by simp) (by simp) (by omega) (by omega) (by rw [World.cell?_alloc_lt _ _ ⟨g,a+1,none⟩ i];exact (f.cell (p:=⟨g,a+1,none⟩) d).trans D)).mono ?_
 rintro e bv ⟨rfl,rfl⟩;go_wp2_with fail
 refine (qI c.heap.size g (a+2) 25 m o q r s t u x _ (by simp;omega) (by simp;omega) (by omega) (by omega) (by simp) (by simp)
   (by rw [aA _ _ _ i];exact (f.cell (p:=⟨g,a+2,none⟩) d).trans I)
   (by rw [aA _ _ _ i];exact (f.cell (p:=⟨g,a+3,none⟩) d).trans J)
   (by rw [aA _ _ _ i];exact (f.cell (p:=⟨g,a+4,none⟩) d).trans K)
   (by rw [aA _ _ _ i];exact (f.cell (p:=⟨g,a+5,none⟩) d).trans L)
   (by rw [aA _ _ _ i];exact (f.cell (p:=⟨g,a+6,none⟩) d).trans M)
   (by rw [aA _ _ _ i];exact (f.cell (p:=⟨g,a+7,none⟩) d).trans N)
   (by rw [aA _ _ _ i];exact (f.cell (p:=⟨g,a+8,none⟩) d).trans O)
   (by rw [aA _ _ _ i];exact (f.cell (p:=⟨g,a+9,none⟩) d).trans P)).mono ?_
 rintro e bw ⟨rfl,U⟩;have j:=St.of_key f d bg S T U;clear U S T I J K L M N O P H D B f;have a0:=aa V;have a1:=aa W;have a2:=aa X;have a3:=aa Y;have av:=aa ad;clear V W X Y ad;have bb:=j.r;have bd:=j.rf;have a6:=j.R;have a7:=j.Rf;have bl:¬w.heap.size=c.heap.size+1:=by omega
 have bo:¬c.heap.size+1=w.heap.size:=by omega
 go_wp2_with fail
 have h:=((((((((j.setr 1 (by simp) (.int .u8 m)).setr 2 (by simp) (.int .u8 o)).setr 3 (by simp) (.int .u8 q)).setr 4 (by simp) (.int .u8 r)).setr 5 (by simp) (.int .u8 s)).setr 6 (by simp) (.int .u8 t)).setr 7 (by simp) (.int .u8 u)).setr 8 (by simp) (.int .u8 x));refine (ts c.heap.size g (a+10) 17 C k l _ (by have:=h.sz;omega) (by omega) (by have:=h.sz;omega) h.F h.Ff (by omega) (by omega) ((h.G (a+10)).trans av.out) (fun b F=>(h.G (a+10+1+b)).trans (by rw [show a+10+1+b=a+11+b by omega];exact a0.out b F)) a1.out (fun b F=>(h.G (a+10+9+b)).trans (by rw [show a+10+9+b=a+19+b by omega];exact a2.out b F)) a3.out).mono ?_
 rintro e bi ⟨rfl,⟨a4,Q,-⟩,R,Z⟩;have y:St w c bi g (.slice a4 0 0) #[.int .u8 1,.int .u8 m,.int .u8 o,.int .u8 q,.int .u8 r,.int .u8 s,.int .u8 t,.int .u8 u,.int .u8 x,.int .u8 0,.int .u64 0,.int .u64 0,.int .u64 0]:=h.of_grown Z Q R;clear h bb bd a6 a7 j Q R Z;have bs:=y.r;have bu:=y.rf;have a5:=y.R;have bj:=y.Rf;go_wp2
 refine bodyPost_ret (v:=.tuple #[OU m o q r s t u x C (cu k 8) (cu l 8),.int .i64 27,.nilIface]) (by simp [results,results72,go_sem,a5]) rfl ⟨rfl,?_⟩
 repeat (refine Below.setCell ?_ (by first | exact lz | (show _<=c.heap.size+1;omega) | (show _<=c.heap.size;omega)) _)
 exact y.B
theorem u64w (n:Int)(a:0<=n)(b:n<=18446744073709551615):IntKind.u64.wrap n=n:=by rw [IntKind.wrap_u64];omega
theorem jbx (a y:Int)(h:1<=y)(c:0<=a)(g:a<=18446744073709551615):IntKind.u64.wrap (a.tdiv y)=a / y/\0<=a / y/\a / y<=18446744073709551615/\a / y * y<=a/\0<=a / y * y:=by
 have e:a.tdiv y=a / y:=Int.tdiv_eq_ediv_of_nonneg c;have b:0<=a / y:=Int.ediv_nonneg c (by omega);have f:a / y<=a:=Int.ediv_le_self y c;have d:a / y * y<=a:=Int.ediv_mul_le a (by omega);exact⟨by rw [e];exact u64w _ b (by omega),b,by omega,d,Int.mul_nonneg b (by omega)⟩
theorem jcy (q:Qt)(a:Int)(w:World)(d:q.kd=2)(i:1<=q.y)(g:0<=a)(h:a<=18446744073709551615) :
  Calls prog 177 #[Ow q.x q.y q.lv q.wn,.int .u64 a] w fun e w'=>
   e=.returned (ou (aG q a).kd (aG q a).x (aG q a).y (aG q a).lv (aG q a).wn)/\B7 w w':=by
 obtain⟨c,_⟩:=jbx a q.y i g h;have f:¬q.kd=1:=by omega
 by_cases b:a / q.y=q.wn
 ·have e:aG q a=q:=by unfold aG;rw [if_neg f,if_pos b]
  rw [e,d];refine (jz 2 q.x q.y q.lv q.wn a w (by omega) (by rw [c,b])).mono ?_
  rintro e w' ⟨rfl,rfl⟩;exact⟨rfl,(ba w).alloc (by simp) _⟩
 ·have e:aG q a=⟨q.kd,q.x,q.y,0,a / q.y⟩:=by unfold aG;rw [if_neg f,if_neg b]
  rw [e,d];refine (jV 2 q.x q.y q.lv q.wn a (a / q.y) w (by omega) c (by simpa using b)).mono ?_
  rintro e w' ⟨rfl,rfl⟩;exact⟨rfl,(ba w).alloc (by simp) _⟩
theorem jcx (q:Qt)(a:Int)(w:World) :
  Calls prog 174 #[Oj q.x q.y q.lv q.wn,.int .u64 a] w fun e w'=>
   e=.returned (Oj q.x q.y q.lv q.wn)/\B7 w w':=by
 refine (rg 1 q.x q.y q.lv q.wn a w).mono ?_
 rintro e w' ⟨rfl,rfl⟩;exact⟨rfl,(ba w).alloc (by simp) _⟩
theorem tD (q:Qt)(a:Int)(w:World)(g:q.ok)(d:0<=a)(f:a<=18446744073709551615) :
  Calls prog 140 #[ou q.kd q.x q.y q.lv q.wn,.int .u64 a] w fun e w'=>
   e=.returned (um (aG q a).lv (aG q a).wn)/\B7 w w':=by
 rcases g.kd with ⟨b,_⟩ | ⟨b,h⟩
 ·have e:aG q a=q:=by unfold aG;rw [if_pos b]
  rw [e,b];exact jef q.x q.y q.lv q.wn a 1 q.x q.y q.lv q.wn w (fun c=>jcx q a c)
 ·rw [b];exact jeg q.x q.y q.lv q.wn a _ _ _ _ _ w (fun c=>jcy q a c b h d f)
theorem ji (q:Qt)(b:Int)(a:q.ok)(e:0<=b)(f:b<=18446744073709551615):(aG q b).ok:=by
 unfold aG;split
 ·exact a
 ·split
  ·exact a
  ·rcases a.kd with ⟨g,_⟩ | ⟨g,h⟩
   ·contradiction
   ·obtain⟨_,c,d,_⟩:=jbx b q.y h e f;exact⟨a.kd,a.x,a.y,⟨by simp,by simp⟩,⟨c,d⟩⟩
theorem jc4 (q:Qt)(a:Int)(b:q.kd=2):(aG q a).wn=a / q.y/\(aG q a).y=q.y/\(aG q a).x=q.x/\(aG q a).kd=q.kd:=by
 unfold aG;rw [if_neg (by omega)];split
 ·exact⟨by omega,rfl,rfl,rfl⟩
 ·exact⟨rfl,rfl,rfl,rfl⟩
theorem iz (q:Qt)(a n:Int)(w:World)(b:q.ok)(j:0<=a)(k:a<=18446744073709551615)(g:0<=n)(m:n<=18446744073709551615)(z:Qt×Rp)(t:z=aI q a n) :
  Calls prog 137 #[ou q.kd q.x q.y q.lv q.wn,.int .u64 a,.int .u64 n] w fun e w'=>
   e=.returned (.tuple #[ou z.1.kd z.1.x z.1.y z.1.lv z.1.wn,ot z.2.c z.2.a z.2.b])/\B7 w w':=by
 rcases b.kd with ⟨d,N⟩ | ⟨d,B⟩
 ·have e:z=mo q a n:=by rw [t];unfold aI;rw [if_pos d]
  rw [d];refine jd9 q.x q.y q.lv q.wn a n 1 q.x q.y q.lv q.wn _ _ _ _ _ _ _ _ w (fun c=>jcx q a c) (fun c=>?_)
  subst e;clear t;unfold mo;by_cases l:n=0
  ·rw [if_pos l];simp only [d];exact tz 1 q.x q.y q.lv q.wn a n c l
  rw [if_neg l];have M:0<=bn q a:=by unfold bn;have:=b.lv;split <;> omega
  have s:0<=n * q.x:=Int.mul_nonneg g (by omega);have E:0<=(n - 1) * q.x:=Int.mul_nonneg (by omega) (by omega);have L:n * q.x=(n - 1) * q.x+q.x:=by rw [Int.sub_mul];omega
  by_cases h:18446744073709551615<bn q a+n * q.x
  ·rw [if_pos h];simp only [d];exact tv 1 q.x q.y q.lv q.wn a n c g m b.x.1 b.x.2 b.y.1 b.y.2 b.lv.1 b.lv.2 j k l (bn q a) _ rfl rfl s h
  rw [if_neg h];have v:IntKind.u64.wrap (n - 1)=n - 1:=u64w _ (by omega) (by omega);have x:IntKind.u64.wrap ((n - 1) * q.x)=(n - 1) * q.x:=u64w _ E (by omega);by_cases i:q.y<(n - 1) * q.x
  ·rw [if_pos i];simp only [d];exact jaE 1 q.x q.y q.lv q.wn a n c g m b.x.1 b.x.2 b.y.1 b.y.2 b.lv.1 b.lv.2 j k l (bn q a) _ rfl rfl s (by omega) (n - 1) _ v x i
  rw [if_neg i];have C:IntKind.u64.wrap (bn q a+(n - 1) * q.x)=bn q a+(n - 1) * q.x:=u64w _ (by omega) (by omega);by_cases o:al (a+q.y)<bn q a+(n - 1) * q.x
  ·rw [if_pos o];simp only [d];have K:q.y<=bn q a+(n - 1) * q.x:=by
    unfold al at o;split at o <;> omega
   exact tu 1 q.x q.y q.lv q.wn a n c g m b.x.1 b.x.2 b.y.1 b.y.2 b.lv.1 b.lv.2 j k l (bn q a) _ rfl rfl s (by omega) (n - 1) _ v x (by omega) _ C _ rfl o _ (u64w _ (by omega) (by omega))
  ·rw [if_neg o];simp only [d];exact jcs 1 q.x q.y q.lv q.wn a n c g m b.x.1 b.x.2 b.y.1 b.y.2 b.lv.1 b.lv.2 j k l (bn q a) _ rfl rfl s (by omega) (n - 1) _ v x (by omega) _ C _ rfl (by omega)
 ·have e:z=nZ (aG q a) n:=by rw [t];unfold aI;rw [if_neg (by omega)]
  obtain⟨p,r,F,G⟩:=jc4 q a d;obtain⟨_,H,I,J,y⟩:=jbx a q.y B j k;have f:=ji q a b j k;have A:∀ c,_:=fun c=>jcy q a c d B j k;rw [d];generalize aG q a=u at e p r F G f A;refine jea q.x q.y q.lv q.wn a n u.kd u.x u.y u.lv u.wn _ _ _ _ _ _ _ _ w A (fun c=>?_)
  subst e;unfold nZ;by_cases h:u.lv+n<=u.x
  ·rw [if_pos h];exact jct u.kd u.x u.y u.lv u.wn a n c f.lv.1 g f.x.2 h
  rw [if_neg h];by_cases i:u.x<n
  ·rw [if_pos i];exact qZ u.kd u.x u.y u.lv u.wn a n c f.lv.1 f.lv.2 g m f.x.2 (by omega) i
  ·rw [if_neg i];have D:IntKind.u64.wrap (u.wn * u.y)=u.wn * u.y:=u64w _ (by rw [p,r];exact y) (by rw [p,r];omega);exact tA u.kd u.x u.y u.lv u.wn a n c f.lv.1 f.lv.2 g m f.x.2 (by omega) (by omega) _ D (by rw [p,r];exact y) (by rw [p,r];omega) f.y.1 f.y.2
end Go.Proofs.YtnlgndpcddngoaaGreatDoor
