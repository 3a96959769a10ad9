import Derived.Test.YtnlgndpcddngoaaGreatDoorZ14
set_option linter.all false
set_option maxRecDepth 100000
set_option maxHeartbeats 1000000
namespace Go.Proofs.YtnlgndpcddngoaaGreatDoor
open Go.Proofs.Tryz Go.RowKit
variable [dK] [iK]
theorem tu (g x y a h b n:Int)(w:World)(o:0<=n)(q:n<=18446744073709551615)(A:0<=x)(B:x<=18446744073709551615)(F:0<=y)(G:y<=18446744073709551615)(I:0<=a)(J:a<=18446744073709551615)(D:0<=b)(E:b<=18446744073709551615)(O:n≠0)(s p:Int)(f:(if a<b then b else a)=s)(r:n * x=p)(t:0<=p)(k:s+p<=18446744073709551615)(C j:Int)(M:IntKind.u64.wrap (n - 1)=C)(N:IntKind.u64.wrap (C * x)=j)(H:j<=y)(i:Int)(K:IntKind.u64.wrap (s+j)=i)(d:Int)(l:al (b+y)=d)(L:d<i)(u:Int)(P:IntKind.u64.wrap (i - y)=u) :
  Calls prog 175 #[ou g x y a h,.int .u64 b,.int .u64 n] w fun e w'=>
   e=.returned (.tuple #[ou g x y a h,ON u])/\B7 w w':=by
 have z:∀ w,Calls prog 190 #[.int .u64 b,.int .u64 y] w fun e w'=>e=.returned (.int .u64 d)/\w'=w:=fun w=>l▸dB b y w D F E G;clear l;by_cases m:a<b
 ·rw [if_pos m] at f;subst f;go_enter func175,ntmps175
  go_wp2_with (first | (go_at_call 188;refine (dr _ _ _ _ _ _ _ p _ r o q A B (by omega) (by omega) t k).mono ?_;rintro e c ⟨rfl,rfl⟩) | (go_at_call 190;refine (z _).mono ?_;rintro e c ⟨rfl,rfl⟩))
  go_region_with (go_at_call 189;refine (dI _ _).mono ?_;rintro e c ⟨rfl,rfl⟩)
  all_goals go_wp2
  all_goals exact bodyPost_ret (v:=.tuple #[ou g x y a h,ON u]) (by simp [results,results175,go_sem]) rfl ⟨rfl,(((((ba w).alloc (by simp <;> omega) _).alloc (by simp <;> omega) _).alloc (by simp <;> omega) _).alloc (by simp <;> omega) _).drew⟩
 ·rw [if_neg m] at f;subst f;go_enter func175,ntmps175
  go_wp2_with (first | (go_at_call 188;refine (dr _ _ _ _ _ _ _ p _ r o q A B (by omega) (by omega) t k).mono ?_;rintro e c ⟨rfl,rfl⟩) | (go_at_call 190;refine (z _).mono ?_;rintro e c ⟨rfl,rfl⟩))
  go_region_with (go_at_call 189;refine (dI _ _).mono ?_;rintro e c ⟨rfl,rfl⟩)
  all_goals go_wp2
  all_goals exact bodyPost_ret (v:=.tuple #[ou g x y a h,ON u]) (by simp [results,results175,go_sem]) rfl ⟨rfl,(((((ba w).alloc (by simp <;> omega) _).alloc (by simp <;> omega) _).alloc (by simp <;> omega) _).alloc (by simp <;> omega) _).drew⟩
theorem jcs (h x y b c a n:Int)(w:World)(m:0<=n)(o:n<=18446744073709551615)(u:0<=x)(z:x<=18446744073709551615)(E:0<=y)(F:y<=18446744073709551615)(H:0<=b)(I:b<=18446744073709551615)(C:0<=a)(D:a<=18446744073709551615)(N:n≠0)(s p:Int)(g:(if b<a then a else b)=s)(q:n * x=p)(r:0<=p)(j:s+p<=18446744073709551615)(B i:Int)(L:IntKind.u64.wrap (n - 1)=B)(M:IntKind.u64.wrap (B * x)=i)(G:i<=y)(A:Int)(J:IntKind.u64.wrap (s+i)=A)(d:Int)(k:al (a+y)=d)(K:A<=d) :
  Calls prog 175 #[ou h x y b c,.int .u64 a,.int .u64 n] w fun e w'=>
   e=.returned (.tuple #[ou h x y (s+p) c,Oi (s+p) c])/\B7 w w':=by
 have t:∀ w,Calls prog 190 #[.int .u64 a,.int .u64 y] w fun e w'=>e=.returned (.int .u64 d)/\w'=w:=fun w=>k▸dB a y w C E D F;clear k;by_cases l:b<a
 ·rw [if_pos l] at g;subst g;go_enter func175,ntmps175
  go_wp2_with (first | (go_at_call 188;refine (dr _ _ _ _ _ _ _ p _ q m o u z (by omega) (by omega) r j).mono ?_;rintro e f ⟨rfl,rfl⟩) | (go_at_call 190;refine (t _).mono ?_;rintro e f ⟨rfl,rfl⟩))
  go_region_with (go_at_call 158;refine (lH _ _ _ _ _ _ _).mono ?_;rintro e f ⟨rfl,rfl⟩)
  all_goals go_wp2
  all_goals exact bodyPost_ret (v:=.tuple #[ou h x y (a+p) c,Oi (a+p) c]) (by simp [results,results175,go_sem]) rfl ⟨rfl,((((((ba w).alloc (by simp <;> omega) _).alloc (by simp <;> omega) _).alloc (by simp <;> omega) _).alloc (by simp <;> omega) _).alloc (by simp <;> omega) _).drew⟩
 ·rw [if_neg l] at g;subst g;go_enter func175,ntmps175
  go_wp2_with (first | (go_at_call 188;refine (dr _ _ _ _ _ _ _ p _ q m o u z (by omega) (by omega) r j).mono ?_;rintro e f ⟨rfl,rfl⟩) | (go_at_call 190;refine (t _).mono ?_;rintro e f ⟨rfl,rfl⟩))
  go_region_with (go_at_call 158;refine (lH _ _ _ _ _ _ _).mono ?_;rintro e f ⟨rfl,rfl⟩)
  all_goals go_wp2
  all_goals exact bodyPost_ret (v:=.tuple #[ou h x y (b+p) c,Oi (b+p) c]) (by simp [results,results175,go_sem]) rfl ⟨rfl,((((((ba w).alloc (by simp <;> omega) _).alloc (by simp <;> omega) _).alloc (by simp <;> omega) _).alloc (by simp <;> omega) _).alloc (by simp <;> omega) _).drew⟩
end Go.Proofs.YtnlgndpcddngoaaGreatDoor
