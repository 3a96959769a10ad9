import Derived.Test.YtnlgndpcddngoaaGreatDoorZ14
set_option linter.all false
set_option maxRecDepth 100000
set_option maxHeartbeats 1000000
namespace Go.Proofs.YtnlgndpcddngoaaGreatDoor
open Go.Proofs.Tryz Go.RowKit
variable [dK] [iK]
theorem jct (c x y a b g n:Int)(w:World)(d:0<=a)(f:0<=n)(i:x<=18446744073709551615)(h:a+n<=x) :
  Calls prog 178 #[ou c x y a b,.int .u64 g,.int .u64 n] w fun e w'=>
   e=.returned (.tuple #[ou c x y (a+n) b,Oi (a+n) b])/\B7 w w':=by
 go_enter func178,ntmps178
 go_wp2_with (go_at_call 191;refine (gJ a n _ d f (by omega)).mono ?_;rintro e w' ⟨rfl,rfl⟩)
 go_region_with (go_at_call 158;refine (lH _ _ _ _ _ _ _).mono ?_;rintro e j ⟨rfl,rfl⟩)
 all_goals go_wp2
 all_goals exact bodyPost_ret (v:=.tuple #[ou c x y (a+n) b,Oi (a+n) b]) (by simp [results,results178,go_sem]) rfl ⟨rfl,(((((ba w).alloc (by simp <;> omega) _).alloc (by simp <;> omega) _).alloc (by simp <;> omega) _).alloc (by simp <;> omega) _).drew⟩
theorem qZ (b x y a c l n:Int)(w:World)(f:0<=a)(i:a<=18446744073709551615)(g:0<=n)(j:n<=18446744073709551615)(m:x<=18446744073709551615)(o:x<a+n)(h:x<n) :
  Calls prog 178 #[ou b x y a c,.int .u64 l,.int .u64 n] w fun e w'=>
   e=.returned (.tuple #[ou b x y a c,Ov])/\B7 w w':=by
 by_cases k:a+n<=18446744073709551615
 ·go_enter func178,ntmps178
  go_wp2_with (go_at_call 191;refine (gJ a n _ f g k).mono ?_;rintro e w' ⟨rfl,rfl⟩)
  go_region_with (first | (go_at_call 192;refine (jQ _ _ _ _ _ _ _ h).mono ?_;rintro e d ⟨rfl,rfl⟩) | (go_at_call 189;refine (dI _ _).mono ?_;rintro e d ⟨rfl,rfl⟩))
  all_goals go_wp2
  all_goals exact bodyPost_ret (v:=.tuple #[ou b x y a c,Ov]) (by simp [results,results178,go_sem]) rfl ⟨rfl,(((((ba w).alloc (by simp <;> omega) _).alloc (by simp <;> omega) _).alloc (by simp <;> omega) _).alloc (by simp <;> omega) _).drew⟩
 ·go_enter func178,ntmps178
  go_wp2_with (go_at_call 191;refine (jg a n _ f g i j (by omega)).mono ?_;rintro e w' ⟨rfl,rfl⟩)
  go_region_with (first | (go_at_call 192;refine (jQ _ _ _ _ _ _ _ h).mono ?_;rintro e d ⟨rfl,rfl⟩) | (go_at_call 189;refine (dI _ _).mono ?_;rintro e d ⟨rfl,rfl⟩))
  all_goals go_wp2
  all_goals exact bodyPost_ret (v:=.tuple #[ou b x y a c,Ov]) (by simp [results,results178,go_sem]) rfl ⟨rfl,(((((ba w).alloc (by simp <;> omega) _).alloc (by simp <;> omega) _).alloc (by simp <;> omega) _).alloc (by simp <;> omega) _).drew⟩
theorem tA (c x y a b s n:Int)(w:World)(f:0<=a)(o:a<=18446744073709551615)(g:0<=n)(q:n<=18446744073709551615)(t:x<=18446744073709551615)(u:x<a+n)(k:n<=x)(p:Int)(h:IntKind.u64.wrap (b * y)=p)(i:0<=p)(j:p<=18446744073709551615)(l:0<=y)(m:y<=18446744073709551615) :
  Calls prog 178 #[ou c x y a b,.int .u64 s,.int .u64 n] w fun e w'=>
   e=.returned (.tuple #[ou c x y a b,ON (al (p+y))])/\B7 w w':=by
 by_cases r:a+n<=18446744073709551615
 ·go_enter func178,ntmps178
  go_wp2_with (go_at_call 191;refine (gJ a n _ f g r).mono ?_;rintro e w' ⟨rfl,rfl⟩)
  go_region_with (first | (go_at_call 192;refine (lG _ _ _ _ _ _ p _ k h i j l m).mono ?_;rintro e d ⟨rfl,rfl⟩) | (go_at_call 189;refine (dI _ _).mono ?_;rintro e d ⟨rfl,rfl⟩))
  all_goals go_wp2
  all_goals exact bodyPost_ret (v:=.tuple #[ou c x y a b,ON (al (p+y))]) (by simp [results,results178,go_sem]) rfl ⟨rfl,(((((ba w).alloc (by simp <;> omega) _).alloc (by simp <;> omega) _).alloc (by simp <;> omega) _).alloc (by simp <;> omega) _).drew⟩
 ·go_enter func178,ntmps178
  go_wp2_with (go_at_call 191;refine (jg a n _ f g o q (by omega)).mono ?_;rintro e w' ⟨rfl,rfl⟩)
  go_region_with (first | (go_at_call 192;refine (lG _ _ _ _ _ _ p _ k h i j l m).mono ?_;rintro e d ⟨rfl,rfl⟩) | (go_at_call 189;refine (dI _ _).mono ?_;rintro e d ⟨rfl,rfl⟩))
  all_goals go_wp2
  all_goals exact bodyPost_ret (v:=.tuple #[ou c x y a b,ON (al (p+y))]) (by simp [results,results178,go_sem]) rfl ⟨rfl,(((((ba w).alloc (by simp <;> omega) _).alloc (by simp <;> omega) _).alloc (by simp <;> omega) _).alloc (by simp <;> omega) _).drew⟩
end Go.Proofs.YtnlgndpcddngoaaGreatDoor
