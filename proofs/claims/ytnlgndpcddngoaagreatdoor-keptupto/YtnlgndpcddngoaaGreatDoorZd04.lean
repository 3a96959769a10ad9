import Derived.Test.YtnlgndpcddngoaaGreatDoorZd00
set_option linter.unusedVariables false
set_option linter.unusedSimpArgs false
set_option maxRecDepth 100000
set_option maxHeartbeats 1000000
namespace Go.Proofs.YtnlgndpcddngoaaGreatDoor
open Go.RowKit
theorem jj7 (kd x y lv wn now n:Int)(w:World)(hl0:0≤lv)(hn0:0≤n)(hx1:x≤18446744073709551615)(h:lv+n≤x) :
  Calls Tryz.prog 178 #[.agg #[.int .u8 kd,.int .u64 x,.int .u64 y,.int .u64 lv,.int .u64 wn],.int .u64 now,.int .u64 n] w fun e w'=>
   e=.returned (.tuple #[.agg #[.int .u8 kd,.int .u64 x,.int .u64 y,.int .u64 (lv+n),.int .u64 wn],.agg #[.int .u8 2,.int .u64 (lv+n),.int .u64 wn]])∧Below w.heap.size w w':=by
 go_enter Tryz.func178,Tryz.ntmps178
 go_wp2_with (go_at_call 191;refine (jbw lv n _ hl0 hn0 (by omega)).mono ?_;rintro e w' ⟨rfl,rfl⟩)
 go_region_with (go_at_call 158;refine (jdO _ _ _ _ _ _ _).mono ?_;rintro e w1 ⟨rfl,rfl⟩)
 all_goals go_wp2
 all_goals exact bodyPost_ret (v:=.tuple #[.agg #[.int .u8 kd,.int .u64 x,.int .u64 y,.int .u64 (lv+n),.int .u64 wn],.agg #[.int .u8 2,.int .u64 (lv+n),.int .u64 wn]]) (by simp [results,Tryz.results178,go_sem]) rfl ⟨rfl,((((((Below.refl _ w).alloc (Nat.le_refl _) _).alloc (by simp <;> omega) _).alloc (by simp <;> omega) _).alloc (by simp <;> omega) _).alloc (by simp <;> omega) _).drew⟩
theorem jdX (kd x y lv wn now n:Int)(w:World)(hl0:0≤lv)(hl1:lv≤18446744073709551615)(hn0:0≤n)(hn1:n≤18446744073709551615)(_hx1:x≤18446744073709551615)(h:x<lv+n)(hx:x<n) :
  Calls Tryz.prog 178 #[.agg #[.int .u8 kd,.int .u64 x,.int .u64 y,.int .u64 lv,.int .u64 wn],.int .u64 now,.int .u64 n] w fun e w'=>
   e=.returned (.tuple #[.agg #[.int .u8 kd,.int .u64 x,.int .u64 y,.int .u64 lv,.int .u64 wn],.agg #[.int .u8 3,.int .u64 18446744073709551615,.int .u64 0]])∧Below w.heap.size w w':=by
 by_cases hs:lv+n≤18446744073709551615
 ·go_enter Tryz.func178,Tryz.ntmps178
  go_wp2_with (go_at_call 191;refine (jbw lv n _ hl0 hn0 hs).mono ?_;rintro e w' ⟨rfl,rfl⟩)
  go_region_with (first | (go_at_call 192;refine (jcu _ _ _ _ _ _ _ hx).mono ?_;rintro e w1 ⟨rfl,rfl⟩) | (go_at_call 189;refine (jb0 _ _).mono ?_;rintro e w1 ⟨rfl,rfl⟩))
  all_goals go_wp2
  all_goals exact bodyPost_ret (v:=.tuple #[.agg #[.int .u8 kd,.int .u64 x,.int .u64 y,.int .u64 lv,.int .u64 wn],.agg #[.int .u8 3,.int .u64 18446744073709551615,.int .u64 0]]) (by simp [results,Tryz.results178,go_sem]) rfl ⟨rfl,((((((Below.refl _ w).alloc (Nat.le_refl _) _).alloc (by simp <;> omega) _).alloc (by simp <;> omega) _).alloc (by simp <;> omega) _).alloc (by simp <;> omega) _).drew⟩
 ·go_enter Tryz.func178,Tryz.ntmps178
  go_wp2_with (go_at_call 191;refine (jc4 lv n _ hl0 hn0 hl1 hn1 (by omega)).mono ?_;rintro e w' ⟨rfl,rfl⟩)
  go_region_with (first | (go_at_call 192;refine (jcu _ _ _ _ _ _ _ hx).mono ?_;rintro e w1 ⟨rfl,rfl⟩) | (go_at_call 189;refine (jb0 _ _).mono ?_;rintro e w1 ⟨rfl,rfl⟩))
  all_goals go_wp2
  all_goals exact bodyPost_ret (v:=.tuple #[.agg #[.int .u8 kd,.int .u64 x,.int .u64 y,.int .u64 lv,.int .u64 wn],.agg #[.int .u8 3,.int .u64 18446744073709551615,.int .u64 0]]) (by simp [results,Tryz.results178,go_sem]) rfl ⟨rfl,((((((Below.refl _ w).alloc (Nat.le_refl _) _).alloc (by simp <;> omega) _).alloc (by simp <;> omega) _).alloc (by simp <;> omega) _).alloc (by simp <;> omega) _).drew⟩
theorem jfV (kd x y lv wn now n:Int)(w:World)(hl0:0≤lv)(hl1:lv≤18446744073709551615)(hn0:0≤n)(hn1:n≤18446744073709551615)(_hx1:x≤18446744073709551615)(h:x<lv+n)(hx:n≤x)(p:Int)(hp:IntKind.u64.wrap (wn * y)=p)(hp0:0≤p)(hp1:p≤18446744073709551615)(hy0:0≤y)(hy1:y≤18446744073709551615) :
  Calls Tryz.prog 178 #[.agg #[.int .u8 kd,.int .u64 x,.int .u64 y,.int .u64 lv,.int .u64 wn],.int .u64 now,.int .u64 n] w fun e w'=>
   e=.returned (.tuple #[.agg #[.int .u8 kd,.int .u64 x,.int .u64 y,.int .u64 lv,.int .u64 wn],.agg #[.int .u8 3,.int .u64 (ja6 (p+y)),.int .u64 0]])∧Below w.heap.size w w':=by
 by_cases hs:lv+n≤18446744073709551615
 ·go_enter Tryz.func178,Tryz.ntmps178
  go_wp2_with (go_at_call 191;refine (jbw lv n _ hl0 hn0 hs).mono ?_;rintro e w' ⟨rfl,rfl⟩)
  go_region_with (first | (go_at_call 192;refine (jcF _ _ _ _ _ _ p _ hx hp hp0 hp1 hy0 hy1).mono ?_;rintro e w1 ⟨rfl,rfl⟩) | (go_at_call 189;refine (jb0 _ _).mono ?_;rintro e w1 ⟨rfl,rfl⟩))
  all_goals go_wp2
  all_goals exact bodyPost_ret (v:=.tuple #[.agg #[.int .u8 kd,.int .u64 x,.int .u64 y,.int .u64 lv,.int .u64 wn],.agg #[.int .u8 3,.int .u64 (ja6 (p+y)),.int .u64 0]]) (by simp [results,Tryz.results178,go_sem]) rfl ⟨rfl,((((((Below.refl _ w).alloc (Nat.le_refl _) _).alloc (by simp <;> omega) _).alloc (by simp <;> omega) _).alloc (by simp <;> omega) _).alloc (by simp <;> omega) _).drew⟩
 ·go_enter Tryz.func178,Tryz.ntmps178
  go_wp2_with (go_at_call 191;refine (jc4 lv n _ hl0 hn0 hl1 hn1 (by omega)).mono ?_;rintro e w' ⟨rfl,rfl⟩)
  go_region_with (first | (go_at_call 192;refine (jcF _ _ _ _ _ _ p _ hx hp hp0 hp1 hy0 hy1).mono ?_;rintro e w1 ⟨rfl,rfl⟩) | (go_at_call 189;refine (jb0 _ _).mono ?_;rintro e w1 ⟨rfl,rfl⟩))
  all_goals go_wp2
  all_goals exact bodyPost_ret (v:=.tuple #[.agg #[.int .u8 kd,.int .u64 x,.int .u64 y,.int .u64 lv,.int .u64 wn],.agg #[.int .u8 3,.int .u64 (ja6 (p+y)),.int .u64 0]]) (by simp [results,Tryz.results178,go_sem]) rfl ⟨rfl,((((((Below.refl _ w).alloc (Nat.le_refl _) _).alloc (by simp <;> omega) _).alloc (by simp <;> omega) _).alloc (by simp <;> omega) _).alloc (by simp <;> omega) _).drew⟩
end Go.Proofs.YtnlgndpcddngoaaGreatDoor
