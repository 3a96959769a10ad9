import Derived.Test.YtnlgndpcddngoaaGreatDoorZ20
set_option linter.all false
set_option maxRecDepth 100000
set_option maxHeartbeats 1000000
namespace Go.Proofs.YtnlgndpcddngoaaGreatDoor
open Go.Proofs.Tryz Go.RowKit
variable [dK] [iK]
theorem jed (d x y a g blk f:Int)(w:World)(c:U7 a)(b:U7 blk)(j:f=al (a+blk)) :
  Calls prog 176 #[ou d x y a g,.int .u64 blk] w fun e w'=>e=.returned (ou d x y f g)/\B7 w w':=by
 have i:=aa (fun w=>dB a blk w c.1 b.1 c.2 b.2);rw [<-j] at i;clear c b j;go_enter func176,ntmps176
 go_wp2_with fail
 refine (i.out _).mono ?_
 rintro e l ⟨rfl,k⟩;rw [k];clear k;go_wp2
 refine bodyPost_ret (v:=(ou d x y f g)) (by simp [results,results176,go_sem]) rfl ⟨rfl,?_⟩
 repeat (first | exact Below.refl _ _ | (refine Below.setCell ?_ (by simp) _) | (refine Below.alloc ?_ (by simp) _))
theorem jee (b x y i c blk s a:Int)(w:World)(k:U7 i)(j:U7 blk)(n:s=al (i+blk))(f:a=if s<x then s else x) :
  Calls prog 179 #[ou b x y i c,.int .u64 blk] w fun e w'=>e=.returned (ou b x y a c)/\B7 w w':=by
 have d:=aa (fun w=>dB i blk w k.1 j.1 k.2 j.2);rw [<-n] at d;clear k j n;by_cases g:s<x
 ·rw [if_pos g] at f;subst f;have m:a<=x:=by omega
  go_enter func179,ntmps179
  go_upto_region 1 with fail
  go_region_with (go_at_call 190;refine (d.out _).mono ?_;rintro e o ⟨rfl,rfl⟩)
  all_goals go_wp2
  all_goals first | (exfalso;omega) | skip
  all_goals (
    refine bodyPost_ret (v:=(ou b x y a c)) (by simp [results,results179,go_sem]) rfl ⟨rfl,?_⟩
    refine Below.drew ?_
    repeat (first | exact Below.refl _ _ | (refine Below.setCell ?_ (by simp) _) | (refine Below.alloc ?_ (by simp) _)))
 ·rw [if_neg g] at f;subst f;by_cases l:s=a
  ·subst l;have m:s<=s:=Int.le_refl s;clear g;go_enter func179,ntmps179
   go_upto_region 1 with fail
   go_region_with (go_at_call 190;refine (d.out _).mono ?_;rintro e o ⟨rfl,rfl⟩)
   all_goals go_wp2
   all_goals first | (exfalso;omega) | skip
   all_goals (
     refine bodyPost_ret (v:=(ou b s y s c)) (by simp [results,results179,go_sem]) rfl ⟨rfl,?_⟩
     refine Below.drew ?_
     repeat (first | exact Below.refl _ _ | (refine Below.setCell ?_ (by simp) _) | (refine Below.alloc ?_ (by simp) _)))
  ·have p:a<s:=by omega
   have m:¬s<=a:=by omega
   clear g l;go_enter func179,ntmps179
   go_upto_region 1 with fail
   go_region_with (go_at_call 190;refine (d.out _).mono ?_;rintro e o ⟨rfl,rfl⟩)
   all_goals go_wp2
   all_goals first | (exfalso;omega) | skip
   all_goals (
     refine bodyPost_ret (v:=(ou b a y a c)) (by simp [results,results179,go_sem]) rfl ⟨rfl,?_⟩
     refine Below.drew ?_
     repeat (first | exact Below.refl _ _ | (refine Below.setCell ?_ (by simp) _) | (refine Below.alloc ?_ (by simp) _)))
theorem tB (q:Qt)(blk:Int)(w:World)(b:q.ok)(d:U7 blk) :
  Calls prog 139 #[ou q.kd q.x q.y q.lv q.wn,.int .u64 blk] w fun e w'=>e=.returned (ou (bA q blk).kd (bA q blk).x (bA q blk).y (bA q blk).lv (bA q blk).wn)/\B7 w w':=by
 rcases b.kd with ⟨a,_⟩ | ⟨a,_⟩
 ·have e:bA q blk=⟨q.kd,q.x,q.y,al (q.lv+blk),q.wn⟩:=by unfold bA;rw [if_pos a]
  rw [e];simp only [a];exact jeb q.x q.y q.lv q.wn blk _ w (aa fun c=>jed 1 q.x q.y q.lv q.wn blk _ c b.lv d rfl)
 ·have e:bA q blk=⟨q.kd,q.x,q.y,if al (q.lv+blk)<q.x then al (q.lv+blk) else q.x,q.wn⟩:=by unfold bA;rw [if_neg (by omega)]
  rw [e];simp only [a];exact jec q.x q.y q.lv q.wn blk _ w (aa fun c=>jee 2 q.x q.y q.lv q.wn blk _ _ c b.lv d rfl rfl)
theorem mQ (q:Qt)(blk:Int)(a:q.ok)(d:0<=blk):(bA q blk).ok:=by
 have b:=lF (q.lv+blk) (by have:=a.lv;omega);have c:=a.x;unfold bA;split
 ·exact⟨a.kd,a.x,a.y,b,a.wn⟩
 ·refine⟨a.kd,a.x,a.y,?_,a.wn⟩
  dsimp only;split
  ·exact b
  ·exact c
end Go.Proofs.YtnlgndpcddngoaaGreatDoor
