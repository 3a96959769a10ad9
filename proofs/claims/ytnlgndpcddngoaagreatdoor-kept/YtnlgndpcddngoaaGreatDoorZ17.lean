import Derived.Test.YtnlgndpcddngoaaGreatDoorZ14
import Derived.Deep.DeepCutAuto
set_option linter.all false
set_option maxRecDepth 100000
set_option maxHeartbeats 4000000
namespace Go.Proofs.YtnlgndpcddngoaaGreatDoor
open Go.Proofs.Tryz Go.RowKit
variable [dK] [iK]
theorem jfq (w:World):(Instr.index 300 (oN) (.int .u8 1)).run prog w=.ok (ud) w:=by kernel_rfl
theorem jd9 (x y r u t n G K L I J m A B s z c a b:Int)(w:World)
  (R:Hid (∀ g,Calls prog 174 #[Oj x y r u,.int .u64 t] g fun e w'=>e=.returned (ou G K L I J)/\B7 g w'))
  (P:Hid (∀ g,Calls prog 175 #[ou G K L I J,.int .u64 t,.int .u64 n] g fun e w'=>e=.returned (.tuple #[ou m A B s z,ot c a b])/\B7 g w')) :
  Calls prog 137 #[Oj x y r u,.int .u64 t,.int .u64 n] w fun e w'=>e=.returned (.tuple #[ou m A B s z,ot c a b])/\B7 w w':=by
 have Y:=jfq;go_enter func137,ntmps137
 go_upto_region 1 with fail
 go_cut [8] (fun T i=>∃ j,T=.pointer (some ⟨j,0,none⟩)/\i.heap[w.heap.size]?=some (ul x y r u)/\i.heap[w.heap.size+1]?=some (oq)/\i.heap[w.heap.size+2]?=some (og)/\i.heap[j]?=some (.cells #[.func (.func 174) #[] #[],.func (.func 175) #[] #[],.func (.func 176) #[] #[]] 299)/\B7 w i)
 case first=>
  go_region_with (go_at_call 157;refine (gP _).mono ?_;rintro e g ⟨rfl,rfl⟩)
  all_goals (go_wp2_with fail;go_meet)
  all_goals (
    refine⟨_,rfl,?_,?_,?_,?_,?_⟩
    · repeat (first | exact aC (by simp) | (refine (aE _ _).trans ?_) | (refine (ah _ _ (by simp <;> omega)).trans ?_))
    · repeat (first | exact aC (by simp) | (refine (aE _ _).trans ?_) | (refine (ah _ _ (by simp <;> omega)).trans ?_))
    · repeat (first | exact aC (by simp) | (refine (aE _ _).trans ?_) | (refine (ah _ _ (by simp <;> omega)).trans ?_))
    · repeat (first | exact aC (by simp) | (refine (aE _ _).trans ?_) | (refine (ah _ _ (by simp <;> omega)).trans ?_))
    · exact (((((Below.refl _ w).alloc (by simp) _).alloc (by simp) _).alloc (by simp <;> omega) _).alloc (by simp <;> omega) _).alloc (by simp <;> omega) _ |>.drew)
 case rest=>
  obtain⟨j,rfl,E,k,l,F,Q⟩:=hcut;have U:=ab E;have M:=ab F;have H:=am E;have o:=am k;have q:=am l;have S:=am F;go_wp2_with fail
  go_region_with (first | (go_at_call 174;refine (R.out _).mono ?_;rintro e g ⟨rfl,f⟩;have V:=fun d=>(f.cell (p:=⟨j,d,none⟩) S).trans (M d)) | (go_at_call 175;refine (P.out _).mono ?_;rintro e Z ⟨rfl,h⟩;have C:=ll o f.size;have D:=ll q f.size;have N:=fun d=>(h.cell (p:=⟨w.heap.size+1,d,none⟩) C).trans ((f.cell (p:=⟨w.heap.size+1,d,none⟩) o).trans (ab k d));have O:=fun d=>(h.cell (p:=⟨w.heap.size+2,d,none⟩) D).trans ((f.cell (p:=⟨w.heap.size+2,d,none⟩) q).trans (ab l d));have W:=fun d=>(h.frozen (p:=⟨w.heap.size+1,d,none⟩) C).trans ((f.frozen (p:=⟨w.heap.size+1,d,none⟩) o).trans (ag k d));have X:=fun d=>(h.frozen (p:=⟨w.heap.size+2,d,none⟩) D).trans ((f.frozen (p:=⟨w.heap.size+2,d,none⟩) q).trans (ag l d))))
  all_goals go_wp2
  all_goals (
    refine bodyPost_ret (v:=.tuple #[ou m A B s z,ot c a b]) (by simp [results,results137,go_sem,N,O]) rfl ⟨rfl,?_⟩
    repeat (refine Below.setCell ?_ (by simp <;> omega) _)
    exact Q.drew.trans (((Below.mono f (Nat.le_of_lt H)).trans (Below.mono h (Nat.le_of_lt (ll H f.size))))))
end Go.Proofs.YtnlgndpcddngoaaGreatDoor
