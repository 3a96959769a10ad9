import Derived.Test.YtlcnkcgmjnfbiaaGreatDoorZ14
import Derived.Deep.DeepCutAuto
set_option linter.all false
set_option maxRecDepth 100000
set_option maxHeartbeats 4000000
namespace Go.Proofs.YtlcnkcgmjnfbiaaGreatDoor
open Go.Proofs.Tryz Go.RowKit
variable [dK] [iK]
theorem jfn (w:World):(Instr.index 313 (oN) (.int .u8 1)).run prog w=.ok (ud) w:=by kernel_rfl
theorem jd9 (x y r u t n G K L I J m A B s z c a b:Int)(w:World)
  (R:Hid (∀ g,Calls prog 195 #[Oj x y r u,.int .u64 t] g fun e w'=>e=.returned (ou G K L I J)/\B7 g w'))
  (P:Hid (∀ g,Calls prog 196 #[ou G K L I J,.int .u64 t,.int .u64 n] g fun e w'=>e=.returned (.tuple #[ou m A B s z,ot c a b])/\B7 g w')) :
  Calls prog 164 #[Oj x y r u,.int .u64 t,.int .u64 n] w fun e w'=>e=.returned (.tuple #[ou m A B s z,ot c a b])/\B7 w w':=by
 have Y:=jfn;go_enter func164,ntmps164
 go_upto_region 1 with fail
 go_cut [8] (fun T i=>∃ j,T=.pointer (some ⟨j,0,none⟩)/\i.heap[w.heap.size]?=some (ul x y r u)/\i.heap[w.heap.size+1]?=some (oq)/\i.heap[w.heap.size+2]?=some (og)/\i.heap[j]?=some (.cells #[.func (.func 195) #[] #[],.func (.func 196) #[] #[],.func (.func 197) #[] #[]] 312)/\B7 w i)
 case first=>
  go_region_with (go_at_call 180;refine (gO _).mono ?_;rintro e g ⟨rfl,rfl⟩)
  all_goals (go_wp2_with fail;go_meet)
  all_goals (
    refine⟨_,rfl,?_,?_,?_,?_,?_⟩
    · repeat (first | exact aD (by simp) | (refine (aF _ _).trans ?_) | (refine (ah _ _ (by simp <;> omega)).trans ?_))
    · repeat (first | exact aD (by simp) | (refine (aF _ _).trans ?_) | (refine (ah _ _ (by simp <;> omega)).trans ?_))
    · repeat (first | exact aD (by simp) | (refine (aF _ _).trans ?_) | (refine (ah _ _ (by simp <;> omega)).trans ?_))
    · repeat (first | exact aD (by simp) | (refine (aF _ _).trans ?_) | (refine (ah _ _ (by simp <;> omega)).trans ?_))
    · exact (((((Below.refl _ w).alloc (by simp) _).alloc (by simp) _).alloc (by simp <;> omega) _).alloc (by simp <;> omega) _).alloc (by simp <;> omega) _ |>.drew)
 case rest=>
  obtain⟨j,rfl,E,k,l,F,Q⟩:=hcut;have U:=ab E;have M:=ab F;have H:=an E;have o:=an k;have q:=an l;have S:=an F;go_wp2_with fail
  go_region_with (first | (go_at_call 195;refine (R.out _).mono ?_;rintro e g ⟨rfl,f⟩;have V:=fun d=>(f.cell (p:=⟨j,d,none⟩) S).trans (M d)) | (go_at_call 196;refine (P.out _).mono ?_;rintro e Z ⟨rfl,h⟩;have C:=ll o f.size;have D:=ll q f.size;have N:=fun d=>(h.cell (p:=⟨w.heap.size+1,d,none⟩) C).trans ((f.cell (p:=⟨w.heap.size+1,d,none⟩) o).trans (ab k d));have O:=fun d=>(h.cell (p:=⟨w.heap.size+2,d,none⟩) D).trans ((f.cell (p:=⟨w.heap.size+2,d,none⟩) q).trans (ab l d));have W:=fun d=>(h.frozen (p:=⟨w.heap.size+1,d,none⟩) C).trans ((f.frozen (p:=⟨w.heap.size+1,d,none⟩) o).trans (af k d));have X:=fun d=>(h.frozen (p:=⟨w.heap.size+2,d,none⟩) D).trans ((f.frozen (p:=⟨w.heap.size+2,d,none⟩) q).trans (af l d))))
  all_goals go_wp2
  all_goals (
    refine bodyPost_ret (v:=.tuple #[ou m A B s z,ot c a b]) (by simp [results,results164,go_sem,N,O]) rfl ⟨rfl,?_⟩
    repeat (refine Below.setCell ?_ (by simp <;> omega) _)
    exact Q.drew.trans (((Below.mono f (Nat.le_of_lt H)).trans (Below.mono h (Nat.le_of_lt (ll H f.size))))))
end Go.Proofs.YtlcnkcgmjnfbiaaGreatDoor
