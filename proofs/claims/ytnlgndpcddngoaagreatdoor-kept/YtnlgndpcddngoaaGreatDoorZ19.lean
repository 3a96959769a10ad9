import Derived.Test.YtnlgndpcddngoaaGreatDoorZ14
set_option linter.all false
set_option maxRecDepth 100000
set_option maxHeartbeats 2000000
namespace Go.Proofs.YtnlgndpcddngoaaGreatDoor
open Go.Proofs.Tryz Go.RowKit
variable [dK] [iK]
theorem vI (w:World):(Instr.index 300 (oN) (.int .u8 1)).run prog w=.ok (ud) w:=by kernel_rfl
theorem vJ (w:World):(Instr.index 300 (oN) (.int .u8 2)).run prog w=.ok (OZ) w:=by kernel_rfl
theorem jdL (w:World):(Instr.field 299 (ud) 0).run prog w=.ok (.func (.func 174) #[] #[]) w:=by kernel_rfl
theorem jdM (w:World):(Instr.field 299 (OZ) 0).run prog w=.ok (.func (.func 177) #[] #[]) w:=by kernel_rfl
theorem vY (d x y a b c:Int)(w:World) :
  Calls prog 158 #[ou d x y a b,.int .u8 c] w fun e w'=>e=.returned (ot c a b)/\B7 w w':=by
 refine (lH d x y a b c w).mono ?_
 rintro e w' ⟨rfl,rfl⟩;exact⟨rfl,(ba w).alloc (by simp) _⟩
theorem jef (x y g h q t u z l m:Int)(w:World)
  (s:Hid (∀ b,Calls prog 174 #[Oj x y g h,.int .u64 q] b fun e w'=>e=.returned (ou t u z l m)/\B7 b w')) :
  Calls prog 140 #[Oj x y g h,.int .u64 q] w fun e w'=>e=.returned (um l m)/\B7 w w':=by
 have D:=vI;have E:=jdL;go_enter func140,ntmps140
 go_wp2_with fail
 obtain⟨c,d⟩:∃ c,c=(w.alloc (ul x y g h)).alloc (og):=⟨_,rfl⟩;rw [<-d];have o:B7 w c:=d▸(ba w).alloc (by simp) _;have j:c.heap[w.heap.size]?=some (ul x y g h):=d▸aB (af _ _) _;have k:c.heap[w.heap.size+1]?=some (og):=d▸aC (by simp);clear d;have A:=ab j;have B:=ce j (oA);have F:=am j;have G:=am k;go_region_with (first | (go_at_call 157;refine (gP _).mono ?_;rintro e b ⟨rfl,rfl⟩) | (go_at_call 174;refine (s.out _).mono ?_;rintro e b ⟨rfl,f⟩) | (go_at_call 158;refine (vY _ _ _ _ _ _ _).mono ?_;rintro e H ⟨rfl,i⟩;have n:w.heap.size+1<b.heap.size:=ll (by simp;omega) f.size;have r:=fun a=>(i.cell (p:=⟨w.heap.size+1,a,none⟩) n).trans ((f.cell (p:=⟨w.heap.size+1,a,none⟩) (by simp;omega)).trans (ce k (oA) a));have C:=fun a=>(i.frozen (p:=⟨w.heap.size+1,a,none⟩) n).trans ((f.frozen (p:=⟨w.heap.size+1,a,none⟩) (by simp;omega)).trans (jG k (oA) a))))
 all_goals go_wp2
 all_goals (
   refine bodyPost_ret (v:=(um l m)) (by simp [results,results140,go_sem,r]) rfl ⟨rfl,?_⟩
   repeat (refine Below.setCell ?_ (by simp <;> omega) _)
   exact (o.alloc o.size _).drew.trans ((f.mono (by simp;omega)).trans (i.mono (by omega))))
theorem jeg (x y g h q t u z l m:Int)(w:World)
  (s:Hid (∀ b,Calls prog 177 #[Ow x y g h,.int .u64 q] b fun e w'=>e=.returned (ou t u z l m)/\B7 b w')) :
  Calls prog 140 #[Ow x y g h,.int .u64 q] w fun e w'=>e=.returned (um l m)/\B7 w w':=by
 have D:=vJ;have E:=jdM;go_enter func140,ntmps140
 go_wp2_with fail
 obtain⟨c,d⟩:∃ c,c=(w.alloc (uk x y g h)).alloc (og):=⟨_,rfl⟩;rw [<-d];have o:B7 w c:=d▸(ba w).alloc (by simp) _;have j:c.heap[w.heap.size]?=some (uk x y g h):=d▸aB (af _ _) _;have k:c.heap[w.heap.size+1]?=some (og):=d▸aC (by simp);clear d;have A:=ab j;have B:=ce j (oA);have F:=am j;have G:=am k;go_region_with (first | (go_at_call 157;refine (gP _).mono ?_;rintro e b ⟨rfl,rfl⟩) | (go_at_call 177;refine (s.out _).mono ?_;rintro e b ⟨rfl,f⟩) | (go_at_call 158;refine (vY _ _ _ _ _ _ _).mono ?_;rintro e H ⟨rfl,i⟩;have n:w.heap.size+1<b.heap.size:=ll (by simp;omega) f.size;have r:=fun a=>(i.cell (p:=⟨w.heap.size+1,a,none⟩) n).trans ((f.cell (p:=⟨w.heap.size+1,a,none⟩) (by simp;omega)).trans (ce k (oA) a));have C:=fun a=>(i.frozen (p:=⟨w.heap.size+1,a,none⟩) n).trans ((f.frozen (p:=⟨w.heap.size+1,a,none⟩) (by simp;omega)).trans (jG k (oA) a))))
 all_goals go_wp2
 all_goals (
   refine bodyPost_ret (v:=(um l m)) (by simp [results,results140,go_sem,r]) rfl ⟨rfl,?_⟩
   repeat (refine Below.setCell ?_ (by simp <;> omega) _)
   exact (o.alloc o.size _).drew.trans ((f.mono (by simp;omega)).trans (i.mono (by omega))))
end Go.Proofs.YtnlgndpcddngoaaGreatDoor
