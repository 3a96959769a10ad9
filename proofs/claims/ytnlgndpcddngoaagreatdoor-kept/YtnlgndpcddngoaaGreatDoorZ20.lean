import Derived.Test.YtnlgndpcddngoaaGreatDoorZ05
set_option linter.all false
set_option maxRecDepth 100000
set_option maxHeartbeats 2000000
namespace Go.Proofs.YtnlgndpcddngoaaGreatDoor
open Go.Proofs.Tryz Go.RowKit
variable [dK] [iK]
theorem jdJ (w:World):(Instr.field 299 (ud) 2).run prog w=.ok (.func (.func 176) #[] #[]) w:=by kernel_rfl
theorem jdK (w:World):(Instr.field 299 (OZ) 2).run prog w=.ok (.func (.func 179) #[] #[]) w:=by kernel_rfl
def bA (q:Qt)(blk:Int):Qt:=if q.kd=1 then ⟨q.kd,q.x,q.y,al (q.lv+blk),q.wn⟩ else ⟨q.kd,q.x,q.y,if al (q.lv+blk)<q.x then al (q.lv+blk) else q.x,q.wn⟩
def cT (a s:Qt):Bool:=decide (s.wn=a.wn) && decide (s.lv<=a.lv)
theorem vX (a s:Qt)(w:World) :
  Calls prog 138 #[oD a,oD s] w fun e w'=>e=.returned (.bool (cT a s))/\B7 w w':=by
 by_cases b:s.wn=a.wn
 ·have d:(s.wn==a.wn)=true:=by simp [b]
  have c:cT a s=decide (s.lv<=a.lv):=by unfold cT;simp [b]
  rw [c];clear b c;go_enter func138,ntmps138
  go_wp2
  go_ret
  exact⟨rfl,(ba w).alloc (by simp) _⟩
 ·have d:(s.wn==a.wn)=false:=by simp [b]
  have c:cT a s=false:=by unfold cT;simp [b]
  rw [c];clear b c;go_enter func138,ntmps138
  go_wp2
  go_ret
  exact⟨rfl,(ba w).alloc (by simp) _⟩
theorem jeb (x y g a blk k:Int)(w:World)
  (n:Hid (∀ f,Calls prog 176 #[Oj x y g a,.int .u64 blk] f fun e w'=>e=.returned (Oj x y k a)/\B7 f w')) :
  Calls prog 139 #[Oj x y g a,.int .u64 blk] w fun e w'=>e=.returned (Oj x y k a)/\B7 w w':=by
 have s:=vI;have t:=jdJ;go_enter func139,ntmps139
 go_wp2_with fail
 obtain⟨b,c⟩:∃ b,b=(w.alloc (ul x y g a)).alloc (oq):=⟨_,rfl⟩;rw [<-c];have l:B7 w b:=c▸(ba w).alloc (by simp) _;have i:b.heap[w.heap.size]?=some (ul x y g a):=c▸aB (af _ _) _;have j:b.heap[w.heap.size+1]?=some (oq):=c▸aC (by simp);clear c;have o:=ab i;have q:=ce i (oA);have u:=am i;have z:=am j;go_region_with (first | (go_at_call 157;refine (gP _).mono ?_;rintro e f ⟨rfl,rfl⟩) | (go_at_call 176;refine (n.out _).mono ?_;rintro e f ⟨rfl,h⟩;have m:=fun d=>(h.cell (p:=⟨w.heap.size+1,d,none⟩) (by simp;omega)).trans (ce j (oA) d);have r:=fun d=>(h.frozen (p:=⟨w.heap.size+1,d,none⟩) (by simp;omega)).trans (jG j (oA) d)))
 all_goals go_wp2
 all_goals (
   refine bodyPost_ret (v:=(Oj x y k a)) (by simp [results,results139,go_sem,m]) rfl ⟨rfl,?_⟩
   repeat (refine Below.setCell ?_ (by simp <;> omega) _)
   exact (l.alloc l.size _).drew.trans (h.mono (by simp;omega)))
theorem jec (x y g a blk k:Int)(w:World)
  (n:Hid (∀ f,Calls prog 179 #[Ow x y g a,.int .u64 blk] f fun e w'=>e=.returned (Ow x y k a)/\B7 f w')) :
  Calls prog 139 #[Ow x y g a,.int .u64 blk] w fun e w'=>e=.returned (Ow x y k a)/\B7 w w':=by
 have s:=vJ;have t:=jdK;go_enter func139,ntmps139
 go_wp2_with fail
 obtain⟨b,c⟩:∃ b,b=(w.alloc (uk x y g a)).alloc (oq):=⟨_,rfl⟩;rw [<-c];have l:B7 w b:=c▸(ba w).alloc (by simp) _;have i:b.heap[w.heap.size]?=some (uk x y g a):=c▸aB (af _ _) _;have j:b.heap[w.heap.size+1]?=some (oq):=c▸aC (by simp);clear c;have o:=ab i;have q:=ce i (oA);have u:=am i;have z:=am j;go_region_with (first | (go_at_call 157;refine (gP _).mono ?_;rintro e f ⟨rfl,rfl⟩) | (go_at_call 179;refine (n.out _).mono ?_;rintro e f ⟨rfl,h⟩;have m:=fun d=>(h.cell (p:=⟨w.heap.size+1,d,none⟩) (by simp;omega)).trans (ce j (oA) d);have r:=fun d=>(h.frozen (p:=⟨w.heap.size+1,d,none⟩) (by simp;omega)).trans (jG j (oA) d)))
 all_goals go_wp2
 all_goals (
   refine bodyPost_ret (v:=(Ow x y k a)) (by simp [results,results139,go_sem,m]) rfl ⟨rfl,?_⟩
   repeat (refine Below.setCell ?_ (by simp <;> omega) _)
   exact (l.alloc l.size _).drew.trans (h.mono (by simp;omega)))
end Go.Proofs.YtnlgndpcddngoaaGreatDoor
