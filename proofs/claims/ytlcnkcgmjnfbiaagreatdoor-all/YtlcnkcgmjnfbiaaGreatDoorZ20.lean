import Derived.Test.YtlcnkcgmjnfbiaaGreatDoorZ05
set_option linter.all false
set_option maxRecDepth 100000
set_option maxHeartbeats 2000000
namespace Go.Proofs.YtlcnkcgmjnfbiaaGreatDoor
open Go.Proofs.Tryz Go.RowKit
variable [dK] [iK]
theorem jdK (w:World):(Instr.field 312 (ud) 2).run prog w=.ok (.func (.func 197) #[] #[]) w:=by kernel_rfl
theorem jdL (w:World):(Instr.field 312 (OZ) 2).run prog w=.ok (.func (.func 200) #[] #[]) w:=by kernel_rfl
def bB (q:Qt)(blk:Int):Qt:=if q.kd=1 then ⟨q.kd,q.x,q.y,am (q.lv+blk),q.wn⟩ else ⟨q.kd,q.x,q.y,if am (q.lv+blk)<q.x then am (q.lv+blk) else q.x,q.wn⟩
def cW (a s:Qt):Bool:=decide (s.wn=a.wn) && decide (s.lv<=a.lv)
theorem vJ (a s:Qt)(w:World) :
  Calls prog 165 #[oD a,oD s] w fun e w'=>e=.returned (.bool (cW a s))/\B7 w w':=by
 by_cases b:s.wn=a.wn
 ·have d:(s.wn==a.wn)=true:=by simp [b]
  have c:cW a s=decide (s.lv<=a.lv):=by unfold cW;simp [b]
  rw [c];clear b c;go_enter func165,ntmps165
  go_wp2
  go_ret
  exact⟨rfl,(ba w).alloc (by simp) _⟩
 ·have d:(s.wn==a.wn)=false:=by simp [b]
  have c:cW a s=false:=by unfold cW;simp [b]
  rw [c];clear b c;go_enter func165,ntmps165
  go_wp2
  go_ret
  exact⟨rfl,(ba w).alloc (by simp) _⟩
theorem jeb (x y g a blk k:Int)(w:World)
  (n:Hid (∀ f,Calls prog 197 #[Oj x y g a,.int .u64 blk] f fun e w'=>e=.returned (Oj x y k a)/\B7 f w')) :
  Calls prog 166 #[Oj x y g a,.int .u64 blk] w fun e w'=>e=.returned (Oj x y k a)/\B7 w w':=by
 have s:=vt;have t:=jdK;go_enter func166,ntmps166
 go_wp2_with fail
 obtain⟨b,c⟩:∃ b,b=(w.alloc (ul x y g a)).alloc (oq):=⟨_,rfl⟩;rw [<-c];have l:B7 w b:=c▸(ba w).alloc (by simp) _;have i:b.heap[w.heap.size]?=some (ul x y g a):=c▸aC (ag _ _) _;have j:b.heap[w.heap.size+1]?=some (oq):=c▸aD (by simp);clear c;have o:=ab i;have q:=cf i (oA);have u:=an i;have z:=an j;go_region_with (first | (go_at_call 180;refine (gO _).mono ?_;rintro e f ⟨rfl,rfl⟩) | (go_at_call 197;refine (n.out _).mono ?_;rintro e f ⟨rfl,h⟩;have m:=fun d=>(h.cell (p:=⟨w.heap.size+1,d,none⟩) (by simp;omega)).trans (cf j (oA) d);have r:=fun d=>(h.frozen (p:=⟨w.heap.size+1,d,none⟩) (by simp;omega)).trans (jF j (oA) d)))
 all_goals go_wp2
 all_goals (
   refine bodyPost_ret (v:=(Oj x y k a)) (by simp [results,results166,go_sem,m]) rfl ⟨rfl,?_⟩
   repeat (refine Below.setCell ?_ (by simp <;> omega) _)
   exact (l.alloc l.size _).drew.trans (h.mono (by simp;omega)))
theorem jec (x y g a blk k:Int)(w:World)
  (n:Hid (∀ f,Calls prog 200 #[Ow x y g a,.int .u64 blk] f fun e w'=>e=.returned (Ow x y k a)/\B7 f w')) :
  Calls prog 166 #[Ow x y g a,.int .u64 blk] w fun e w'=>e=.returned (Ow x y k a)/\B7 w w':=by
 have s:=vu;have t:=jdL;go_enter func166,ntmps166
 go_wp2_with fail
 obtain⟨b,c⟩:∃ b,b=(w.alloc (uk x y g a)).alloc (oq):=⟨_,rfl⟩;rw [<-c];have l:B7 w b:=c▸(ba w).alloc (by simp) _;have i:b.heap[w.heap.size]?=some (uk x y g a):=c▸aC (ag _ _) _;have j:b.heap[w.heap.size+1]?=some (oq):=c▸aD (by simp);clear c;have o:=ab i;have q:=cf i (oA);have u:=an i;have z:=an j;go_region_with (first | (go_at_call 180;refine (gO _).mono ?_;rintro e f ⟨rfl,rfl⟩) | (go_at_call 200;refine (n.out _).mono ?_;rintro e f ⟨rfl,h⟩;have m:=fun d=>(h.cell (p:=⟨w.heap.size+1,d,none⟩) (by simp;omega)).trans (cf j (oA) d);have r:=fun d=>(h.frozen (p:=⟨w.heap.size+1,d,none⟩) (by simp;omega)).trans (jF j (oA) d)))
 all_goals go_wp2
 all_goals (
   refine bodyPost_ret (v:=(Ow x y k a)) (by simp [results,results166,go_sem,m]) rfl ⟨rfl,?_⟩
   repeat (refine Below.setCell ?_ (by simp <;> omega) _)
   exact (l.alloc l.size _).drew.trans (h.mono (by simp;omega)))
end Go.Proofs.YtlcnkcgmjnfbiaaGreatDoor
