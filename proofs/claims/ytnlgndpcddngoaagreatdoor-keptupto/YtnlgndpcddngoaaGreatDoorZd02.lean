import Derived.Test.YtnlgndpcddngoaaGreatDoorZd00
import Derived.Deep.RegionLaw
set_option linter.unusedVariables false
set_option linter.unusedSimpArgs false
set_option maxRecDepth 100000
namespace Go.Proofs.YtnlgndpcddngoaaGreatDoor
open Go.RowKit
theorem jaj {ops:Array Oper}{o:Oper}{a:Act}{w:World}{K:Act→World→Prop}{Q:Exit→Act→World→Prop}{E:Prop}{R:Ending→World→Prop}(hg:o.guard=none)(f:FuncId)(hcf:∀ vs w,Sem.run Tryz.prog (callFunc f vs) w=.ok (.enter f vs) w)(xs:Array Operand)(tys:Array TypeId)
  (hop:o.op=.call { callee:=.value (.func f),args:=xs,argTypes:=tys }) (vs:Array Value) (hx:xs.map a.eval=vs) (hC:Calls Tryz.prog f vs w R)
  (hR:∀ e w',R e w'→∃ v,e=.returned v∧K (a.put o.dst v) w') :
  if Region.wanted o (yielded ops a.tmps)=true then Oper.wp Tryz.prog o a w K Q else E:=by
 have hw:Region.wanted o (yielded ops a.tmps)=true:=by simp [Region.wanted,hg]
 rw [if_pos hw]
 have hr:(execOp a.eval o).run Tryz.prog w=.ok (.enter f vs) w:=by
  subst hx
  simp [execOp,hop,resolve,invoke,go_sem]
  exact hcf _ _
 unfold Oper.wp
 rw [hr,Oper.upon_enter]
 refine hC.mono ?_
 intro e w' h
 obtain⟨v,rfl,h2⟩:=hR e w' h
 exact h2
theorem jf3 (vs:Array Value)(w:World):Sem.run Tryz.prog (callFunc 69 vs) w=.ok (.enter 69 vs) w:=by simp [go_sem]
theorem jjg {w w':World}{row:Option Nat}(h:w.grownBy w' row):w.grownBy w'.drew row:=⟨h.os,h.tape,h.output,h.size,h.block⟩
end Go.Proofs.YtnlgndpcddngoaaGreatDoor
