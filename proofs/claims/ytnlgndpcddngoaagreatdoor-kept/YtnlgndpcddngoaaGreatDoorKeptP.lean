import Derived.Test.YtnlgndpcddngoaaGreatDoorZ38
import Derived.Test.YtnlgndpcddngoaaGreatDoorKnk
import Derived.Test.YtnlgndpcddngoaaGreatDoorZ24
set_option linter.all false
set_option maxRecDepth 100000
namespace Go.Proofs.YtnlgndpcddngoaaGreatDoor
open Go.Proofs.Tryz
open Go.ChangeShapes Go.WideShapes Go.ChangeAt Go.RowKit
open Go.WideMaps Go.WideElems
variable [dK] [iK]
theorem kept_contract (H:Type)(enc:TypeId×Value->H)(a:World)(base:Nat)(args:Array Value)(f p:List (DataW H))(B:List MemPlace)
  (k:∀ (x:Nat) t v,Tryz.f4.params[x]?=some t->args[x]?=some v->Value.okWide prog a .any base t v)
  (u:DataW.Whole enc prog Tryz.f4.params.toList Rows.keptSpec.vars false a args.toList f p B) (N:(DataW.weightsEach prog (Tryz.f4.params.toList ++ (OpenSpec.ofChange Rows.keptSpec).bare.plain.varTypes prog) (f ++ p)).all (·<=reachBytes)=true) (F:laidMetH prog jeW a) :
  Calls prog 4 args a fun e n=>∃ v,e=.returned v/\Rows.keptSpec.post enc prog Tryz.f4 false true false false a args v n:=by
 have i:=u;obtain⟨b,X,s,G,rfl,T,V⟩:=u;have r:DataW.TrodAll enc prog a 0 (fun _=>true) true Tryz.f4.params.toList args.toList f b:=s;rw [params4] at r k;obtain⟨Q,R,o,S,y,W,rfl,rfl,rfl,q,E⟩:=trodAll_two r;obtain⟨rfl,rfl⟩:=trodVars_none G;obtain⟨A,O,C,rfl,K,U,P,M,j,L⟩:=tk (k 0 22 Q rfl rfl) q (fun c l=>of_decide_eq_true (List.all_eq_true.1 N c (by rw [params4];simp only [List.cons_append,DataW.weightsEach,List.mem_append];exact il l)));obtain⟨m,rfl,rfl,rfl,z⟩:=open_int underlying23 (k 1 23 R rfl rfl) E;clear s;simp only [List.append_nil] at i;have J:∀ c∈y,c.block<a.heap.size:=fun c l=>by simpa using i.lt c (by simp [l])
 refine (kept3 A O C P m a M K (by have:=kI;omega) (fun b d=>⟨by have:=(j b d).2.1;have:=kI;omega,by have:=(j b d).2.2;have:=kI;omega⟩) (fun b d=>(j b d).1) (bounds_u64 z) (kT F) L).mono fun e n ⟨I,w⟩=>?_
 subst I;have g:Rows.keptSpec.fn H ([o,.lit (.int .u64 m)] ++ [])={ results:=[.lit (.bool true)],args:=[o,.lit (.int .u64 m)] }:=by simp [Rows.keptSpec]
 refine⟨_,rfl,_,_,_,[],y ++ ([] ++ []),[],i,?_,?_,?_,w.frame _,fun D=>by cases D⟩
 ·rw [g];exact trodAll_mk1 (shut_bool underlying4 true)
 ·rw [g];exact trodAll_mk2 (Below.trod Tryz.laidOut (by kernel_rfl) (of_decide_eq_true (by kernel_rfl)) q w J) (shut_int underlying23 z)
 ·rw [g];rfl
theorem kept_fits (a:Os)(H:Type)(enc:TypeId×Value->H):∃ w0:World,w0.os=a/\(w0.forCall (fun _ _=>0) ⟨#[],#[.slice none 0 0,.int .u64 0],[]⟩).variablesB prog=true/\
  ((w0.forCall (fun _ _=>0) ⟨#[],#[.slice none 0 0,.int .u64 0],[]⟩).heap.toList.drop prog.globals.size).take ((begin prog (fun _ _=>0) default).world.heap.size - prog.globals.size)=(begin prog (fun _ _=>0) default).world.heap.toList.drop prog.globals.size/\
  Input.okWideB prog (w0.forCall (fun _ _=>0) ⟨#[],#[.slice none 0 0,.int .u64 0],[]⟩) 4 ⟨#[],#[.slice none 0 0,.int .u64 0],[]⟩=true/\
  (OpenSpec.ofChange Rows.keptSpec).preRow enc prog Tryz.f4 Rows.keptRow.domain false Rows.keptRow.laid (w0.forCall (fun _ _=>0) ⟨#[],#[.slice none 0 0,.int .u64 0],[]⟩).memory #[.slice none 0 0,.int .u64 0]:=by
 refine⟨jgg (World.holding prog a ⟨#[],#[],[]⟩),rfl,by kernel_rfl,by kernel_rfl,by kernel_rfl,?_⟩
 exact OpenSpec.preRow_of_cond 8 (x:=([.nil,.lit (.int .u64 0)],[],[]))
  (by kernel_rfl) (by kernel_rfl) (fun c b=>by cases b) (by kernel_rfl) (laidMetH_of_parts (laidMet_of_run' 8 (by kernel_rfl) (by kernel_rfl)) (by kernel_rfl))
theorem kept_lifted (a:Os)(r:a.Started)(H:Type)(enc:TypeId×Value->H)(F:Stop.Interp) :
  ReturnsInHanded {} Tryz.checked a 4 .any ((OpenSpec.ofChange Rows.keptSpec).preRow enc prog Tryz.f4 Rows.keptRow.domain false Rows.keptRow.laid) (((OpenSpec.ofChange Rows.keptSpec).at F).post enc prog Tryz.f4 false true false false):=by
 obtain⟨t,g,i,j,k,l⟩:=kept_fits a H enc;refine returnsInHanded_of_row (C:=Tryz.checked) (s:=OpenSpec.ofChange Rows.keptSpec) Tryz.own r (by kernel_rfl) func4 (witness_row_at (enc:=enc) (C:=Tryz.checked) false t #[.slice none 0 0,.int .u64 0] g i j k l) ?_
 intro b d c f m e p o _ _ q n _ _;exact kept_contract H enc b d c f m e p o q n
end Go.Proofs.YtnlgndpcddngoaaGreatDoor
