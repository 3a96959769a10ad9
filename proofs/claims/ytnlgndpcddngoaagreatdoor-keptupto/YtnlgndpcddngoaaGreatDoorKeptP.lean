import Derived.Test.YtnlgndpcddngoaaGreatDoorZ38
import Derived.Test.YtnlgndpcddngoaaGreatDoorKnk
import Derived.Test.YtnlgndpcddngoaaGreatDoorZ24
set_option linter.all false
set_option maxRecDepth 100000
namespace Go.Proofs.YtnlgndpcddngoaaGreatDoor
open Go.Proofs.Tryz
open Go.ChangeShapes Go.WideShapes Go.ChangeAt Go.RowKit
open Go.WideMaps Go.WideElems
variable [dK] [iK]
theorem kept_contract (H:Type)(enc:TypeId×Value->H)(a:World)(base:Nat)(args:Array Value)(i q:List (DataW H))(C:List MemPlace)
  (n:∀ (y:Nat) t v,Tryz.f4.params[y]?=some t->args[y]?=some v->Value.okWide prog a .any base t v)
  (w:DataW.Whole enc prog Tryz.f4.params.toList Rows.keptSpec.vars false a args.toList i q C) (M:Rows.uptoSmall H (i ++ q)=true) (J:laidMetH prog jeW a) :
  Calls prog 4 args a fun e p=>∃ v,e=.returned v/\Rows.keptSpec.post enc prog Tryz.f4 false true false false a args v p:=by
 have k:=w;obtain⟨b,av,u,K,rfl,Y,ad⟩:=w;have s:DataW.TrodAll enc prog a 0 (fun _=>true) true Tryz.f4.params.toList args.toList i b:=u;rw [params4] at s n;obtain⟨U,V,c,W,z,ao,rfl,rfl,rfl,r,F⟩:=trodAll_two s;obtain⟨rfl,rfl⟩:=trodVars_none K;obtain⟨B,S,D,rfl,O,Z,T,Q,m,P⟩:=tk (n 0 22 U rfl rfl) r;obtain⟨g,rfl,rfl,rfl,A⟩:=open_int underlying23 (n 1 23 V rfl rfl) F;have X:Rows.uptoBulk c<=1048576:=by
  have G:=of_decide_eq_true M;have I:=gh (d:=c) (l:=[c,.lit (.int .u64 g)] ++ []) (by simp);exact lq I G
 clear u;simp only [List.append_nil] at k;have N:∀ o∈z,o.block<a.heap.size:=fun o R=>by simpa using k.lt o (by simp [R])
 refine (kept3 B S D T g a Q O (by omega) (fun b f=>⟨by have:=(m b f).2.1;omega,by have:=(m b f).2.2;omega⟩) (fun b f=>(m b f).1) (bounds_u64 A) (kT J) P).mono fun e p ⟨L,x⟩=>?_
 subst L;have j:Rows.keptSpec.fn H ([c,.lit (.int .u64 g)] ++ [])={ results:=[.lit (.bool true)],args:=[c,.lit (.int .u64 g)] }:=by simp [Rows.keptSpec]
 refine⟨_,rfl,_,_,_,[],z ++ ([] ++ []),[],k,?_,?_,?_,x.frame _,fun E=>by cases E⟩
 ·rw [j];exact trodAll_mk1 (shut_bool underlying4 true)
 ·rw [j];exact trodAll_mk2 (Below.trod Tryz.laidOut (by kernel_rfl) (of_decide_eq_true (by kernel_rfl)) r x N) (shut_int underlying23 A)
 ·rw [j];rfl
theorem kept_fits (a:Os)(H:Type)(enc:TypeId×Value->H):∃ w0:World,w0.os=a/\(w0.forCall (fun _ _=>0) ⟨#[],#[.slice none 0 0,.int .u64 0],[]⟩).variablesB prog=true/\
  ((w0.forCall (fun _ _=>0) ⟨#[],#[.slice none 0 0,.int .u64 0],[]⟩).heap.toList.drop prog.globals.size).take ((begin prog (fun _ _=>0) default).world.heap.size - prog.globals.size)=(begin prog (fun _ _=>0) default).world.heap.toList.drop prog.globals.size/\
  Input.okWideB prog (w0.forCall (fun _ _=>0) ⟨#[],#[.slice none 0 0,.int .u64 0],[]⟩) 4 ⟨#[],#[.slice none 0 0,.int .u64 0],[]⟩=true/\
  (Rows.OpenSpec.upto Rows.keptSpec).preRow enc prog Tryz.f4 Rows.keptUptoRow.domain false Rows.keptUptoRow.laid (w0.forCall (fun _ _=>0) ⟨#[],#[.slice none 0 0,.int .u64 0],[]⟩).memory #[.slice none 0 0,.int .u64 0]:=by
 refine⟨jgg (World.holding prog a ⟨#[],#[],[]⟩),rfl,by kernel_rfl,by kernel_rfl,by kernel_rfl,?_⟩
 exact OpenSpec.preRow_of_cond 8 (x:=([.nil,.lit (.int .u64 0)],[],[]))
  (by kernel_rfl) (by kernel_rfl) (fun c b=>by cases b;kernel_rfl) (by kernel_rfl) (laidMetH_of_parts (laidMet_of_run' 8 (by kernel_rfl) (by kernel_rfl)) (by kernel_rfl))
theorem kept_lifted (a:Os)(r:a.Started)(H:Type)(enc:TypeId×Value->H)(F:Stop.Interp) :
  ReturnsInHanded {} Tryz.checked a 4 .any ((Rows.OpenSpec.upto Rows.keptSpec).preRow enc prog Tryz.f4 Rows.keptUptoRow.domain false Rows.keptUptoRow.laid) (((Rows.OpenSpec.upto Rows.keptSpec).at F).post enc prog Tryz.f4 false true false false):=by
 obtain⟨t,g,i,j,k,l⟩:=kept_fits a H enc;refine returnsInHanded_of_row (C:=Tryz.checked) (s:=Rows.OpenSpec.upto Rows.keptSpec) Tryz.own r (by kernel_rfl) func4 (witness_row_at (enc:=enc) (C:=Tryz.checked) false t #[.slice none 0 0,.int .u64 0] g i j k l) ?_
 intro b d c f m e q o _ p _ n _ _;exact kept_contract H enc b d c f m e q o (p _ rfl) n
end Go.Proofs.YtnlgndpcddngoaaGreatDoor
