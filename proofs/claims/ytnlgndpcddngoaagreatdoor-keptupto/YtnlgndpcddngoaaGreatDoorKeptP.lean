import Derived.Test.YtnlgndpcddngoaaGreatDoorZd49
import Derived.Test.YtnlgndpcddngoaaGreatDoorZd00
set_option linter.unusedVariables false
set_option linter.unusedSimpArgs false
set_option maxRecDepth 100000
namespace Go.Proofs.YtnlgndpcddngoaaGreatDoor
open Go.ChangeShapes Go.WideShapes Go.ChangeAt Go.RowKit
open Go.WideMaps Go.WideElems
theorem jd4 (H:Type)(enc:TypeId×Value→H)(W:World)(base:Nat)(args:Array Value)(ds gs:List (DataW H))(before:List MemPlace)
  (hval:∀ (j:Nat) t v,Tryz.f4.params[j]?=some t→args[j]?=some v→Value.okWide Tryz.prog W .any base t v)
  (hW:DataW.Whole enc Tryz.prog Tryz.f4.params.toList Rows.keptSpec.vars false W args.toList ds gs before) (hk:Rows.uptoSmall H (ds ++ gs)=true) (hL:laidMetH Tryz.prog laid4 W) :
  Calls Tryz.prog 4 args W fun e W'=>∃ v,e=.returned v∧Rows.keptSpec.post enc Tryz.prog Tryz.f4 false true false false W args v W':=by
 have hW':=hW
 obtain⟨p,q,hA0,hV,rfl,hfz,hnd⟩:=hW
 have hA:DataW.TrodAll enc Tryz.prog W 0 (fun _=>true) true Tryz.f4.params.toList args.toList ds p:=hA0
 rw [Tryz.params4] at hA hval
 obtain⟨v0,v1,d0,d1,p0,p1,rfl,rfl,rfl,h0,h1⟩:=trodAll_two hA
 obtain⟨rfl,rfl⟩:=trodVars_none hV
 obtain⟨ao,n,cap,rfl,hnc,hnb,sps,hsl,hsp,hsc⟩:=jfA (hval 0 22 v0 rfl rfl) h0
 obtain⟨k1,rfl,rfl,rfl,w1⟩:=open_int Tryz.underlying23 (hval 1 23 v1 rfl rfl) h1
 have hbk:Rows.uptoBulk d0≤1048576:=by
  have h2:=of_decide_eq_true hk
  have h3:=jbz (d:=d0) (l:=[d0,.lit (.int .u64 k1)] ++ []) (by simp)
  exact Nat.le_trans h3 h2
 clear hA0
 simp only [List.append_nil] at hW'
 have hlt:∀ x∈p0,x.block<W.heap.size:=fun x hx=>by simpa using hW'.lt x (by simp [hx])
 refine (kept3 ao n cap sps k1 W hsl hnc (by omega) (fun p hp=>⟨by have:=(hsp p hp).2.1;omega,by have:=(hsp p hp).2.2;omega⟩) (fun p hp=>(hsp p hp).1) (bounds_u64 w1) (jcA hL) hsc).mono fun e W' ⟨he,hbe⟩=>?_
 subst he
 have e1:Rows.keptSpec.fn H ([d0,.lit (.int .u64 k1)] ++ [])={ results:=[.lit (.bool true)],args:=[d0,.lit (.int .u64 k1)] }:=by simp [Rows.keptSpec]
 refine⟨_,rfl,_,_,_,[],p0 ++ ([] ++ []),[],hW',?_,?_,?_,hbe.frame _,fun h=>by cases h⟩
 ·rw [e1];exact trodAll_mk1 (shut_bool Tryz.underlying4 true)
 ·rw [e1];exact trodAll_mk2 (Below.trod Tryz.laidOut (by kernel_rfl) (of_decide_eq_true (by kernel_rfl)) h0 hbe hlt) (shut_int Tryz.underlying23 w1)
 ·rw [e1];rfl
theorem jgY (os:Os)(H:Type)(enc:TypeId×Value→H):∃ w0:World,w0.os=os∧(w0.forCall (fun _ _=>0) ⟨#[],#[.slice none 0 0,.int .u64 0],[]⟩).variablesB Tryz.prog=true∧
  ((w0.forCall (fun _ _=>0) ⟨#[],#[.slice none 0 0,.int .u64 0],[]⟩).heap.toList.drop Tryz.prog.globals.size).take ((begin Tryz.prog (fun _ _=>0) default).world.heap.size - Tryz.prog.globals.size)=(begin Tryz.prog (fun _ _=>0) default).world.heap.toList.drop Tryz.prog.globals.size∧
  Input.okWideB Tryz.prog (w0.forCall (fun _ _=>0) ⟨#[],#[.slice none 0 0,.int .u64 0],[]⟩) 4 ⟨#[],#[.slice none 0 0,.int .u64 0],[]⟩=true∧
  (Rows.OpenSpec.upto Rows.keptSpec).preRow enc Tryz.prog Tryz.f4 Rows.keptUptoRow.domain false Rows.keptUptoRow.laid (w0.forCall (fun _ _=>0) ⟨#[],#[.slice none 0 0,.int .u64 0],[]⟩).memory #[.slice none 0 0,.int .u64 0]:=by
 refine⟨laidW os,rfl,by kernel_rfl,by kernel_rfl,by kernel_rfl,?_⟩
 exact OpenSpec.preRow_of_cond 8 (x:=([.nil,.lit (.int .u64 0)],[],[]))
  (by kernel_rfl) (by kernel_rfl) (fun k hk=>by cases hk;kernel_rfl) (by kernel_rfl) (laidMetH_of_parts (laidMet_of_run' 8 (by kernel_rfl) (by kernel_rfl)) (by kernel_rfl))
theorem jep (os:Os)(started:os.Started)(H:Type)(enc:TypeId×Value→H)(F:Stop.Interp) :
  ReturnsInHanded {} Tryz.checked os 4 .any ((Rows.OpenSpec.upto Rows.keptSpec).preRow enc Tryz.prog Tryz.f4 Rows.keptUptoRow.domain false Rows.keptUptoRow.laid) (((Rows.OpenSpec.upto Rows.keptSpec).at F).post enc Tryz.prog Tryz.f4 false true false false):=by
 obtain⟨w0,f1,f2,f3,f4,f5⟩:=jgY os H enc
 refine returnsInHanded_of_row (C:=Tryz.checked) (s:=Rows.OpenSpec.upto Rows.keptSpec) Tryz.own started (by kernel_rfl) Tryz.func4 (witness_row_at (enc:=enc) (C:=Tryz.checked) false w0 #[.slice none 0 0,.int .u64 0] f1 f2 f3 f4 f5) ?_
 intro W base args ds gs before hval hW _ hcond _ hL _ _
 exact jd4 H enc W base args ds gs before hval hW (hcond _ rfl) hL
end Go.Proofs.YtnlgndpcddngoaaGreatDoor
