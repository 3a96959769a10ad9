import Derived.Test.YtnlgndpcddngoaaGreatDoorZ36
set_option linter.all false
set_option maxRecDepth 100000
set_option maxHeartbeats 16000000
namespace Go.Proofs.YtnlgndpcddngoaaGreatDoor
open Go.Proofs.Tryz Go.RowKit Go.Maps
variable [dK] [iK]
theorem ja3 (E z:Nat)(R S U ao av a0:Value)(f:Rq)(x y blk T:Int)(l:Ln)(c a b:Int)(i:World)(bb:U7 x)(H:i.heap[E]?=some (.cells #[R,.pointer (some ⟨z,0,none⟩),S,.int .u64 blk,U,.bool true,.int .u8 f.op,.int .u8 f.k0,.int .u8 f.k1,.int .u8 f.k2,.int .u8 f.k3,.int .u8 f.k4,.int .u8 f.k5,.int .u8 f.k6,.int .u8 f.k7,.int .u8 f.kd,.int .u64 f.x,.int .u64 f.y,.int .u64 f.n,.int .u64 x,.int .u64 y,ao,av] 67))(O:i.heap[z]?=some (ur a0 T))(L:l.ok)(v:U7 T)(a4:U7 a)(a7:0<=blk)(ad:gY true f x y blk T l a b)(w:l.kd=2)(X:¬l.in_=b) :
  Calls prog 62 #[pO E 0,.agg #[.int .u8 l.k.k0,.int .u8 l.k.k1,.int .u8 l.k.k2,.int .u8 l.k.k3,.int .u8 l.k.k4,.int .u8 l.k.k5,.int .u8 l.k.k6,.int .u8 l.k.k7,.int .u8 l.kd,.int .u64 l.x,.int .u64 l.y,.int .u64 l.at_,.int .u64 l.in_],ot c a b] i fun e w'=>e=.returned (.bool true)/\B7 i w':=by
 obtain⟨q,p⟩:∃ q,q=(i.alloc (.cells #[.int .u8 l.k.k0,.int .u8 l.k.k1,.int .u8 l.k.k2,.int .u8 l.k.k3,.int .u8 l.k.k4,.int .u8 l.k.k5,.int .u8 l.k.k6,.int .u8 l.k.k7,.int .u8 l.kd,.int .u64 l.x,.int .u64 l.y,.int .u64 l.at_,.int .u64 l.in_] 151)).alloc (oI c a b):=⟨_,rfl⟩;have P:q.heap[i.heap.size]?=some (.cells #[.int .u8 l.k.k0,.int .u8 l.k.k1,.int .u8 l.k.k2,.int .u8 l.k.k3,.int .u8 l.k.k4,.int .u8 l.k.k5,.int .u8 l.k.k6,.int .u8 l.k.k7,.int .u8 l.kd,.int .u64 l.x,.int .u64 l.y,.int .u64 l.at_,.int .u64 l.in_] 151):=p▸aB (af _ _) _;have Q:q.heap[i.heap.size+1]?=some (oI c a b):=p▸aC (by simp);have u:B7 i q:=p▸(ba i).alloc (by simp) _;have bk:=ab ((u.block z (am O)).trans O);have a1:=ab ((u.block E (am H)).trans H);have V:=ab P;have a3:=ab Q;have a5:=L.at_;have d:=aa u;have Y:=L.kd;clear P Q u;have s:=fun a2=>iV f.key l.k a2;obtain⟨m,G,B⟩:=iE f x y l b;obtain⟨N,W,K⟩:=ad;have Z:0<=cD l b/\cD l b<=18446744073709551615:=by unfold cD;split <;> omega
 rw [G] at K;have a9:U7 m:=by rcases B with j | j | j | j | j <;> omega
 have g:a<=m\/¬a<=m/\IntKind.u64.wrap (a - m)=a - m/\a - m<=blk:=by
  by_cases j:a<=m
  ·exact il j
  ·exact ir ⟨j,by rw [IntKind.wrap_u64];omega,by omega⟩
 clear K G Z;have bi:=(Y.resolve_left (fun j=>by omega)).2;rw [if_pos w] at N;obtain⟨A,M⟩:=N;have bj:¬l.y=0:=by omega
 have a8:T.tdiv l.y=b:=by rw [A];exact Int.tdiv_eq_ediv_of_nonneg v.1
 have a6:U7 b:=by rw [A];exact⟨Int.ediv_nonneg v.1 (by omega),Int.le_trans (Int.ediv_le_self _ v.1) v.2⟩
 have bg:IntKind.u64.wrap b=b:=by rw [IntKind.wrap_u64];omega
 have bd:IntKind.u64.wrap a=a:=by rw [IntKind.wrap_u64];omega
 clear A;rw [w] at V;rw [w] at p ⊢;go_enter func62,ntmps62
 go_upto_region 1 with fail
 rw [<-p];clear p;have F:cD l b=0:=by unfold cD;rw [if_pos ⟨w,X⟩]
 rw [F] at W B;clear F;have C:0<l.at_->¬b<l.in_:=fun D j=>M ⟨D,j⟩;clear M;by_cases D:0<l.at_
 all_goals (
   first | have C:=C D | clear C
   rcases B with ⟨t,rfl⟩ | ⟨t,k,rfl⟩ | ⟨t,k,⟨r,I⟩,rfl⟩ | ⟨t,k,r,I,rfl⟩ | ⟨t,k,r,I,rfl⟩
   · clear s;rcases g with g | ⟨g,n,o⟩
     all_goals try simp only [Int.sub_zero] at n o
     all_goals go_wp2_with (go_quiet (fail))
     all_goals go_ret
     all_goals exact⟨rfl,by first | exact below_drewN d.out _ | exact below_drewN (below_drewN d.out _) _ | exact below_drewN (below_drewN (below_drewN d.out _) _) _ | exact below_drewN (below_drewN (below_drewN (below_drewN d.out _) _) _) _⟩
   · rw [decide_eq_false k] at s;dsimp only [Rq.key] at s;clear k;rcases g with g | ⟨g,n,o⟩
     all_goals try simp only [Int.sub_zero] at n o
     all_goals go_wp2_with (go_quiet (fail))
     all_goals go_ret
     all_goals exact⟨rfl,by first | exact below_drewN d.out _ | exact below_drewN (below_drewN d.out _) _ | exact below_drewN (below_drewN (below_drewN d.out _) _) _ | exact below_drewN (below_drewN (below_drewN (below_drewN d.out _) _) _) _⟩
   all_goals (
     rw [decide_eq_true k] at s;dsimp only [Rq.key] at s;clear k)
   · clear r;rcases g with g | ⟨g,n,o⟩
     all_goals try simp only [Int.sub_zero] at n o
     all_goals go_wp2_with (go_quiet (fail))
     all_goals go_ret
     all_goals exact⟨rfl,by first | exact below_drewN d.out _ | exact below_drewN (below_drewN d.out _) _ | exact below_drewN (below_drewN (below_drewN d.out _) _) _ | exact below_drewN (below_drewN (below_drewN (below_drewN d.out _) _) _) _⟩
   all_goals (
     have J:y=b:=r.resolve_left (by omega);rw [J] at a1;clear r J;rcases g with g | ⟨g,n,o⟩
     all_goals try simp only [Int.sub_zero] at n o
     all_goals go_wp2_with (go_quiet (fail))
     all_goals go_ret
     all_goals exact⟨rfl,by first | exact below_drewN d.out _ | exact below_drewN (below_drewN d.out _) _ | exact below_drewN (below_drewN (below_drewN d.out _) _) _ | exact below_drewN (below_drewN (below_drewN (below_drewN d.out _) _) _) _⟩))
end Go.Proofs.YtnlgndpcddngoaaGreatDoor
