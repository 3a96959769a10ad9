import Derived.Test.YtnlgndpcddngoaaGreatDoorZ36
set_option linter.all false
set_option maxRecDepth 100000
set_option maxHeartbeats 16000000
namespace Go.Proofs.YtnlgndpcddngoaaGreatDoor
open Go.Proofs.Tryz Go.RowKit Go.Maps
variable [dK] [iK]
theorem ja2 (D z:Nat)(R S U ad ao av:Value)(f:Rq)(x y blk T:Int)(l:Ln)(c a b:Int)(i:World)(bg:U7 x)(H:i.heap[D]?=some (.cells #[R,.pointer (some ⟨z,0,none⟩),S,.int .u64 blk,U,.bool true,.int .u8 f.op,.int .u8 f.k0,.int .u8 f.k1,.int .u8 f.k2,.int .u8 f.k3,.int .u8 f.k4,.int .u8 f.k5,.int .u8 f.k6,.int .u8 f.k7,.int .u8 f.kd,.int .u64 f.x,.int .u64 f.y,.int .u64 f.n,.int .u64 x,.int .u64 y,ad,ao] 67))(N:i.heap[z]?=some (ur av T))(L:l.ok)(w:U7 T)(a3:U7 a)(a7:0<=blk)(Z:gY true f x y blk T l a b)(C:l.kd=2)(s:l.in_=b) :
  Calls prog 62 #[pO D 0,.agg #[.int .u8 l.k.k0,.int .u8 l.k.k1,.int .u8 l.k.k2,.int .u8 l.k.k3,.int .u8 l.k.k4,.int .u8 l.k.k5,.int .u8 l.k.k6,.int .u8 l.k.k7,.int .u8 l.kd,.int .u64 l.x,.int .u64 l.y,.int .u64 l.at_,.int .u64 l.in_],ot c a b] i fun e w'=>e=.returned (.bool true)/\B7 i w':=by
 obtain⟨q,p⟩:∃ q,q=(i.alloc (.cells #[.int .u8 l.k.k0,.int .u8 l.k.k1,.int .u8 l.k.k2,.int .u8 l.k.k3,.int .u8 l.k.k4,.int .u8 l.k.k5,.int .u8 l.k.k6,.int .u8 l.k.k7,.int .u8 l.kd,.int .u64 l.x,.int .u64 l.y,.int .u64 l.at_,.int .u64 l.in_] 151)).alloc (oI c a b):=⟨_,rfl⟩;have O:q.heap[i.heap.size]?=some (.cells #[.int .u8 l.k.k0,.int .u8 l.k.k1,.int .u8 l.k.k2,.int .u8 l.k.k3,.int .u8 l.k.k4,.int .u8 l.k.k5,.int .u8 l.k.k6,.int .u8 l.k.k7,.int .u8 l.kd,.int .u64 l.x,.int .u64 l.y,.int .u64 l.at_,.int .u64 l.in_] 151):=p▸aB (af _ _) _;have P:q.heap[i.heap.size+1]?=some (oI c a b):=p▸aC (by simp);have v:B7 i q:=p▸(ba i).alloc (by simp) _;have bo:=ab ((v.block z (am N)).trans N);have a0:=ab ((v.block D (am H)).trans H);have E:=ab O;have a2:=ab P;have a4:=L.at_;have d:=aa v;have W:=L.kd;clear O P v;have t:=fun a1=>iV f.key l.k a1;obtain⟨m,G,B⟩:=iE f x y l b;obtain⟨M,V,K⟩:=Z;have X:0<=cD l b/\cD l b<=18446744073709551615:=by unfold cD;split <;> omega
 rw [G] at K;have bd:U7 m:=by rcases B with j | j | j | j | j <;> omega
 have g:a<=m\/¬a<=m/\IntKind.u64.wrap (a - m)=a - m/\a - m<=blk:=by
  by_cases j:a<=m
  ·exact il j
  ·exact ir ⟨j,by rw [IntKind.wrap_u64];omega,by omega⟩
 clear K G X;have bk:=(W.resolve_left (fun j=>by omega)).2;rw [if_pos C] at M;obtain⟨A,Y⟩:=M;have bl:¬l.y=0:=by omega
 have bb:T.tdiv l.y=b:=by rw [A];exact Int.tdiv_eq_ediv_of_nonneg w.1
 have a5:U7 b:=by rw [A];exact⟨Int.ediv_nonneg w.1 (by omega),Int.le_trans (Int.ediv_le_self _ w.1) w.2⟩
 have bj:IntKind.u64.wrap b=b:=by rw [IntKind.wrap_u64];omega
 have bi:IntKind.u64.wrap a=a:=by rw [IntKind.wrap_u64];omega
 clear A;rw [C] at E;rw [C] at p ⊢;have Q:=aa s;clear s;go_enter func62,ntmps62
 go_upto_region 1 with fail
 rw [<-p];clear p;have s:=Q.out;have F:cD l b=l.at_:=by unfold cD;rw [if_neg (fun e=>e.2 s)]
 rw [F] at V B;have a8:¬b<l.in_:=by omega
 clear Y F;rw [s] at E ⊢;have a6:¬b<b:=by omega
 by_cases a9:0<l.at_
 all_goals (
   rcases B with ⟨u,rfl⟩ | ⟨u,k,rfl⟩ | ⟨u,k,⟨r,I⟩,rfl⟩ | ⟨u,k,r,I,rfl⟩ | ⟨u,k,r,I,rfl⟩
   · clear t;rcases g with g | ⟨g,n,o⟩
     all_goals try simp only [Int.sub_zero] at n o
     all_goals go_wp2_with (go_quiet (fail))
     all_goals go_ret
     all_goals exact⟨rfl,by first | exact below_drewN d.out _ | exact below_drewN (below_drewN d.out _) _ | exact below_drewN (below_drewN (below_drewN d.out _) _) _ | exact below_drewN (below_drewN (below_drewN (below_drewN d.out _) _) _) _⟩
   · rw [decide_eq_false k] at t;dsimp only [Rq.key] at t;clear k;rcases g with g | ⟨g,n,o⟩
     all_goals try simp only [Int.sub_zero] at n o
     all_goals go_wp2_with (go_quiet (fail))
     all_goals go_ret
     all_goals exact⟨rfl,by first | exact below_drewN d.out _ | exact below_drewN (below_drewN d.out _) _ | exact below_drewN (below_drewN (below_drewN d.out _) _) _ | exact below_drewN (below_drewN (below_drewN (below_drewN d.out _) _) _) _⟩
   all_goals (
     rw [decide_eq_true k] at t;dsimp only [Rq.key] at t;clear k)
   · clear r;rcases g with g | ⟨g,n,o⟩
     all_goals try simp only [Int.sub_zero] at n o
     all_goals go_wp2_with (go_quiet (fail))
     all_goals go_ret
     all_goals exact⟨rfl,by first | exact below_drewN d.out _ | exact below_drewN (below_drewN d.out _) _ | exact below_drewN (below_drewN (below_drewN d.out _) _) _ | exact below_drewN (below_drewN (below_drewN (below_drewN d.out _) _) _) _⟩
   all_goals (
     have J:y=b:=r.resolve_left (by omega);rw [J] at a0;clear r J;rcases g with g | ⟨g,n,o⟩
     all_goals try simp only [Int.sub_zero] at n o
     all_goals go_wp2_with (go_quiet (fail))
     all_goals go_ret
     all_goals exact⟨rfl,by first | exact below_drewN d.out _ | exact below_drewN (below_drewN d.out _) _ | exact below_drewN (below_drewN (below_drewN d.out _) _) _ | exact below_drewN (below_drewN (below_drewN (below_drewN d.out _) _) _) _⟩))
end Go.Proofs.YtnlgndpcddngoaaGreatDoor
