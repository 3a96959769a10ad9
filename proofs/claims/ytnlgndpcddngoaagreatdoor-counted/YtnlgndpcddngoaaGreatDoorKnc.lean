import Derived.Test.YtnlgndpcddngoaaGreatDoorZ45
set_option linter.all false
set_option maxRecDepth 100000
set_option maxHeartbeats 2000000
namespace Go.Proofs.YtnlgndpcddngoaaGreatDoor
open Go.Proofs.Tryz Go.RowKit
variable [dK] [iK]
theorem jeO.sub {base:Nat}{blk:Int}{w:World}{b c:Nat->Nat->World->Prop}(a:jeO base blk w [1,2,3] b c)(ks:List Int):jeO base blk w ks b c where
 j0:=a.j0
 js:=a.js
 jb:=a.jb
 ks_:=a.ks_
 one:=fun _=>a.one (by simp)
 two:=fun _=>a.two (by simp)
 lose:=fun _=>a.lose (by simp)
 agk:=fun _=>a.agk (by simp)
 agj:=fun _=>a.agj (by simp)
theorem counted3 (t:Option Addr)(n u:Nat)(b:List Sp)(blk:Int)(w:World)(A:b.length=n)(a1:n<=u)(a0:n<=140737488355328)(C:∀ p∈b,p.qs.length * 48<=140737488351232/\p.raw.size<=140737488351232)(L:∀ p∈b,p.ok)(I:U7 blk)(z:mj w)
  (J:0<n->∃ d o,t=some ⟨d,o,none⟩/\d<w.heap.size/\∀ i (k:i<b.length),∃ v,(∀ x,x<10->w.cell? ⟨d,o+i * 10+x,none⟩=(kr b[i] v)[x]?)/\gf w v b[i].qs) :
  Calls prog 3 #[.slice t n u,.int .u64 blk] w fun e w'=>e=.returned (.bool true)/\B7 w w':=by
 have H:=bT z;have Q:=aa z;have P:=aa (jc7 t n u b w A a1 a0 (fun p f=>(C p f).1) J);have T:=aa C;have S:=aa L;have R:=aa A;clear C L J A z;go_enter func3,ntmps3
 go_wp2_with fail
 refine P.out.mono ?_
 rintro e g ⟨a9,c,O,rfl,a8,q⟩;obtain⟨N,a5,rfl,ao,a2⟩:=jd2 q.own;have j:=aa q;have M:=q.below.size;clear q;go_wp2_with fail
 have av:c<=b.length:=by rw [R.out];omega
 obtain⟨a,r⟩:∃ a,a=g.alloc (.cells #[.int .i64 1] 3):=⟨_,rfl⟩;have s:B7 g a:=by rw [r];exact ba g
 have U:∀ l (k:l<[(1:Int)].length),a.cell? ⟨g.heap.size,l,none⟩=some (.int .i64 [(1:Int)][l]):=by
  rw [r];intro l k;match l,k with
  | 0,_=>exact ab (af _ _) 0
 have a7:a.heap.size=g.heap.size+1:=by rw [r];simp
 rw [<-r];have ad:((b.take c).map noS).length=c:=by rw [List.length_map,List.length_take];omega
 have W:0<c->∃ d o,N=some ⟨d,o,none⟩/\d<a.heap.size/\∀ i (k:i<((b.take c).map noS).length),∃ v,(∀ x,x<10->a.cell? ⟨d,o+i * 10+x,none⟩=(kr ((b.take c).map noS)[i] v)[x]?)/\gf a v ((b.take c).map noS)[i].qs:=fun f=>by
  obtain⟨F,rfl,X⟩:=a2 f;refine⟨F,0,rfl,by omega,fun i k=>?_⟩
  have K:i<c:=by omega
  have Z:i<O.length:=by rw [j.out.len];exact K
  have E:((b.take c).map noS)[i]=noS b[i]:=by simp
  refine⟨O[i],fun x a3=>?_,?_⟩
  ·rw [s.cell (p:=⟨F,0+i * 10+x,none⟩) X,jcY av j.out.len j.out.own i K x a3,E];rfl
  ·rw [E];have G:=j.out.rq i Z (by omega);exact gf.of_own (aq G (fun a6 a4=>s.block a6 (aj G a4).2))
 have Y:mj a:=bC (bC Q.out H j.out.below) (ll H M) s;refine (jfB N c a5 ((b.take c).map noS) blk g.heap.size 1 [1] (fun y D w=>JX a.heap.size blk y D w/\mj w) (fun y D w=>KX a.heap.size blk y D w/\mj w) a ((jf6 a.heap.size blk a (by omega) Y (ag_c a.heap.size blk I.1 (by omega))).sub _) (by simp) rfl (by omega) ad ao (by omega) (fun p f=>?_) (fun p f=>?_) U (by omega) I W).mono ?_
 ·obtain⟨m,B,rfl⟩:=List.mem_map.1 f;have:=T.out m (List.mem_of_mem_take B);exact⟨lq (jeT m.qs) (by omega),lq this.2 (by omega)⟩
 ·obtain⟨m,B,rfl⟩:=List.mem_map.1 f;exact jfy m (S.out m (List.mem_of_mem_take B))
 rintro e bb ⟨rfl,V⟩;go_wp2
 go_ret
 exact⟨rfl,(j.out.below.trans (s.mono M)).trans (V.mono (by omega))⟩
end Go.Proofs.YtnlgndpcddngoaaGreatDoor
