import Derived.Test.YtnlgndpcddngoaaGreatDoorZ06
import Derived.Maps.AppendAt
import Derived.Deep.RegionHeld3
import Derived.Deep.DeepCutAuto
import Derived.LoopN
import Derived.Maps.RangeWalk
import Derived.Laws.IdiomRangeMap
import Derived.Carry
set_option linter.all false
set_option maxRecDepth 100000
set_option maxHeartbeats 1000000
namespace Go.Proofs.YtnlgndpcddngoaaGreatDoor
open Go.Proofs.Tryz Go.RowKit Go.Maps
variable [dK] [iK]
theorem pL (a:Rp)(j:1<=a.c)(k:a.c<=9)(d:U7 a.a)(e:U7 a.b)(t:List Int) :
  ec (bh a.c a.a a.b ++ t)=0/\rpN (bh a.c a.a a.b ++ t)=18/\rpQ (bh a.c a.a a.b ++ t)=a:=by
 have b:bh a.c a.a a.b ++ t=17 :: a.c :: (bI a.a ++ (bI a.b ++ t)):=by simp [bh]
 have i:(bh a.c a.a a.b ++ t).length=18+t.length:=by rw [List.length_append];rfl
 have c:ec (bh a.c a.a a.b ++ t)=0:=by
  rw [b];simp only [ec];rw [if_neg (by omega),if_pos (by unfold gG;rw [if_neg (by omega)]),if_neg];rw [<-b,i];omega
 refine⟨c,by unfold rpN;rw [if_pos c],?_⟩
 unfold rpQ;rw [if_pos c];have h:(bh a.c a.a a.b ++ t).getD 1 0=a.c:=by rw [b];rfl
 have f:gA (bh a.c a.a a.b ++ t) 2=a.a:=by
  rw [b];refine Eq.trans ?_ (tE a.a d.1 d.2)
  unfold gA;simp [cu,bI,List.getD]
 have g:gA (bh a.c a.a a.b ++ t) 10=a.b:=by
  rw [b];refine Eq.trans ?_ (tE a.b e.1 e.2)
  unfold gA;simp [cu,bI,List.getD]
 rw [h,f,g]
structure Rp.told (r:Rp):Prop where
 c1:1<=r.c
 c9:r.c<=9
 a:U7 r.a
 b:U7 r.b
theorem dE (rs:List Rp)(g:∀ c∈rs,c.told):Bytes (bG rs):=by
 intro b a;unfold bG at a;obtain⟨c,h,a⟩:=List.mem_flatMap.1 a;have f:=g c h;have e:∀ (d:Int) b,b∈bI d->0<=b/\b<=255:=by
  intro d b a;simp only [bI,List.mem_cons,List.not_mem_nil,or_false] at a;rcases a with rfl | rfl | rfl | rfl | rfl | rfl | rfl | rfl <;> exact qQ d _
 simp only [bh,List.mem_append,List.mem_cons,List.not_mem_nil,or_false] at a;have:=f.c1;have:=f.c9;rcases a with (a | a) | a
 ·omega
 ·exact e _ _ a
 ·exact e _ _ a
theorem jy (c n:Int)(w:World)(f:0<n)(g:n<=1000000000)(b:-9223372036854775808<=c)(d:c<=9223372036854775807) :
  Calls prog 30 #[.int .i64 c,.int .i64 n] w fun e w'=>e=.returned (.int .i64 (bp c n))/\w'=w:=by
 have h:¬n=0:=by omega
 by_cases a:c<0
 ·have e:bp c n=-((c+1).tmod n):=by unfold bp;rw [if_pos a,<-Int.neg_tmod,Int.tmod_eq_emod_of_nonneg (by omega)]
  have i:IntKind.i64.wrap (c+1)=c+1:=by rw [IntKind.wrap_i64];omega
  have j:IntKind.i64.wrap (-(c+1))=-(c+1):=by rw [IntKind.wrap_i64];omega
  rw [e];clear e;go_enter func30,ntmps30
  go_wp2
  go_ret
  exact⟨rfl,rfl⟩
 ·have e:bp c n=c % n:=by unfold bp;rw [if_neg a]
  rw [e];clear e;go_enter func30,ntmps30
  go_wp2
  go_ret
  exact⟨rfl,rfl⟩
theorem gM (a db:Nat)(d i:Option Nat)(j p m k:Value)(l f n o:Int)(w:World)(g:w.heap[a]?=some (Um db p m k))(c:w.heap[db]?=some (uh (.map d) (.map i) j l f)) :
  Calls prog 32 #[pO a 0,.int .i64 n,.int .i64 o] w fun e w'=>e=.returned (.tuple #[])/\w'.heap[db]?=some (.cells #[.map d,.map i,j,.int .i64 (-1),.int .i64 (-1),.bool false] 88)/\ae (fun b=>b=db) w w':=by
 have h:a≠db:=by
  intro e;subst e;rw [g] at c;simp at c
 have q:=ab g 0;have r:=ab c;have s:=ag c;have t:¬a=db:=h;have u:¬db=a:=fun e=>h e.symm;go_enter func32,ntmps32
 go_wp2_with fail
 go_region_held3 (fun w'=>w'.cell? ⟨a,0,none⟩=some (.pointer (some ⟨db,0,none⟩))) (go_keep) (fail)
 all_goals go_wp2
 all_goals go_end0
 all_goals refine⟨rfl,(aE _ _).trans (by simpa using ai (ai c 3 (.int .i64 (-1))) 4 (.int .i64 (-1))),ae.drew ?_⟩
 all_goals exact ae.set (S:=fun b=>b=db) (b:=db) (ae.set (S:=fun b=>b=db) (b:=db) (ae.refl _ w) (il rfl) _ _) (il rfl) _ _
theorem up29 (db a:Nat)(B q i j n:Value)(w:World)(f:w.heap[db]?=some (Ua a B q i j n))(h:w.heap[a]?=some (.map #[] 0)) :
  Calls prog 33 #[pO db 0] w fun e w'=>e=.returned (.tuple #[])/\w'.heap[db]?=some (.cells #[.map (some a),.map (some w.heap.size),.slice none 0 0,i,j,.bool false] 88)/\w'.heap[w.heap.size]?=some (.map #[] 0)/\ae (fun b=>b=db) w w':=by
 have l:=am f;have p:=am h;have A:db≠a:=by
  intro e;subst e;rw [f] at h;simp at h
 obtain⟨c,d⟩:∃ c,c=(w.alloc (.map #[] 0)).setCell ⟨db,1,none⟩ (.map (some w.heap.size)):=⟨_,rfl⟩;have g:c.heap[db]?=some (Ua a (.map (some w.heap.size)) q i j n):=by rw [d];simpa using ai (aB f (.map #[] 0)) 1 (.map (some w.heap.size))
 have o:c.heap[a]?=some (.map #[] 0):=by rw [d,ac (fun e=>A e.symm)];exact aB h _
 have z:c.heap[w.heap.size]?=some (.map #[] 0):=by rw [d,ac (by omega)];exact af _ _
 have x:ae (fun b=>b=db) w c:=d▸ae.set (S:=fun b=>b=db) (b:=db) ((ae.refl _ w).alloc _) (il rfl) _ _;have k:c.heap.size=w.heap.size+1:=by rw [d];simp
 have t:=ce f (.map #[] 0);have u:=jG f (.map #[] 0);have G:=@run_makeMap prog;have H:=run_range_map (P:=prog) c 85 9 95 a #[] 0 underlying85 o;have I:∀ m,(Instr.next (.pointer (some ⟨c.heap.size,0,none⟩)) false m).run prog (c.alloc (.mapIter (some a) 0 #[] 0))=.ok (.tuple #[.bool false]) (c.alloc (.mapIter (some a) 0 #[] 0)):=fun m=>by
  rcases run_next_map (P:=prog) c m a 0 0 #[] #[] 0 o (by simp) lz with ⟨_,v⟩ | ⟨e,y,_⟩
  ·exact v
  ·simp [leftOf] at y
 have D:=ab g;have E:=ce g (.mapIter (some a) 0 #[] 0);have F:=jG g (.mapIter (some a) 0 #[] 0);have s:=aa k;have r:=aa l;have C:=aa p;clear k l p;go_enter func33,ntmps33
 go_upto_region 1 with fail
 rw [<-d];clear d t u;go_wp2
 refine wp_loop_rounds 1 ?_
 rw [rounds_succ];go_wp2
 go_end0
 have l:=r.out;have k:=s.out;refine⟨rfl,by simpa using ai (ai (aB g (.mapIter (some a) 0 #[] 0)) 2 (.slice none 0 0)) 5 (.bool false),?_,?_⟩
 ·rw [ac (by omega),ac (by omega)];exact aB z _
 ·exact ae.set (S:=fun b=>b=db) (b:=db) (ae.set (S:=fun b=>b=db) (b:=db) (x.alloc _) (il rfl) _ _) (il rfl) _ _
theorem jau (blk:Int)(w:World) :
  Calls prog 19 #[.slice none 0 0,.int .u64 blk] w fun e w'=>∃ nb,e=.returned (.pointer (some ⟨w.heap.size+2,0,none⟩))/\w'.heap[w.heap.size+2]?=some (Uc (.pointer (some ⟨w.heap.size+1,0,none⟩)) blk)/\w'.heap[w.heap.size+1]?=some (.cells #[.map (some w.heap.size),.map (some nb),.slice none 0 0,.int .i64 (-1),.int .i64 (-1),.bool false] 88)/\w'.heap[w.heap.size]?=some (.map #[] 0)/\w'.heap[nb]?=some (.map #[] 0)/\w.heap.size+2<nb/\B7 w w':=by
 have o:=@run_makeMap prog;obtain⟨a,b⟩:∃ a,a=((w.alloc (.map #[] 0)).alloc (Ue (.map (some w.heap.size)))).alloc (Uc (.pointer (some ⟨w.heap.size+1,0,none⟩)) blk):=⟨_,rfl⟩;have g:a.heap[w.heap.size+2]?=some (Uc (.pointer (some ⟨w.heap.size+1,0,none⟩)) blk):=b▸aC (by simp);have k:a.heap[w.heap.size+1]?=some (Ue (.map (some w.heap.size))):=b▸aB (aC (by simp)) _;have f:a.heap[w.heap.size]?=some (.map #[] 0):=b▸aB (aB (af _ _) _) _;have l:B7 w a:=b▸((ba w).alloc (by simp) _).alloc (by simp <;> omega) _
 have d:a.heap.size=w.heap.size+3:=by rw [b];simp
 have m:=ab g;have h:=aa d;clear d;go_enter func19,ntmps19
 go_upto_region 2 with fail
 rw [<-b];clear b;go_wp2
 refine wp_loop_rounds 1 ?_
 rw [rounds_succ];go_wp2_with (go_at_call 33;refine (up29 (w.heap.size+1) w.heap.size _ _ _ _ _ _ k f).mono ?_;rintro e q ⟨rfl,i,j,c⟩)
 go_ret
 have d:=h.out;refine⟨a.heap.size,rfl,(c.block _ (by omega) (by omega)).trans g,i,(c.block _ (by omega) (by omega)).trans f,j,by omega,l.trans (ae.below c (by omega) (fun p n=>by omega))⟩
theorem is17 (a g:Nat)(d c b:Value)(w:World)(f:w.heap[a]?=some (.cells #[d,.pointer (some ⟨g,0,none⟩),c,b] 82)) :
  Calls prog 21 #[pO a 0] w fun e w'=>e=.returned (.bool true)/\w'=w:=by
 have h:=ab f;go_enter func21,ntmps21
 go_wp2
 go_ret
 exact⟨rfl,rfl⟩
theorem kV (b a:Nat)(l k j c d f g h i:Value)(x:Int)(w:World)(m:w.heap[b]?=some (.cells #[l,.pointer (some ⟨a,0,none⟩),k,j] 82))(n:w.heap[a]?=some (Uq c d f g h i x)) :
  Calls prog 38 #[pO b 0] w fun e w'=>e=.returned (.int .u64 x)/\w'=w:=by
 have o:=ab m;go_enter func38,ntmps38
 go_wp2_with (go_at_call 58;refine (rQ a c d f g h i x _ n).mono ?_;rintro e w' ⟨rfl,rfl⟩)
 go_ret
 exact⟨rfl,rfl⟩
end Go.Proofs.YtnlgndpcddngoaaGreatDoor
