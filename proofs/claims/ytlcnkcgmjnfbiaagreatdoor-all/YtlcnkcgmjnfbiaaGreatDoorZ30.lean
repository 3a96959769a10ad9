import Derived.Test.YtlcnkcgmjnfbiaaGreatDoorZ08
set_option linter.all false
set_option maxRecDepth 100000
set_option maxHeartbeats 4000000
namespace Go.Proofs.YtlcnkcgmjnfbiaaGreatDoor
open Go.Proofs.Tryz Go.RowKit Go.Maps
variable [dK] [iK]
theorem rT (x m:Nat)(bs bu bv adm:Value)(bw blk:Int)(j:Es)(k:Ky)(w:World)(Z:w.heap[x]?=some (oF bs bu bw blk m bv adm))(X:aI w m j)(W:k.ok)(n o:Qt)(bb:au k j=some (n,o))(a2:World->Prop)(z:World->(NP)->Prop)(D:PP z)(i:NP)(b4:(j.map Prod.fst).Nodup)(cn:j.length<=12)
  (M:Hid (∀ g,B7 w g->a2 g)) (l:∀ b,i b->b<w.heap.size)
  (b3:Hid (∀ g G,a2 g->aI g G (bt k j)->¬i G->Calls prog 162 #[pO x 2,.map (some G),oS] g fun e w'=>e=.returned (oS)/\∃ f,z w' f/\ae i g w'/\∀ b,f b->i b\/g.heap.size<=b\/b=G)) :
  Calls prog 143 #[pO x 2,om k] w fun e w'=>e=.returned (oS)/\cC w i w' z:=by
 go_enter func143,ntmps143
 go_upto_region 1 with fail
 obtain⟨a,s⟩:∃ a,a=(w.alloc (ol k)).alloc (og):=⟨_,rfl⟩;rw [<-s];have B:B7 w a:=s▸(ba w).alloc (by simp) _;have E:a.heap[w.heap.size]?=some (ol k):=s▸aC (ag _ _) _;have bj:a.heap[w.heap.size+1]?=some (og):=s▸aD (by simp);have F:a.heap[x]?=some (oF bs bu bw blk m bv adm):=s▸aC (aC Z _) _;have t:aI a m j:=aq.kept X (B.block m (aq.lt X));have cp:=an Z;clear s Z X;have T:=ab E;have U:=cf E (od);have a3:=ab F;have a4:=cf F (od);have b0:=da (w:=a.drew) (aq.kept t rfl) W bb;have b1:=da (w:=(a.alloc (od)).drew) (aq.kept t (ah _ _ (aq.lt t))) W bb;go_cut [5,6] (fun b8 b9 ao=>b8=.pointer (some ⟨a.heap.size,0,none⟩)/\b9=.bool true/\ao=(a.alloc (oe n o)).drew)
 case first=>
  go_region
  all_goals (go_wp2_with fail;go_meet)
  all_goals exact⟨rfl,rfl,rfl⟩
 case rest=>
  obtain⟨rfl,rfl,rfl⟩:=hcut;have cq:(a.alloc (oe n o)).heap[a.heap.size]?=some (oe n o):=ag _ _;have bd:=aC E (oe n o);have Y:=aC bj (oe n o);have bk:=aC F (oe n o);have bg:aI (a.alloc (oe n o)) m j:=aq.kept t (ah _ _ (aq.lt t));have a5:=B.alloc B.size (oe n o);have cl:=B.size;clear T U a3 a4 b0 b1 E bj F t;have T:=ab bk;have U:=ab bd;have cr:w.heap.size+1<a.heap.size+1:=by simpa using an Y
  have q:=aa a5;have O:=aa bg;have Q:=aa Y;clear a5 bg Y;go_upto_region 4 with fail
  go_cut [7] (fun cb ao=>∃ (r:World) (A:Nat) (f:NP),r=ao/\cb=.pointer (some ⟨A,0,none⟩)/\r.heap[A]?=some (.cells #[.int .u8 1,.int .u64 0,.int .u64 0] 51)/\r.heap[w.heap.size+1]?=some (og)/\z r f/\ae i w r/\(∀ b,f b->i b\/w.heap.size+1<b))
  case first=>
   have bK:=aa (fun g (c:aI g m j)=>mc m j k g c (by omega) W b4);have a3:=cf bk (og);have a4:=cf bd (og);go_region_law (first
     | (refine aP (by rfl) 168 tT _ _ (by rfl) #[.map (some m),om k] (by simp only [List.map_toArray,List.map_cons,List.map_nil];rfl) (bK.out _ (by first | exact aq.kept O.out rfl | exact aq.kept O.out (ah _ _ (aq.lt O.out)))) ?_;rintro e bz ⟨nb,rfl,bi,a9,a6⟩;refine⟨_,rfl,?_⟩;have y:=aa a9;have d:=aa a6;have a0:=aa bi;clear a9 a6 bi)
     | (refine aP (by rfl) 162 o7 _ _ (by rfl) #[pO x 2,.map (some nb),oS] (by simp only [List.map_toArray,List.map_cons,List.map_nil];rfl) (b3.out _ nb (by
         first
           | exact M.out _ (q.out.drew.drew.trans (d.out.mono (by simp;omega)))
           | exact M.out _ ((q.out.drew.drew.alloc (by simp;omega) _).trans (d.out.mono (by simp;omega)))
           | exact M.out _ ((q.out.drew.drew.trans (d.out.mono (by simp;omega))).alloc (by have:=d.out.size;simp at this;omega) _))
         (by first | exact y.out | exact aq.kept y.out (ah _ _ (aq.lt y.out))) (fun e=>by have:=l _ e;have:=a0.out;simp at this;omega)) ?_;rintro e bF ⟨rfl,f,a8,p,C⟩;refine⟨_,rfl,?_⟩
        have b6:=d.out.size;have b5:=a0.out;have cs:=aq.lt y.out;simp at b6 b5;have bl:ae i w bF:=ae.then (S:=i) (ae.of_below (by
          first
           | exact q.out.drew.drew.trans (d.out.mono (by simp;omega))
           | exact (q.out.drew.drew.alloc (by simp;omega) _).trans (d.out.mono (by simp;omega))
           | exact (q.out.drew.drew.trans (d.out.mono (by simp;omega))).alloc (by omega) _)) p (fun _ _ c=>c)
        have bo:bF.heap[w.heap.size+1]?=some (og):=by
          first
           | exact (p.block _ (by omega) (fun e=>by have:=l _ e;omega)).trans ((d.out.block _ (by simp;omega)).trans Q.out)
           | exact (p.block _ (by omega) (fun e=>by have:=l _ e;omega)).trans ((d.out.block _ (by simp;omega)).trans ((ah _ _ (by simp;omega)).trans Q.out))
           | exact (p.block _ (by simp;omega) (fun e=>by have:=l _ e;omega)).trans ((ah _ _ (by omega)).trans ((d.out.block _ (by simp;omega)).trans Q.out))
        have a7:∀ b,f b->i b\/w.heap.size+1<b:=fun b V=>(C b V).imp_right (fun c=>by (try simp at c);omega);first
          | (have u:=(p.block bz.heap.size (by simp) (fun e=>by have:=l _ e;omega)).trans (ag _ _);have ad:¬f bz.heap.size:=fun e=>(C _ e).elim (fun c=>by have:=l _ c;omega) (fun c=>by (try simp at c);omega))
          | (have u:=(p.block (a.heap.size+1) (by omega) (fun e=>by have:=l _ e;omega)).trans ((d.out.block (a.heap.size+1) (by simp)).trans (aD (by simp)));have ad:¬f (a.heap.size+1):=fun e=>(C _ e).elim (fun c=>by have:=l _ c;omega) (fun c=>by (try simp at c);omega))
          | skip
        (try have ci:=ab u)
        (try have ck:=af u)
        (try have P:=aa u)
        (try clear u)
        have N:=aa a8;have a1:=aa bl;have av:=aa a7;have R:=aa bo;have b7:=p.size;(try simp at b7)
        clear a8 p C bo bl a7))
   all_goals (go_wp2_with fail;go_meet)
   all_goals first
    | exact⟨_,_,f,rfl,rfl,ag _ _,(ah _ _ (an R.out)).trans R.out,D.kept N.out (by simp) (fun b V=>ah _ _ (D.lt N.out b V)),a1.out.alloc _,av.out⟩
    | exact jf5 D 1 0 0 P.out R.out N.out a1.out av.out ad (by omega) (by omega)
  case rest=>
   obtain⟨r,A,f,rfl,rfl,H,I,J,K,L⟩:=hcut;have cc:=ab H;have b2:=ab I;have ch:=af I;have P:=aa (aN J (aN K L));have ad:¬w.heap.size+1=A:=fun e=>by rw [<-e,I] at H;simp at H
   clear H I J K L T U;go_wp2_with fail
   obtain⟨J,K,L⟩:=P.out;refine bodyPost_ret (v:=oS) (by simp [results,results143,go_sem,b2]) rfl ⟨rfl,?_⟩
   exact fF D 1 0 0 J K l (by omega) L
end Go.Proofs.YtlcnkcgmjnfbiaaGreatDoor
