import Derived.Test.YtnlgndpcddngoaaGreatDoorZ08
set_option linter.all false
set_option maxRecDepth 100000
set_option maxHeartbeats 4000000
namespace Go.Proofs.YtnlgndpcddngoaaGreatDoor
open Go.Proofs.Tryz Go.RowKit Go.Maps
variable [dK] [iK]
theorem rZ (x m:Nat)(bs bu bv adm:Value)(bw blk:Int)(j:Es)(k:Ky)(w:World)(Z:w.heap[x]?=some (oF bs bu bw blk m bv adm))(X:aH w m j)(W:k.ok)(n o:Qt)(bb:ar k j=some (n,o))(a2:World->Prop)(z:World->(NP)->Prop)(D:PP z)(i:NP)(b4:(j.map Prod.fst).Nodup)(cn:j.length<=12)
  (M:Hid (∀ g,B7 w g->a2 g)) (l:∀ b,i b->b<w.heap.size)
  (b3:Hid (∀ g G,a2 g->aH g G (br k j)->¬i G->Calls prog 134 #[pO x 2,.map (some G),oS] g fun e w'=>e=.returned (oS)/\∃ f,z w' f/\ae i g w'/\∀ b,f b->i b\/g.heap.size<=b\/b=G)) :
  Calls prog 113 #[pO x 2,om k] w fun e w'=>e=.returned (oS)/\cB w i w' z:=by
 go_enter func113,ntmps113
 go_upto_region 1 with fail
 obtain⟨a,s⟩:∃ a,a=(w.alloc (ol k)).alloc (og):=⟨_,rfl⟩;rw [<-s];have B:B7 w a:=s▸(ba w).alloc (by simp) _;have E:a.heap[w.heap.size]?=some (ol k):=s▸aB (af _ _) _;have bj:a.heap[w.heap.size+1]?=some (og):=s▸aC (by simp);have F:a.heap[x]?=some (oF bs bu bw blk m bv adm):=s▸aB (aB Z _) _;have t:aH a m j:=ap.kept X (B.block m (ap.lt X));have cp:=am Z;clear s Z X;have T:=ab E;have U:=ce E (od);have a3:=ab F;have a4:=ce F (od);have b0:=cZ (w:=a.drew) (ap.kept t rfl) W bb;have b1:=cZ (w:=(a.alloc (od)).drew) (ap.kept t (ah _ _ (ap.lt t))) W bb;go_cut [5,6] (fun b8 b9 ao=>b8=.pointer (some ⟨a.heap.size,0,none⟩)/\b9=.bool true/\ao=(a.alloc (oe n o)).drew)
 case first=>
  go_region
  all_goals (go_wp2_with fail;go_meet)
  all_goals exact⟨rfl,rfl,rfl⟩
 case rest=>
  obtain⟨rfl,rfl,rfl⟩:=hcut;have cq:(a.alloc (oe n o)).heap[a.heap.size]?=some (oe n o):=af _ _;have bd:=aB E (oe n o);have Y:=aB bj (oe n o);have bk:=aB F (oe n o);have bg:aH (a.alloc (oe n o)) m j:=ap.kept t (ah _ _ (ap.lt t));have a5:=B.alloc B.size (oe n o);have cl:=B.size;clear T U a3 a4 b0 b1 E bj F t;have T:=ab bk;have U:=ab bd;have cr:w.heap.size+1<a.heap.size+1:=by simpa using am Y
  have q:=aa a5;have O:=aa bg;have Q:=aa Y;clear a5 bg Y;go_upto_region 4 with fail
  go_cut [7] (fun cb ao=>∃ (r:World) (A:Nat) (f:NP),r=ao/\cb=.pointer (some ⟨A,0,none⟩)/\r.heap[A]?=some (.cells #[.int .u8 1,.int .u64 0,.int .u64 0] 40)/\r.heap[w.heap.size+1]?=some (og)/\z r f/\ae i w r/\(∀ b,f b->i b\/w.heap.size+1<b))
  case first=>
   have bK:=aa (fun g (c:aH g m j)=>mf m j k g c (by omega) W b4);have a3:=ce bk (og);have a4:=ce bd (og);go_region_law (first
     | (refine aO (by rfl) 141 vk _ _ (by rfl) #[.map (some m),om k] (by simp only [List.map_toArray,List.map_cons,List.map_nil];rfl) (bK.out _ (by first | exact ap.kept O.out rfl | exact ap.kept O.out (ah _ _ (ap.lt O.out)))) ?_;rintro e bz ⟨nb,rfl,bi,a9,a6⟩;refine⟨_,rfl,?_⟩;have y:=aa a9;have d:=aa a6;have a0:=aa bi;clear a9 a6 bi)
     | (refine aO (by rfl) 134 ph _ _ (by rfl) #[pO x 2,.map (some nb),oS] (by simp only [List.map_toArray,List.map_cons,List.map_nil];rfl) (b3.out _ nb (by
         first
           | exact M.out _ (q.out.drew.drew.trans (d.out.mono (by simp;omega)))
           | exact M.out _ ((q.out.drew.drew.alloc (by simp;omega) _).trans (d.out.mono (by simp;omega)))
           | exact M.out _ ((q.out.drew.drew.trans (d.out.mono (by simp;omega))).alloc (by have:=d.out.size;simp at this;omega) _))
         (by first | exact y.out | exact ap.kept y.out (ah _ _ (ap.lt y.out))) (fun e=>by have:=l _ e;have:=a0.out;simp at this;omega)) ?_;rintro e bF ⟨rfl,f,a8,p,C⟩;refine⟨_,rfl,?_⟩
        have b6:=d.out.size;have b5:=a0.out;have cs:=ap.lt y.out;simp at b6 b5;have bl:ae i w bF:=ae.then (S:=i) (ae.of_below (by
          first
           | exact q.out.drew.drew.trans (d.out.mono (by simp;omega))
           | exact (q.out.drew.drew.alloc (by simp;omega) _).trans (d.out.mono (by simp;omega))
           | exact (q.out.drew.drew.trans (d.out.mono (by simp;omega))).alloc (by omega) _)) p (fun _ _ c=>c)
        have bo:bF.heap[w.heap.size+1]?=some (og):=by
          first
           | exact (p.block _ (by omega) (fun e=>by have:=l _ e;omega)).trans ((d.out.block _ (by simp;omega)).trans Q.out)
           | exact (p.block _ (by omega) (fun e=>by have:=l _ e;omega)).trans ((d.out.block _ (by simp;omega)).trans ((ah _ _ (by simp;omega)).trans Q.out))
           | exact (p.block _ (by simp;omega) (fun e=>by have:=l _ e;omega)).trans ((ah _ _ (by omega)).trans ((d.out.block _ (by simp;omega)).trans Q.out))
        have a7:∀ b,f b->i b\/w.heap.size+1<b:=fun b V=>(C b V).imp_right (fun c=>by (try simp at c);omega);first
          | (have u:=(p.block bz.heap.size (by simp) (fun e=>by have:=l _ e;omega)).trans (af _ _);have ad:¬f bz.heap.size:=fun e=>(C _ e).elim (fun c=>by have:=l _ c;omega) (fun c=>by (try simp at c);omega))
          | (have u:=(p.block (a.heap.size+1) (by omega) (fun e=>by have:=l _ e;omega)).trans ((d.out.block (a.heap.size+1) (by simp)).trans (aC (by simp)));have ad:¬f (a.heap.size+1):=fun e=>(C _ e).elim (fun c=>by have:=l _ c;omega) (fun c=>by (try simp at c);omega))
          | skip
        (try have ci:=ab u)
        (try have ck:=ag u)
        (try have P:=aa u)
        (try clear u)
        have N:=aa a8;have a1:=aa bl;have av:=aa a7;have R:=aa bo;have b7:=p.size;(try simp at b7)
        clear a8 p C bo bl a7))
   all_goals (go_wp2_with fail;go_meet)
   all_goals first
    | exact⟨_,_,f,rfl,rfl,af _ _,(ah _ _ (am R.out)).trans R.out,D.kept N.out (by simp) (fun b V=>ah _ _ (D.lt N.out b V)),a1.out.alloc _,av.out⟩
    | exact jf9 D 1 0 0 P.out R.out N.out a1.out av.out ad (by omega) (by omega)
  case rest=>
   obtain⟨r,A,f,rfl,rfl,H,I,J,K,L⟩:=hcut;have cc:=ab H;have b2:=ab I;have ch:=ag I;have P:=aa (aN J (aN K L));have ad:¬w.heap.size+1=A:=fun e=>by rw [<-e,I] at H;simp at H
   clear H I J K L T U;go_wp2_with fail
   obtain⟨J,K,L⟩:=P.out;refine bodyPost_ret (v:=oS) (by simp [results,results113,go_sem,b2]) rfl ⟨rfl,?_⟩
   exact fF D 1 0 0 J K l (by omega) L
end Go.Proofs.YtnlgndpcddngoaaGreatDoor
