import Derived.Test.YtnlgndpcddngoaaGreatDoorZ08
set_option linter.all false
set_option maxRecDepth 100000
set_option maxHeartbeats 4000000
namespace Go.Proofs.YtnlgndpcddngoaaGreatDoor
open Go.Proofs.Tryz Go.RowKit Go.Maps
variable [dK] [iK]
theorem fin7 {c:World->(NP)->Prop}(o:PP c){w a w':World}{F d:NP}(m:B7 w a)(q:w.heap.size+1<a.heap.size)(n:∀ b,F b->b<w.heap.size)(j:c w' d)(k:ae F a w')(l:∀ b,d b->F b\/a.heap.size<=b)(i f g:Int) :
  cB w F (((w'.setCell ⟨w.heap.size+1,0,none⟩ (.int .u8 i)).setCell ⟨w.heap.size+1,1,none⟩ (.int .u64 f)).setCell ⟨w.heap.size+1,2,none⟩ (.int .u64 g)) c:=
 fF o i f g j (ae.then (S:=F) (ae.of_below m) k (fun _ _ e=>e)) n (by omega) (fun b p=>(l b p).imp_right (fun e=>by omega))
theorem jai (s:Nat)(j:World->Prop)(i:World->(NP)->Prop)(y:PP i)(F:NP)(q:Rq)(c a b:Int)(w:World)(E:q.op=3)(z:Hid (∀ f,B7 w f->j f))(l:∀ b,F b->b<w.heap.size)
  (B:Hid (∀ f,j f->Calls prog 112 #[pO s 2,oE q.k0 q.k1 q.k2 q.k3 q.k4 q.k5 q.k6 q.k7] f fun e w'=>e=.returned (ot c a b)/\cB f F w' i)) :
  Calls prog 74 #[pO s 0,On q.op q.k0 q.k1 q.k2 q.k3 q.k4 q.k5 q.k6 q.k7 q.kd q.x q.y q.n] w fun e w'=>e=.returned (ot c a b)/\cB w F w' i:=by
 rw [E];obtain⟨d,g⟩:∃ d,d=(w.alloc (Oa q.k0 q.k1 q.k2 q.k3 q.k4 q.k5 q.k6 q.k7 q.kd q.x q.y q.n)).alloc (og):=⟨_,rfl⟩;have k:B7 w d:=g▸(ba w).alloc (by simp) _;have C:d.heap[w.heap.size]?=some (Oa q.k0 q.k1 q.k2 q.k3 q.k4 q.k5 q.k6 q.k7 q.kd q.x q.y q.n):=g▸aB (af _ _) _;have o:d.heap[w.heap.size+1]?=some (og):=g▸aC (by simp);have A:=z.out d.drew k.drew;have H:=ab C;have r:=am o;go_enter func74,ntmps74
 go_upto_region 1 with fail
 rw [<-g];clear g;go_upto_region 7 with fail
 go_region_with (go_at_call 112;go_loud (refine (B.out _ A).mono ?_;rintro e J ⟨rfl,G,m,n,D⟩;have t:=aa m;clear m;have p:=(n.block _ r (fun x=>by have:=l _ x;omega)).trans o;have u:=ab p;have I:=ag p))
 all_goals go_wp2
 all_goals (
   refine bodyPost_ret (v:=(ot c a b)) (by simp [results,results74,go_sem,u]) rfl ⟨rfl,?_⟩
   exact fin7 y k.drew r l t.out n D _ _ _)
theorem iu (s:Nat)(j:World->Prop)(i:World->(NP)->Prop)(y:PP i)(F:NP)(q:Rq)(c a b:Int)(w:World)(E:q.op=4)(z:Hid (∀ f,B7 w f->j f))(l:∀ b,F b->b<w.heap.size)
  (B:Hid (∀ f,j f->Calls prog 113 #[pO s 2,oE q.k0 q.k1 q.k2 q.k3 q.k4 q.k5 q.k6 q.k7] f fun e w'=>e=.returned (ot c a b)/\cB f F w' i)) :
  Calls prog 74 #[pO s 0,On q.op q.k0 q.k1 q.k2 q.k3 q.k4 q.k5 q.k6 q.k7 q.kd q.x q.y q.n] w fun e w'=>e=.returned (ot c a b)/\cB w F w' i:=by
 rw [E];obtain⟨d,g⟩:∃ d,d=(w.alloc (oZ q.k0 q.k1 q.k2 q.k3 q.k4 q.k5 q.k6 q.k7 q.kd q.x q.y q.n)).alloc (og):=⟨_,rfl⟩;have k:B7 w d:=g▸(ba w).alloc (by simp) _;have C:d.heap[w.heap.size]?=some (oZ q.k0 q.k1 q.k2 q.k3 q.k4 q.k5 q.k6 q.k7 q.kd q.x q.y q.n):=g▸aB (af _ _) _;have o:d.heap[w.heap.size+1]?=some (og):=g▸aC (by simp);have A:=z.out d.drew k.drew;have H:=ab C;have r:=am o;go_enter func74,ntmps74
 go_upto_region 1 with fail
 rw [<-g];clear g;go_upto_region 9 with fail
 go_region_with (go_at_call 113;go_loud (refine (B.out _ A).mono ?_;rintro e J ⟨rfl,G,m,n,D⟩;have t:=aa m;clear m;have p:=(n.block _ r (fun x=>by have:=l _ x;omega)).trans o;have u:=ab p;have I:=ag p))
 all_goals go_wp2
 all_goals (
   refine bodyPost_ret (v:=(ot c a b)) (by simp [results,results74,go_sem,u]) rfl ⟨rfl,?_⟩
   exact fin7 y k.drew r l t.out n D _ _ _)
theorem kO (s:Nat)(j:World->Prop)(i:World->(NP)->Prop)(y:PP i)(F:NP)(q:Rq)(c a b:Int)(w:World)(E:q.op=1)(z:Hid (∀ f,B7 w f->j f))(l:∀ b,F b->b<w.heap.size)
  (B:Hid (∀ f,j f->Calls prog 109 #[pO s 2,oE q.k0 q.k1 q.k2 q.k3 q.k4 q.k5 q.k6 q.k7,ot q.kd q.x q.y] f fun e w'=>e=.returned (ot c a b)/\cB f F w' i)) :
  Calls prog 74 #[pO s 0,On q.op q.k0 q.k1 q.k2 q.k3 q.k4 q.k5 q.k6 q.k7 q.kd q.x q.y q.n] w fun e w'=>e=.returned (ot c a b)/\cB w F w' i:=by
 rw [E];obtain⟨d,g⟩:∃ d,d=(w.alloc (Oc q.k0 q.k1 q.k2 q.k3 q.k4 q.k5 q.k6 q.k7 q.kd q.x q.y q.n)).alloc (og):=⟨_,rfl⟩;have k:B7 w d:=g▸(ba w).alloc (by simp) _;have C:d.heap[w.heap.size]?=some (Oc q.k0 q.k1 q.k2 q.k3 q.k4 q.k5 q.k6 q.k7 q.kd q.x q.y q.n):=g▸aB (af _ _) _;have o:d.heap[w.heap.size+1]?=some (og):=g▸aC (by simp);have A:=z.out d.drew k.drew;have H:=ab C;have r:=am o;go_enter func74,ntmps74
 go_upto_region 1 with fail
 rw [<-g];clear g;go_upto_region 3 with fail
 go_region_with (go_at_call 109;go_loud (refine (B.out _ A).mono ?_;rintro e J ⟨rfl,G,m,n,D⟩;have t:=aa m;clear m;have p:=(n.block _ r (fun x=>by have:=l _ x;omega)).trans o;have u:=ab p;have I:=ag p))
 all_goals go_wp2
 all_goals (
   refine bodyPost_ret (v:=(ot c a b)) (by simp [results,results74,go_sem,u]) rfl ⟨rfl,?_⟩
   exact fin7 y k.drew r l t.out n D _ _ _)
theorem mY (p:Nat)(t:World->Prop)(s Post2:World->(NP)->Prop)(I:PP Post2)(F:NP)(q:Rq)(c a b:Int)(w:World)(P:q.op=2)(J:Hid (∀ f,B7 w f->t f))(j:∀ b,F b->b<w.heap.size)
  (L:Hid (∀ f,t f->Calls prog 111 #[pO p 2,oE q.k0 q.k1 q.k2 q.k3 q.k4 q.k5 q.k6 q.k7,.int .u64 q.n] f fun e w'=>e=.returned (ot c a b)/\cB f F w' s))
  (M:Hid (∀ f r,s f r->Calls prog 110 #[pO p 0,.int .u64 q.n,ot c a b] f fun e w'=>e=.returned (ot c a b)/\cB f r w' Post2)) :
  Calls prog 74 #[pO p 0,On q.op q.k0 q.k1 q.k2 q.k3 q.k4 q.k5 q.k6 q.k7 q.kd q.x q.y q.n] w fun e w'=>e=.returned (ot c a b)/\cB w F w' Post2:=by
 rw [P];obtain⟨g,i⟩:∃ g,g=(w.alloc (Ob q.k0 q.k1 q.k2 q.k3 q.k4 q.k5 q.k6 q.k7 q.kd q.x q.y q.n)).alloc (og):=⟨_,rfl⟩;have u:B7 w g:=i▸(ba w).alloc (by simp) _;have n:g.heap[w.heap.size]?=some (Ob q.k0 q.k1 q.k2 q.k3 q.k4 q.k5 q.k6 q.k7 q.kd q.x q.y q.n):=i▸aB (af _ _) _;have A:g.heap[w.heap.size+1]?=some (og):=i▸aC (by simp);have K:=J.out g.drew u.drew;have T:=ab n;have C:=am A;go_enter func74,ntmps74
 go_upto_region 1 with fail
 rw [<-i];clear i;go_upto_region 5 with fail
 go_region_with (first | (go_at_call 111;go_loud (refine (L.out _ K).mono ?_;rintro e Y ⟨rfl,D,x,k,o⟩;have E:=aa x;clear x;have l:=(k.block _ C (fun d=>by have:=j _ d;omega)).trans A;have U:=ab l;have V:=ag l;have O:=(k.block _ (am n) (fun d=>by have:=j _ d;omega)).trans n;have X:=ab O)) | (go_at_call 110;go_loud (refine (M.out _ D E.out).mono ?_;rintro e Z ⟨rfl,S,y,z,Q⟩;have G:=aa y;clear y;have R:=am l;have B:=(z.block _ R (fun d=>by rcases o _ d with d | d;have:=j _ d;omega;have:g.heap.size<=_:=d;omega)).trans l;have H:=ab B;have W:=ag B)))
 all_goals go_wp2
 all_goals (
   refine bodyPost_ret (v:=(ot c a b)) (by simp [results,results74,go_sem,H]) rfl ⟨rfl,?_⟩
   exact fin7 I u.drew C j G.out (k.then z (fun m N d=>(o m d).elim id (fun d=>absurd N (Nat.not_lt.2 d)))) (fun m d=>(Q m d).elim (o m) (fun d=>ir (lq k.size d))) _ _ _)
theorem jah (k:Nat)(i:World->Prop)(g:World->(NP)->Prop)(y:PP g)(F:NP)(q:Rq)(w:World)(D:q.op=6)(f:Int)(A:Hid (∀ a,i a->∃ G H I J K L,a.heap[k]?=some (.cells #[G,H,.int .u64 f,I,J,K,L] 130)))(B:Hid (∀ a l,i a->B7 a l->g l F))(z:Hid (∀ a,B7 w a->i a))(x:∀ b,F b->b<w.heap.size) :
  Calls prog 74 #[pO k 0,On q.op q.k0 q.k1 q.k2 q.k3 q.k4 q.k5 q.k6 q.k7 q.kd q.x q.y q.n] w fun e w'=>e=.returned (us f)/\cB w F w' g:=by
 rw [D];obtain⟨c,d⟩:∃ c,c=(w.alloc (oX q.k0 q.k1 q.k2 q.k3 q.k4 q.k5 q.k6 q.k7 q.kd q.x q.y q.n)).alloc (og):=⟨_,rfl⟩;have m:B7 w c:=d▸(ba w).alloc (by simp) _;have C:c.heap[w.heap.size]?=some (oX q.k0 q.k1 q.k2 q.k3 q.k4 q.k5 q.k6 q.k7 q.kd q.x q.y q.n):=d▸aB (af _ _) _;have o:c.heap[w.heap.size+1]?=some (og):=d▸aC (by simp);have n:=z.out c m;have s:=ab C;have r:=am o;obtain⟨_,_,_,_,_,_,E⟩:=A.out _ n;go_enter func74,ntmps74
 go_upto_region 1 with fail
 rw [<-d];clear d;go_wp2_with fail
 refine (jfa k _ _ _ _ _ _ f _ E).mono ?_
 rintro e l ⟨rfl,j⟩;have p:=(j.block _ r).trans o;have t:=ab p;have M:=ag p;clear s;go_wp2
 refine bodyPost_ret (v:=(us f)) (by simp [results,results74,go_sem,t]) rfl ⟨rfl,?_⟩
 exact fin7 y m r x (B.out _ _ n j) (ae.of_below j) (fun b u=>il u) _ _ _
end Go.Proofs.YtnlgndpcddngoaaGreatDoor
