import Derived.Test.YtnlgndpcddngoaaGreatDoorZ22
set_option linter.all false
set_option maxRecDepth 100000
set_option maxHeartbeats 4000000
namespace Go.Proofs.YtnlgndpcddngoaaGreatDoor
open Go.Proofs.Tryz Go.RowKit Go.Maps
variable [dK] [iK]
theorem mr (y i:Nat)(b8 b9 cb adm:Value)(cc blk:Int)(o:Es)(k:Ky)(w:World)(a3:w.heap[y]?=some (oF b8 b9 cc blk i cb adm))(a0:aH w i o)(I:k.ok)(f p:Qt)(bF:ar k o=some (f,p))(bb:World->Prop)(z:World->(NP)->Prop)(H:PP z)(Post2:World->(NP)->Prop)(cv:PP Post2)(cw:∀ w c,z w c->w.cell? ⟨y,4,none⟩=some (.map (some i))/\aH w i o)(cx:∀ w w' c,z w c->aH w' i (aJ k (f,⟨0,0,0,0,0⟩) o)->ae (fun b=>b=i) w.drew w'->Post2 w' c)(n:NP)(bs:n i)(cF:(o.map Prod.fst).Nodup)(c8:o.length<=12)
  (R:Hid (∀ q,B7 w q->bb q)) (g:∀ b,n b->b<w.heap.size)
  (ct:Hid (∀ q L,bb q->aH q L (br k o)->¬n L->Calls prog 134 #[pO y 2,.map (some L),oS] q fun e w'=>e=.returned (Ok)/\∃ c,z w' c/\ae n q w'/\∀ b,c b->n b\/q.heap.size<=b\/b=L)) :
  Calls prog 113 #[pO y 2,om k] w fun e w'=>e=.returned (Ok)/\cB w n w' Post2:=by
 go_enter func113,ntmps113
 go_upto_region 1 with fail
 obtain⟨a,t⟩:∃ a,a=(w.alloc (ol k)).alloc (og):=⟨_,rfl⟩;rw [<-t];have E:B7 w a:=t▸(ba w).alloc (by simp) _;have J:a.heap[w.heap.size]?=some (ol k):=t▸aB (af _ _) _;have b1:a.heap[w.heap.size+1]?=some (og):=t▸aC (by simp);have K:a.heap[y]?=some (oF b8 b9 cc blk i cb adm):=t▸aB (aB a3 _) _;have u:aH a i o:=ap.kept a0 (E.block i (ap.lt a0));have df:=am a3;clear t a3 a0;have Z:=ab J;have ad:=ce J (od);have bg:=ab K;have bi:=ce K (od);have cn:=cZ (w:=a.drew) (ap.kept u rfl) I bF;have cp:=cZ (w:=(a.alloc (od)).drew) (ap.kept u (ah _ _ (ap.lt u))) I bF;go_cut [5,6] (fun c1 c2 C=>c1=.pointer (some ⟨a.heap.size,0,none⟩)/\c2=.bool true/\C=(a.alloc (oe f p)).drew)
 case first=>
  go_region
  all_goals (go_wp2_with fail;go_meet)
  all_goals exact⟨rfl,rfl,rfl⟩
 case rest=>
  obtain⟨rfl,rfl,rfl⟩:=hcut;have cG:(a.alloc (oe f p)).heap[a.heap.size]?=some (oe f p):=af _ _;have av:=aB J (oe f p);have a2:=aB b1 (oe f p);have b4:=aB K (oe f p);have bK:aH (a.alloc (oe f p)) i o:=ap.kept u (ah _ _ (ap.lt u));have bk:=E.alloc E.size (oe f p);have c7:=E.size;clear Z ad bg bi cn cp J b1 K u;have Z:=ab b4;have ad:=ab av;have dk:w.heap.size+1<a.heap.size+1:=by simpa using am a2
  have s:=aa bk;have U:=aa bK;have W:=aa a2;have Q:=aa av;have Y:=aa cG;clear bk bK a2;go_upto_region 4 with fail
  go_cut [7] (fun c3 C=>∃ (m:World) (A:Nat) (c:NP),m=C/\c3=.pointer (some ⟨A,0,none⟩)/\m.heap[A]?=some (uo)/\m.heap[w.heap.size+1]?=some (og)/\(m.heap[w.heap.size]?=some (ol k)/\m.heap[a.heap.size]?=some (oe f p))/\z m c/\a.heap.size<A/\ae n w m/\(∀ b,c b->n b\/w.heap.size+1<b))
  case first=>
   have ck:=aa (fun q (j:aH q i o)=>mf i o k q j (by omega) I cF);have bg:=ce b4 (og);have bi:=ce av (og);go_region_law (first
     | (refine aO (by rfl) 141 vk _ _ (by rfl) #[.map (some i),om k] (by simp only [List.map_toArray,List.map_cons,List.map_nil];rfl) (ck.out _ (by first | exact ap.kept U.out rfl | exact ap.kept U.out (ah _ _ (ap.lt U.out)))) ?_;rintro e ch ⟨nb,rfl,b0,bv,bl⟩;refine⟨_,rfl,?_⟩;have D:=aa bv;have d:=aa bl;have a7:=aa b0;clear bv bl b0)
     | (refine aO (by rfl) 134 ph _ _ (by rfl) #[pO y 2,.map (some nb),oS] (by simp only [List.map_toArray,List.map_cons,List.map_nil];rfl) (ct.out _ nb (by
         first
           | exact R.out _ (s.out.drew.drew.trans (d.out.mono (by simp;omega)))
           | exact R.out _ ((s.out.drew.drew.alloc (by simp;omega) _).trans (d.out.mono (by simp;omega)))
           | exact R.out _ ((s.out.drew.drew.trans (d.out.mono (by simp;omega))).alloc (by have:=d.out.size;simp at this;omega) _))
         (by first | exact D.out | exact ap.kept D.out (ah _ _ (ap.lt D.out))) (fun e=>by have:=g _ e;have:=a7.out;simp at this;omega)) ?_;rintro e P ⟨rfl,c,bu,l,F⟩;refine⟨_,rfl,?_⟩
        have cX:=d.out.size;have cV:=a7.out;have dm:=ap.lt D.out;simp at cX cV;have b6:ae n w P:=ae.then (S:=n) (ae.of_below (by
          first
           | exact s.out.drew.drew.trans (d.out.mono (by simp;omega))
           | exact (s.out.drew.drew.alloc (by simp;omega) _).trans (d.out.mono (by simp;omega))
           | exact (s.out.drew.drew.trans (d.out.mono (by simp;omega))).alloc (by omega) _)) l (fun _ _ j=>j)
        have b7:P.heap[w.heap.size+1]?=some (og):=by
          first
           | exact (l.block _ (by omega) (fun e=>by have:=g _ e;omega)).trans ((d.out.block _ (by simp;omega)).trans W.out)
           | exact (l.block _ (by omega) (fun e=>by have:=g _ e;omega)).trans ((d.out.block _ (by simp;omega)).trans ((ah _ _ (by simp;omega)).trans W.out))
           | exact (l.block _ (by simp;omega) (fun e=>by have:=g _ e;omega)).trans ((ah _ _ (by omega)).trans ((d.out.block _ (by simp;omega)).trans W.out))
        have b5:P.heap[w.heap.size]?=some (ol k):=by
          first
           | exact (l.block _ (by omega) (fun e=>by have:=g _ e;omega)).trans ((d.out.block _ (by simp;omega)).trans Q.out)
           | exact (l.block _ (by omega) (fun e=>by have:=g _ e;omega)).trans ((d.out.block _ (by simp;omega)).trans ((ah _ _ (by simp;omega)).trans Q.out))
           | exact (l.block _ (by simp;omega) (fun e=>by have:=g _ e;omega)).trans ((ah _ _ (by omega)).trans ((d.out.block _ (by simp;omega)).trans Q.out))
        have ci:P.heap[a.heap.size]?=some (oe f p):=by
          first
           | exact (l.block _ (by omega) (fun e=>by have:=g _ e;omega)).trans ((d.out.block _ (by simp <;> omega)).trans Y.out)
           | exact (l.block _ (by omega) (fun e=>by have:=g _ e;omega)).trans ((d.out.block _ (by simp <;> omega)).trans ((ah _ _ (by simp <;> omega)).trans Y.out))
           | exact (l.block _ (by simp;omega) (fun e=>by have:=g _ e;omega)).trans ((ah _ _ (by omega)).trans ((d.out.block _ (by simp <;> omega)).trans Y.out))
        have r:=aa (aN b5 ci);clear b5 ci;have bo:∀ b,c b->n b\/w.heap.size+1<b:=fun b ao=>(F b ao).imp_right (fun j=>by (try simp at j);omega);first
          | (have B:=(l.block ch.heap.size (by simp) (fun e=>by have:=g _ e;omega)).trans (af _ _);have a4:¬c ch.heap.size:=fun e=>(F _ e).elim (fun j=>by have:=g _ j;omega) (fun j=>by (try simp at j);omega))
          | (have B:=(l.block (a.heap.size+1) (by omega) (fun e=>by have:=g _ e;omega)).trans ((d.out.block (a.heap.size+1) (by simp)).trans (aC (by simp)));have a4:¬c (a.heap.size+1):=fun e=>(F _ e).elim (fun j=>by have:=g _ j;omega) (fun j=>by (try simp at j);omega))
          | skip
        (try have c5:=ab B)
        (try have c6:=ag B)
        (try have V:=aa B)
        (try clear B)
        have T:=aa bu;have a9:=aa b6;have a6:=aa bo;have X:=aa b7;have c0:=l.size;(try simp at c0)
        clear bu l F b7 b6 bo))
   all_goals (go_wp2_with fail;go_meet)
   all_goals first
    | exact⟨_,_,c,rfl,rfl,af _ _,(ah _ _ (am X.out)).trans X.out,⟨(ah _ _ (am r.out.1)).trans r.out.1,(ah _ _ (am r.out.2)).trans r.out.2⟩,H.kept T.out (by simp) (fun b ao=>ah _ _ (H.lt T.out b ao)),by have:=am r.out.2;omega,a9.out.alloc _,a6.out⟩
    | exact jga H 7 0 0 V.out X.out r.out.1 r.out.2 T.out a9.out a6.out a4 (by omega) (by omega) (by omega) (by omega)
  case rest=>
   obtain⟨m,A,c,rfl,rfl,M,a5,⟨cz,cR⟩,x,dn,N,O⟩:=hcut;obtain⟨dd,a1⟩:=cw m c x;have cU:=H.lt x;have bj:=ab M;have a4:¬w.heap.size+1=A:=by omega
   have dl:=ap.lt a1;have c9:=g i bs;obtain⟨bd,b3,bz,bw⟩:=ap.store (w:=m.drew) mF (ap.kept a1 rfl) (by omega) I (f,⟨0,0,0,0,0⟩) jF;have db:(Instr.mapUpdate 121 (.map (some i)) (om k) (.agg #[.int .u8 f.kd,.int .u64 f.x,.int .u64 f.y,.int .u64 f.lv,.int .u64 f.wn,.int .u8 0,.int .u64 0,.int .u64 0,.int .u64 0,.int .u64 0])).run prog m.drew=.ok () bd:=b3;have G:=ae.turned bz;have b2:=(G.block _ (am a5) (fun e=>by omega)).trans a5;have cy:=(G.block _ (am M) (fun e=>by omega)).trans M;have a8:=aa G;have cl:=aa bw;have V:=aa (aN x (aN N O));clear b3 bz G bw a1 M a5 x N O Z ad cU;have cr:=ab cz;have cs:=ab cR;go_upto_region 7 with fail
   go_cut [] (fun C=>C=bd)
   case first=>
    go_region
    all_goals (go_wp2_with fail;go_meet)
    all_goals rfl
   case rest=>
    subst hcut;clear cr cs bj;have bj:=ab cy;have cq:=ab b2;have c4:=ag b2;go_wp2
    obtain⟨x,N,O⟩:=V.out;refine bodyPost_ret (v:=Ok) (by simp [results,results113,go_sem,cq]) rfl ⟨rfl,?_⟩
    exact fF cv 7 0 0 (cx m _ c x cl.out a8.out) (N.drew.then a8.out (fun di _ j=>j▸bs)) g (by omega) O
end Go.Proofs.YtnlgndpcddngoaaGreatDoor
