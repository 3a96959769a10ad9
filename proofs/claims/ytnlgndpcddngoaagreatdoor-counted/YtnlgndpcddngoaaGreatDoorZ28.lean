import Derived.Test.YtnlgndpcddngoaaGreatDoorZ08
set_option linter.all false
set_option maxRecDepth 100000
set_option maxHeartbeats 4000000
namespace Go.Proofs.YtnlgndpcddngoaaGreatDoor
open Go.Proofs.Tryz Go.RowKit Go.Maps
variable [dK] [iK]
theorem wJ (n d:Nat)(C D E adm:Value)(F blk:Int)(g:Es)(k:Ky)(w:World)(U:w.heap[n]?=some (oF C D F blk d E adm))(O:aH w d g)(M:k.ok)(f x y:Int)(ch:((f=1/\1<=x)\/(f=2/\1<=y)))(a2:ar k g=none)(cy:g.length<12)(I G H:Int)(Z:World->Prop)(J:World->(NP)->Prop)(b6:PP J)(i:NP)
  (bo:Hid (∀ a,B7 w a->Z a)) (L:∀ b,i b->b<w.heap.size)
  (b5:Hid (∀ a B,Z a->aH a B (aJ k (⟨f,x,y,0,0⟩,⟨f,x,y,0,0⟩) g)->¬i B->Calls prog 134 #[pO n 2,.map (some B),oS] a fun e w'=>e=.returned (ot I G H)/\∃ r,J w' r/\ae i a w'/\∀ b,r b->i b\/a.heap.size<=b\/b=B)) :
  Calls prog 109 #[pO n 2,om k,ot f x y] w fun e w'=>e=.returned (ot I G H)/\cB w i w' J:=by
 have b9:=ap.lt O;have cz:=am U;go_enter func109,ntmps109
 go_wp2_with fail
 refine (km f x y _ ch).mono ?_
 rintro e a ⟨rfl,q⟩;have u:B7 w a:=(((ba w).alloc (by simp) _).alloc (by simp <;> omega) _).trans (q.mono (by simp <;> omega))
 have a4:a.heap[w.heap.size]?=some (ol k):=(q.block _ (by simp <;> omega)).trans (aB (aB (af _ _) _) _)
 have T:a.heap[w.heap.size+2]?=some (og):=(q.block _ (by simp <;> omega)).trans (aC (by simp))
 have bg:a.heap[n]?=some (oF C D F blk d E adm):=(q.block _ (by simp <;> omega)).trans (aB (aB (aB U _) _) _)
 have Q:aH a d g:=ap.kept O (u.block d b9);clear q U O;go_upto_region 2 with fail
 obtain⟨c,m⟩:∃ c,c=a.alloc (Oo f x y):=⟨_,rfl⟩;rw [<-m];have K:B7 w c:=m▸u.alloc u.size _;have z:c.heap[w.heap.size]?=some (ol k):=m▸aB a4 _;have bb:c.heap[w.heap.size+2]?=some (og):=m▸aB T _;have A:c.heap[n]?=some (oF C D F blk d E adm):=m▸aB bg _;have a8:c.heap[a.heap.size]?=some (Oo f x y):=m▸af _ _;have p:aH c d g:=m▸ap.kept Q (ah _ _ (ap.lt Q));have cG:=am T;clear m u a4 T bg Q;have bF:=ab z;have bK:=ce z (od);have b0:=ab A;have b1:=ce A (od);have b2:=dY (w:=c.drew) (ap.kept p rfl) M a2;have b3:=dY (w:=(c.alloc (od)).drew) (ap.kept p (ah _ _ (ap.lt p))) M a2;go_cut [9,10] (fun cl cn cq=>cl=.pointer (some ⟨c.heap.size,0,none⟩)/\cn=.bool false/\cq=(c.alloc (od)).drew)
 case first=>
  go_region
  all_goals (go_wp2_with fail;go_meet)
  all_goals exact⟨rfl,rfl,rfl⟩
 case rest=>
  obtain⟨rfl,rfl,rfl⟩:=hcut;have a3:=aB z (od);have bd:=aB bb (od);have V:=aB A (od);have a9:=aB a8 (od);have P:aH (c.alloc (od)) d g:=ap.kept p (ah _ _ (ap.lt p));have ao:=K.alloc K.size (od);have cw:=K.size;clear bF bK b0 b1 b2 b3 z bb A p a8;have ad:=ab V;have a5:Hid ((Builtin.len_ #[121] 3 #[.map (some d)]).run prog (c.alloc (od)).drew=.ok (.int .i64 g.length) (c.alloc (od)).drew):=aa (ap.len (w:=(c.alloc (od)).drew) (ap.kept P rfl) jF 3);have cv:decide ((12:Int)<=g.length)=false:=by simp;omega
  go_upto_region 7 with fail
  obtain⟨j,l⟩:∃ j,j=(c.alloc (od)).drew:=⟨_,rfl⟩;rw [<-l] at a5 ⊢;have R:j.heap[w.heap.size+2]?=some (og):=l▸bd;have b8:j.heap[w.heap.size]?=some (ol k):=l▸a3;have cc:j.heap[n]?=some (oF C D F blk d E adm):=l▸V;have cb:j.heap[a.heap.size]?=some (Oo f x y):=l▸a9;have a6:aH j d g:=l▸ap.kept P rfl;have o:B7 w j:=l▸ao.drew;clear l bd a3 V P ao ad a9;have ad:=ab cc;have cr:=ab b8;have cs:=ab cb;have cF:=am R;have bu:=aa a6;have X:=aa o;have bw:=aa R;have cx:=o.size;clear a6 o R;go_upto_region 9 with (at_len;refine gK _ (by rfl) _ _ (by rfl) _ (by rfl) _ a5.out ?_)
  have bk:=aa (fun a (t:aH a d g)=>wt d g k (⟨f,x,y,0,0⟩,⟨f,x,y,0,0⟩) a t (by omega) M);go_region_law (first
    | (refine aO (by rfl) 135 jdo _ _ (by rfl) #[.map (some d),om k,.agg #[.int .u8 f,.int .u64 x,.int .u64 y,.int .u64 0,.int .u64 0,.int .u8 f,.int .u64 x,.int .u64 y,.int .u64 0,.int .u64 0]] (by simp only [List.map_toArray,List.map_cons,List.map_nil];rfl) (bk.out _ (ap.kept bu.out rfl)) ?_;rintro e cp ⟨nb,rfl,a7,a1,o⟩;refine⟨_,rfl,?_⟩;have bv:=aa a1;have s:=aa o;have Y:=aa a7;clear a1 o a7)
    | (refine aO (by rfl) 134 ph _ _ (by rfl) #[pO n 2,.map (some nb),oS] (by simp only [List.map_toArray,List.map_cons,List.map_nil];rfl) (b5.out cp nb (bo.out _ (X.out.drew.trans (s.out.mono (by simp;omega)))) bv.out (fun e=>by have:=L _ e;have:=Y.out;simp at this;omega)) ?_;rintro e bj ⟨rfl,r,a0,N,av⟩;refine⟨_,rfl,?_⟩
       have ck:=s.out.size;have ci:=Y.out;simp at ck ci;have bi:ae i w bj:=ae.then (S:=i) (ae.of_below (X.out.drew.trans (s.out.mono (by simp;omega)))) N (fun _ _ t=>t);have W:bj.heap[w.heap.size+2]?=some (og):=(N.block _ (by omega) (fun e=>by have:=L _ e;omega)).trans ((s.out.block _ (by simp;omega)).trans bw.out);have bl:Hid (∀ b,r b->i b\/w.heap.size+2<b):=aa (fun b b7=>(av b b7).imp_right (fun t=>by omega));have b4:=ab W;have ct:=ag W;have bs:=aa a0;have bz:=aa bi;clear a0 N av W bi))
  all_goals go_wp2
  all_goals (
    refine bodyPost_ret (v:=(ot I G H)) (by simp [results,results109,go_sem,b4]) rfl ⟨rfl,?_⟩
    exact fF b6 I G H bs.out bz.out L (by omega) bl.out)
end Go.Proofs.YtnlgndpcddngoaaGreatDoor
