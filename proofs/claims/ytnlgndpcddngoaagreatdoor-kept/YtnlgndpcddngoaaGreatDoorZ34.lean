import Derived.Test.YtnlgndpcddngoaaGreatDoorZ33
import Derived.Test.YtnlgndpcddngoaaGreatDoorZ10
set_option linter.all false
set_option maxRecDepth 100000
set_option maxHeartbeats 8000000
namespace Go.Proofs.YtnlgndpcddngoaaGreatDoor
open Go.Proofs.Tryz Go.RowKit Go.Maps
variable [dK] [iK]
theorem jcj (db g nb:Nat)(blk:Int)(D:Dx)(a:de)(w:World)(n:a.ok)(t:a.hx D)(u:a.blk=blk)(fsN:Fs)(A:Sm a.fsD fsN)(v:w.heap[db]?=some (oB g nb))(q:ak w g a.fsD)(r:ak w nb fsN)(x:g≠nb) :
  Calls prog 34 #[.iface 78 (.pointer (some ⟨db,0,none⟩)),.int .u64 blk] w fun e w'=>∃ l i F,e=.returned (.tuple #[pO l 0,.nilIface])/\w.heap.size<=l/\aU db blk ⟨i.time,true⟩ (bu 3999999) w' 0 l i F/\(Rec blk a.ld i/\D.t<=i.time/\(D.z=true->∀ k z,aZ k a.ld.ks=some z->aZ k i.ks=some z))/\(∀ b,F b->b=db\/b=g\/b=nb\/(∃ p∈a.fsD ++ fsN,b=p.2.1)\/w.heap.size<=b)/\ae (fun c=>c=db) w w':=by
 by_cases y:fsN≠[]
 ·exact jdZ db g nb blk D a w n t u fsN A y v q r x
 ·have o:fsN=[]:=Decidable.byContradiction y;have m:a.fsD=[]:=by
   cases d:a.fsD with
   | nil=>rfl
   | cons p K=>
    have:=A p.1;rw [o,d] at this;simp [ar] at this
  have s:a.es=[]:=by
   rcases n.dur.img with ⟨_,d,_⟩ | ⟨J,I,B,_,_,_,f,_⟩
   ·exact d
   ·rw [m] at f;simp [ar] at f
  rw [m] at q;rw [o] at r;rw [m,o];refine (jci db g nb blk w (u▸n.blk) v q r x).mono ?_
  rintro e w' ⟨l,F,rfl,C,E,G,f⟩;refine⟨l,⟨0,0,[]⟩,F,rfl,C,E.less ⟨by decide,by decide⟩,⟨⟨n.time.1,rfl,fun _ _=>rfl,fun k z j=>?_⟩,?_,fun _ k z j=>?_⟩,fun b H=>?_,ae.of_below f⟩
  ·have:a.ld.ks=[]:=by show stands a.es=[];rw [s];rfl
   rw [this] at j;simp [aZ] at j
  ·show D.t<=0;rcases t.1.img with ⟨_,_,d,_⟩ | ⟨J,I,B,_,_,_,f,_⟩
   ·exact d
   ·rw [m] at f;simp [ar] at f
  ·have:a.ld.ks=[]:=by show stands a.es=[];rw [s];rfl
   rw [this] at j;simp [aZ] at j
  ·rcases G b H with d | d | d | d
   ·exact il d
   ·exact ir (il d)
   ·exact ir (ir (il d))
   ·exact ir (ir (ir (ir d)))
theorem gw (a db nb i:Nat)(av M:Value)(blk l f:Int)(D:Dx)(d:de)(w:World)(bk:d.ok)(a8:d.hx D)(bj:d.blk=blk)(q:w.heap[a]?=some (Oq db av M blk))(j:w.heap[db]?=some (ox i nb l f))(v:ak w i d.fsD)(fsN:Fs)(b6:Sm d.fsD fsN)(x:ak w nb fsN)(bK:i≠nb) :
  Calls prog 20 #[pO a 0,.int .i64 (-1),.int .i64 (-1),.int .i64 0,.int .i64 0] w fun e w'=>∃ o m F,e=.returned (.int .i64 0)/\w.heap.size<=o/\w'.heap[a]?=some (oO db o blk)/\aU db blk ⟨m.time,true⟩ (bu 0) w' 0 o m F/\(Rec blk d.ld m/\D.t<=m.time/\(D.z=true->∀ k z,aZ k d.ld.ks=some z->aZ k m.ks=some z))/\(∀ b,F b->b=db\/b=i\/b=nb\/(∃ p∈d.fsD ++ fsN,b=p.2.1)\/w.heap.size<=b)/\¬F a/\ae (fun b=>b=a\/b=db) w w':=by
 have ck:=am q;have ci:=am j;have u:a≠db:=by
  intro e;subst e;rw [q] at j;simp at j
 have b2:nb≠db:=x.map.ne j;have bz:i≠db:=v.map.ne j;have bF:i≠a:=v.map.ne q;have b4:nb≠a:=x.map.ne q;have L:∀ p∈d.fsD ++ fsN,p.2.1≠a/\p.2.1≠db:=fun p g=>by
  rcases List.mem_append.1 g with g | g
  ·exact⟨fun e=>by have:=v.str p g;rw [e,q] at this;simp at this,fun e=>by have:=v.str p g;rw [e,j] at this;simp at this⟩
  ·exact⟨fun e=>by have:=x.str p g;rw [e,q] at this;simp at this,fun e=>by have:=x.str p g;rw [e,j] at this;simp at this⟩
 obtain⟨n,t⟩:∃ n,n=((w.setCell ⟨db,3,none⟩ (.int .i64 (-1))).setCell ⟨db,4,none⟩ (.int .i64 (-1))).drew:=⟨_,rfl⟩;have C:n.heap[a]?=some (Oq db av M blk):=by rw [t,aE,ac u,ac u];exact q
 have bs:n.heap[db]?=some (oB i nb):=by rw [t,aE];simpa using ai (ai j 3 (.int .i64 (-1))) 4 (.int .i64 (-1))
 have E:∀ G,G≠db->n.heap[G]?=w.heap[G]?:=fun G X=>by rw [t,aE,ac X,ac X]
 have bw:ak n i d.fsD:=v.kept (E i bz) (fun p g=>E _ (L p (List.mem_append_left _ g)).2);have b1:ak n nb fsN:=x.kept (E nb b2) (fun p g=>E _ (L p (List.mem_append_right _ g)).2);have P:ae (fun b=>b=a\/b=db) w n:=t▸(ae.set (S:=fun b=>b=a\/b=db) (b:=db) (ae.set (S:=fun b=>b=a\/b=db) (b:=db) (ae.refl _ w) (il (ir rfl)) _ _) (il (ir rfl)) _ _).drew;have a0:=ab q 0;have a1:=ab j;have a2:=ag j;have b8:¬a=db:=u;have ad:¬db=a:=fun e=>u e.symm;go_enter func20,ntmps20
 go_upto_region 1 with fail
 go_cut [] (fun cb=>cb=n)
 case first=>
  go_region_held3 (fun w'=>w'.cell? ⟨a,0,none⟩=some (.pointer (some ⟨db,0,none⟩))) (go_keep) (fail)
  all_goals (go_wp2_with fail;go_meet)
  all_goals exact t.symm
 case rest=>
  subst hcut;clear t a0 a1 a2;have bo:=(aE _ db).trans bs;have bv:ak wc.drew i d.fsD:=bw.kept rfl (fun _ _=>rfl);have b0:ak wc.drew nb fsN:=b1.kept rfl (fun _ _=>rfl);have a3:=ab C 0;have a4:=ab C 3;go_upto_region 2 with fail
  go_region_held3 (fun w'=>w'.cell? ⟨a,0,none⟩=some (.pointer (some ⟨db,0,none⟩))/\w'.cell? ⟨a,3,none⟩=some (.int .u64 blk)) (first | go_keep | (exact⟨ab B 0,ab B 3⟩))
   (first | (go_at_call 34;refine (jcj db i nb blk D d _ bk a8 bj fsN b6 bo bv b0 bK).mono ?_;rintro e cl ⟨o,m,F,rfl,b5,Q,bg,bb,I⟩;have B:=(I.block a (am C) u).trans C))
  have cc:=I.size;have W:=P.size;obtain⟨Z,ao,Y,N,U⟩:=Q.dsk;go_wp2_with fail
  refine (jh _).mono ?_
  rintro e b9 ⟨rfl,A⟩;have J:=(A.block a (am B)).trans B;have bl:=(A.block db (am U)).trans U;have bi:=Q.below A lz;have a5:=ab J;have a6:=ag J;clear a3 a4;go_wp2_with fail
  obtain⟨r,s⟩:∃ r,r=(b9.setCell ⟨a,1,none⟩ (.pointer (some ⟨o,0,none⟩))).setCell ⟨a,2,none⟩ (.slice none 0 0):=⟨_,rfl⟩;rw [<-s];have K:r.heap[a]?=some (oO db o blk):=by rw [s];simpa using ai (ai J 1 (.pointer (some ⟨o,0,none⟩))) 2 (.slice none 0 0)
  have V:r.heap[db]?=some (ox Z ao Y N):=by rw [s,ac ad,ac ad];exact bl
  have O:∀ b,F b->b=db\/b=i\/b=nb\/(∃ p∈d.fsD ++ fsN,b=p.2.1)\/w.heap.size<=b:=fun b c=>(bb b c).imp id (fun c=>c.imp id (fun c=>c.imp id (fun c=>c.imp id (fun c=>lq W c))));have H:∀ b,F b->b≠a:=fun b c e=>by
   rcases O b c with c | c | c | ⟨p,g,c⟩ | c
   ·exact b8 (e.symm.trans c)
   ·exact bF (c.symm.trans e)
   ·exact b4 (c.symm.trans e)
   ·exact (L p g).1 (c.symm.trans e)
   ·omega
  have R:aU db blk ⟨m.time,true⟩ (bu 3999999) r 0 o m F:=bi.kept (by rw [s];simp) (fun b T=>by rw [s,ac (H b T),ac (H b T)]);have bd:ae (fun b=>b=a\/b=db) w r:=by
   have b7:=(P.drew.then I (fun _ _ c=>ir c)).trans (ae.of_below A);rw [s];exact ae.set (S:=fun b=>b=a\/b=db) (b:=a) (ae.set (S:=fun b=>b=a\/b=db) (b:=a) b7 (il (il rfl)) _ _) (il (il rfl)) _ _
  clear s a5 a6;refine (gM a db (some Z) (some ao) _ _ _ _ Y N 0 0 r K V).mono ?_
  rintro e cn ⟨rfl,a7,y⟩;go_wp2
  go_ret
  refine⟨o,m,F,rfl,lq W b5,(y.block a (am K) u).trans K,(R.refill V a7 y.size (fun b a9 b3=>y.block b (R.lt b a9) b3)).less ⟨by decide,by decide⟩,bg,O,fun c=>H a c rfl,bd.then y (fun ch _ c=>ir c)⟩
def rP (w:World)(db d nb:Nat)(e:Ending)(w':World):Prop:=∃ (f:Nat) (c b:Int),e=.returned (.tuple #[pO f 0,.nilIface])/\w'.heap[db]?=some (ox d nb c b)/\ae (fun a=>a=db) w w'
theorem jd1 (db g nb:Nat)(blk:Int)(fs:Fs)(d:Bool->Option Ig)(l f:Int)(w:World)(j:OpF w db g nb fs d l f)(k:∀ b i,d b=some i->i.ks.Nodup) :
  Calls prog 34 #[.iface 78 (.pointer (some ⟨db,0,none⟩)),.int .u64 blk] w fun e w'=>rP w db g nb e w':=by
 have m:=aa (jN db g nb fs d l f blk w j k);clear j k;go_enter func34,ntmps34
 go_wp2_with fail
 refine m.out.mono ?_
 rintro e u ⟨v,y,x,rfl,o,p,q,r,s,t,a,c⟩;have n:=aa (aN a c);clear o p q r s t a c;go_wp2
 go_ret2
 obtain⟨a,c⟩:=n.out;exact⟨u.heap.size+1,_,_,by simp,aB (aB a _) _,(c.alloc _).alloc _⟩
theorem jck (db d nb:Nat)(blk l f:Int)(w:World)(b:w.heap[db]?=some (ox d nb l f))(c:ak w nb []) :
  Calls prog 34 #[.iface 78 (.pointer (some ⟨db,0,none⟩)),.int .u64 blk] w fun e w'=>rP w db d nb e w':=by
 have g:=aa (lE db nb _ _ _ _ blk w b c);have HD:=aa b;clear b c;go_enter func34,ntmps34
 go_wp2_with fail
 refine g.out.mono ?_
 rintro e p ⟨q,r,rfl,j,k,m,n,o,a⟩;have i:=aa a;clear j k m n o a;go_wp2
 go_ret2
 have a:=i.out;exact⟨p.heap.size+1,_,_,by simp,aB (aB ((a.block db (am HD.out)).trans HD.out) _) _,((ae.of_below a).alloc _).alloc _⟩
theorem je6 (a db f:Nat)(Y ao s r R T:Value)(fs:Fs)(G p:Int)(w:World)(Z:-9223372036854775808<=p)(ad:p<=9223372036854775807)(i:w.heap[a]?=some (Um db ao s r))(m:w.heap[db]?=some (.cells #[.map (some f),Y,.slice none 0 0,R,T,.bool true] 88))(l:ak w f fs) :
  Calls prog 32 #[pO a 0,.int .i64 G,.int .i64 p] w fun e w'=>e=.returned (.tuple #[])/\∃ nb,w'.heap[a]?=some (uA db s r)/\w'.heap[db]?=some (oB f nb)/\w.heap.size<=nb/\ak w' nb fs/\ae (fun b=>b=a\/b=db) w w':=by
 have v:a≠db:=by
  intro e;subst e;rw [i] at m;simp at m
 have V:f≠a:=l.map.ne i;have H:¬a=db:=v;have X:¬db=a:=fun e=>v e.symm;obtain⟨c,g⟩:∃ c,c=w.setCell ⟨a,1,none⟩ (.pointer none):=⟨_,rfl⟩;have n:∀ q,q≠a->c.heap[q]?=w.heap[q]?:=fun q W=>by rw [g,ac W]
 have u:c.heap[a]?=some (uA db s r):=by rw [g];simpa using ai i 1 (.pointer none)
 have C:=(n db X).trans m;have D:ak c f fs:=l.kept (n f V) (fun o x=>n _ (fun e=>by have:=l.str o x;rw [e,i] at this;simp at this));have B:ae (fun b=>b=a\/b=db) w c:=g▸ae.set (S:=fun b=>b=a\/b=db) (b:=a) (ae.refl _ w) (il (il rfl)) _ _;have z:c.heap.size=w.heap.size:=by rw [g];simp
 have I:=aa (j9 db f _ _ _ _ fs G p c Z ad C D);have N:=ab i;have O:=ab m;have P:=ag i;have K:=aa B;have A:=aa u;have M:=aa z;clear n C D B l z;go_enter func32,ntmps32
 go_upto_region 2 with fail
 rw [<-g];clear g N O P;have Q:=ab u;clear u;go_wp2_with fail
 refine I.out.mono ?_
 rintro e a2 ⟨rfl,nb,d,y,j,k⟩;have t:=(k.block a (am A.out) v).trans A.out;have av:=ab t 0;have a0:=ab d;have a1:=ag d;have L:=aa (aN d (aN y (aN j k)));have J:=aa t;clear d y j k t Q;go_wp2_with fail
 go_region_held3 (fun w'=>w'.cell? ⟨a,0,none⟩=some (.pointer (some ⟨db,0,none⟩))) (go_keep) (fail)
 all_goals go_wp2
 all_goals go_end0
 all_goals (
   obtain⟨d,y,j,k⟩:=L.out;have E:nb≠db:=j.map.ne d;have z:=M.out;refine⟨rfl,nb,?_,(aE _ _).trans (by simpa using ai (ai d 3 (.int .i64 (-1))) 4 (.int .i64 (-1))),by omega,?_,ae.drew ?_⟩
   · rw [aE,ac H,ac H];exact J.out
   · exact j.kept (by rw [aE,ac E,ac E]) (fun o x=>by
       have F:o.2.1≠db:=fun e=>by have:=j.str o x;rw [e,d] at this;simp at this
       rw [aE,ac F,ac F])
   · exact ae.set (S:=fun b=>b=a\/b=db) (b:=db) (ae.set (S:=fun b=>b=a\/b=db) (b:=db) (K.out.then k (fun _ _ U=>ir U)) (il (ir rfl)) _ _) (il (ir rfl)) _ _)
structure HD (w:World)(hb db mb nb:Nat)(fs:Fs)(blk:Int):Prop where
 hh:∃ sv cv,w.heap[hb]?=some (Oq db sv cv blk)
 hd:∃ l f,w.heap[db]?=some (ox mb nb l f)
 hm:ak w mb fs
 hn:ak w nb fs
 mn:mb≠nb
def nY (w:World)(d db g nb:Nat)(fs:Fs)(blk l f:Int)(e:Ending)(w':World):Prop:=∃ a:Int,e=.returned (.int .i64 a)/\(a=0\/(a=4\/a=5)/\¬(l<0/\f<0))/\(∃ b,HD w' d db g b fs blk/\(b=nb\/w.heap.size<=b))/\ae (fun c=>c=d\/c=db) w w'
theorem kW (a db nb i:Nat)(X P:Value)(blk bw a6 l f U W:Int)(fs:Fs)(w:World)(u:w.heap[a]?=some (Oq db X P blk))(n:w.heap[db]?=some (ox i nb bw a6))(v:ak w i fs)(F:ak w nb fs)(bo:i≠nb)
  (R:∀ V:World,V.heap[db]?=some (ox i nb l f)->ak V i fs->ak V nb fs->Calls prog 34 #[.iface 78 (.pointer (some ⟨db,0,none⟩)),.int .u64 blk] V fun e w'=>rP V db i nb e w') :
  Calls prog 20 #[pO a 0,.int .i64 l,.int .i64 f,.int .i64 U,.int .i64 W] w fun e w'=>nY w a db i nb fs blk l f e w':=by
 have x:a≠db:=by
  intro e;subst e;rw [u] at n;simp at n
 have N:nb≠db:=F.map.ne n;have M:i≠db:=v.map.ne n;have bl:i≠a:=v.map.ne u;have bu:nb≠a:=F.map.ne u;have G:∀ c∈fs,(c.2.1≠a/\c.2.1≠db):=fun c d=>⟨fun e=>by have:=v.str c d;rw [e,u] at this;simp at this,fun e=>by have:=v.str c d;rw [e,n] at this;simp at this⟩;obtain⟨V,t⟩:∃ V,V=((w.setCell ⟨db,3,none⟩ (.int .i64 l)).setCell ⟨db,4,none⟩ (.int .i64 f)).drew:=⟨_,rfl⟩;have E:V.heap[a]?=some (Oq db X P blk):=by rw [t,aE,ac x,ac x];exact u
 have bj:V.heap[db]?=some (ox i nb l f):=by rw [t,aE];simpa using ai (ai n 3 (.int .i64 l)) 4 (.int .i64 f)
 have B:∀ k,k≠db->V.heap[k]?=w.heap[k]?:=fun k A=>by rw [t,aE,ac A,ac A]
 have bk:ak V i fs:=v.kept (B i M) (fun c d=>B _ (G c d).2);have bs:ak V nb fs:=F.kept (B nb N) (fun c d=>B _ (G c d).2);have Q:ae (fun g=>g=a\/g=db) w V:=t▸(ae.set (S:=fun g=>g=a\/g=db) (b:=db) (ae.set (S:=fun g=>g=a\/g=db) (b:=db) (ae.refl _ w) (il (ir rfl)) _ _) (il (ir rfl)) _ _).drew;have ao:=ab u 0;have av:=ab n;have a0:=ag n;have b1:¬a=db:=x;have bz:¬db=a:=fun e=>x e.symm;have Z:=aa R;have r:=aa G;have p:=aa bk;have q:=aa bs;clear R G B v F;go_enter func20,ntmps20
 go_upto_region 1 with fail
 go_cut [] (fun bF=>bF=V)
 case first=>
  go_region_held3 (fun w'=>w'.cell? ⟨a,0,none⟩=some (.pointer (some ⟨db,0,none⟩))) (go_keep) (fail)
  all_goals (go_wp2_with fail;go_meet)
  all_goals exact t.symm
 case rest=>
  subst hcut;clear t ao av a0;have ad:=aa (Z.out wc.drew ((aE _ db).trans bj) (p.out.kept rfl (fun _ _=>rfl)) (q.out.kept rfl (fun _ _=>rfl)));have a1:=ab E 0;have a2:=ab E 3;go_upto_region 2 with fail
  go_region_held3 (fun w'=>w'.cell? ⟨a,0,none⟩=some (.pointer (some ⟨db,0,none⟩))/\w'.cell? ⟨a,3,none⟩=some (.int .u64 blk)) (first | go_keep | (exact⟨ab D 0,ab D 3⟩))
   (first | (go_at_call 34;refine ad.out.mono ?_;rintro e Y ⟨O,bv,a5,rfl,T,j⟩;have D:=(j.block a (am E) x).trans E))
  have bK:=Q.size;go_wp2_with fail
  refine (jh _).mono ?_
  rintro e C ⟨rfl,o⟩;have K:=(o.block a (am D)).trans D;have bg:=(o.block db (am T)).trans T;have a8:ae (fun g=>g=a\/g=db) w C:=(Q.drew.then j (fun _ _ H=>ir H)).trans (ae.of_below o);have bb:ak C i fs:=(p.out.kept (w':=Y) (j.block i p.out.map.lt M) (fun c d=>j.block _ (am (p.out.str c d)) (r.out c d).2)).kept (o.block i (ll p.out.map.lt j.size)) (fun c d=>o.block _ (ll (am (p.out.str c d)) j.size));have bd:ak C nb fs:=(q.out.kept (w':=Y) (j.block nb q.out.map.lt N) (fun c d=>j.block _ (am (q.out.str c d)) (r.out c d).2)).kept (o.block nb (ll q.out.map.lt j.size)) (fun c d=>o.block _ (ll (am (q.out.str c d)) j.size));have a3:=ab K;have a4:=ag K;clear a1 a2;go_wp2_with fail
  obtain⟨m,z⟩:∃ m,m=(C.setCell ⟨a,1,none⟩ (.pointer (some ⟨O,0,none⟩))).setCell ⟨a,2,none⟩ (.slice none 0 0):=⟨_,rfl⟩;rw [<-z];have L:m.heap[a]?=some (oO db O blk):=by rw [z];simpa using ai (ai K 1 (.pointer (some ⟨O,0,none⟩))) 2 (.slice none 0 0)
  have y:∀ k,k≠a->m.heap[k]?=C.heap[k]?:=fun k A=>by rw [z,ac A,ac A]
  have bi:=(y db bz).trans bg;have I:ak m i fs:=bb.kept (y i bl) (fun c d=>y _ (r.out c d).1);have J:ak m nb fs:=bd.kept (y nb bu) (fun c d=>y _ (r.out c d).1);have a9:ae (fun g=>g=a\/g=db) w m:=by
   rw [z];exact ae.set (S:=fun g=>g=a\/g=db) (b:=a) (ae.set (S:=fun g=>g=a\/g=db) (b:=a) a8 (il (il rfl)) _ _) (il (il rfl)) _ _
  clear z a3 a4 y;refine (gM a db (some i) (some nb) _ _ _ _ bv a5 U W m L bi).mono ?_
  rintro e b2 ⟨rfl,a7,s⟩;go_wp2
  go_ret
  exact⟨0,rfl,il rfl,⟨nb,⟨⟨_,_,(s.block a (am L) x).trans L⟩,⟨_,_,a7⟩,I.kept (s.block i I.map.lt M) (fun c d=>s.block _ (am (I.str c d)) (r.out c d).2),J.kept (s.block nb J.map.lt N) (fun c d=>s.block _ (am (J.str c d)) (r.out c d).2),bo⟩,il rfl⟩,a9.then s (fun b0 _ H=>ir H)⟩
theorem ng (a db nb j:Nat)(a4 ad:Value)(blk b8 bk l f Y H:Int)(fs:Fs)(w:World)(y:w.heap[a]?=some (Oq db a4 ad blk))(t:w.heap[db]?=some (ox j nb b8 bk))(z:ak w j fs)(N:ak w nb fs)(b3:j≠nb)
  (b5:fs≠[]) (p l' P:Int) (dn:Bool) (F:fQ l f p l' P dn) (cc:-9223372036854775808<=H) (ch:H<=9223372036854775807) (V:w.cell? ⟨0,0,none⟩=some (.iface 236 (.agg #[.pointer (some ⟨5,97,none⟩)]))) (ao:0≠a/\0≠db) :
  Calls prog 20 #[pO a 0,.int .i64 l,.int .i64 f,.int .i64 Y,.int .i64 H] w fun e w'=>nY w a db j nb fs blk l f e w':=by
 have A:a≠db:=by
  intro e;subst e;rw [y] at t;simp at t
 have X:nb≠db:=N.map.ne t;have M:j≠db:=z.map.ne t;have a2:j≠a:=z.map.ne y;have b6:nb≠a:=N.map.ne y;have O:∀ c∈fs,(c.2.1≠a/\c.2.1≠db):=fun c d=>⟨fun e=>by have:=z.str c d;rw [e,y] at this;simp at this,fun e=>by have:=z.str c d;rw [e,t] at this;simp at this⟩;obtain⟨o,x⟩:∃ o,o=((w.setCell ⟨db,3,none⟩ (.int .i64 l)).setCell ⟨db,4,none⟩ (.int .i64 f)).drew:=⟨_,rfl⟩;have L:o.heap[a]?=some (Oq db a4 ad blk):=by rw [x,aE,ac A,ac A];exact y
 have bF:o.heap[db]?=some (ox j nb l f):=by rw [x,aE];simpa using ai (ai t 3 (.int .i64 l)) 4 (.int .i64 f)
 have G:∀ q,q≠db->o.heap[q]?=w.heap[q]?:=fun q B=>by rw [x,aE,ac B,ac B]
 have b2:ak o j fs:=z.kept (G j M) (fun c d=>G _ (O c d).2);have b4:ak o nb fs:=N.kept (G nb X) (fun c d=>G _ (O c d).2);have T:ae (fun g=>g=a\/g=db) w o:=x▸(ae.set (S:=fun g=>g=a\/g=db) (b:=db) (ae.set (S:=fun g=>g=a\/g=db) (b:=db) (ae.refl _ w) (il (ir rfl)) _ _) (il (ir rfl)) _ _).drew;have a8:=ab y 0;have a9:=ab t;have bb:=ag t;have cq:¬a=db:=A;have b9:¬db=a:=fun e=>A e.symm;have b1:0<w.heap.size:=bT V;have bK:p≠0:=by rcases F with i | i <;> omega
 have a3:¬(l<0/\f<0):=by rcases F with i | i <;> omega
 have a1:p=4\/p=5:=by rcases F with i | i <;> omega
 have cl:(p==0)=false:=by simpa using bK
 have a7:=aa F;have a5:=aa V;have r:=aa O;have D:=aa b2;have v:=aa b4;clear F V O G z N;go_enter func20,ntmps20
 go_upto_region 1 with fail
 go_cut [] (fun ck=>ck=o)
 case first=>
  go_region_held3 (fun w'=>w'.cell? ⟨a,0,none⟩=some (.pointer (some ⟨db,0,none⟩))) (go_keep) (fail)
  all_goals (go_wp2_with fail;go_meet)
  all_goals exact x.symm
 case rest=>
  subst hcut;clear x a8 a9 bb;have a6:=aa (jgj db j nb fs l f p l' P dn blk wc.drew ⟨(aE _ db).trans bF,v.out.kept rfl (fun _ _=>rfl),b5,a7.out⟩);have bd:=ab L 0;have bg:=ab L 3;go_upto_region 2 with fail
  go_region_held3 (fun w'=>w'.cell? ⟨a,0,none⟩=some (.pointer (some ⟨db,0,none⟩))/\w'.cell? ⟨a,3,none⟩=some (.int .u64 blk)) (first | go_keep | (exact⟨ab J 0,ab J 3⟩))
   (first | (go_at_call 34;refine a6.out.mono ?_;rintro e Z ⟨rfl,av,k⟩;have J:=(k.block a (am L) A).trans L))
  have cp:=T.size;go_wp2_with fail
  have b0:Z.cell? ⟨0,0,none⟩=some (.iface 236 (.agg #[.pointer (some ⟨5,97,none⟩)])):=(World.cell?_of_block (w:=w) (((T.drew.then k (fun _ _ i=>ir i)).block 0 b1 (fun i=>i.elim ao.1 ao.2)))).trans a5.out;refine (jc3 p _ b0).mono ?_
  rintro e I ⟨rfl,u⟩;have W:=(u.block a (am J)).trans J;have bz:=(u.block db (am av)).trans av;have bu:ae (fun g=>g=a\/g=db) w I:=(T.drew.then k (fun _ _ i=>ir i)).trans (ae.of_below u);have bv:ak I j fs:=(D.out.kept (w':=Z) (k.block j D.out.map.lt M) (fun c d=>k.block _ (am (D.out.str c d)) (r.out c d).2)).kept (u.block j (ll D.out.map.lt k.size)) (fun c d=>u.block _ (ll (am (D.out.str c d)) k.size));have bw:ak I nb fs:=(v.out.kept (w':=Z) (k.block nb v.out.map.lt X) (fun c d=>k.block _ (am (v.out.str c d)) (r.out c d).2)).kept (u.block nb (ll v.out.map.lt k.size)) (fun c d=>u.block _ (ll (am (v.out.str c d)) k.size));have bi:=ab W;have bj:=ag W;clear bd bg;go_wp2_with fail
  obtain⟨n,E⟩:∃ n,n=((I.setCell ⟨a,1,none⟩ (.pointer none)).setCell ⟨a,2,none⟩ (.slice none 0 0)).setCell ⟨a,1,none⟩ (.pointer none):=⟨_,rfl⟩;rw [<-E];have K:n.heap[a]?=some (.cells #[.pointer (some ⟨db,0,none⟩),.pointer none,.slice none 0 0,.int .u64 blk] 82):=by rw [E];simpa using ai (ai (ai W 1 (.pointer none)) 2 (.slice none 0 0)) 1 (.pointer none)
  have C:∀ q,q≠a->n.heap[q]?=I.heap[q]?:=fun q B=>by rw [E,ac B,ac B,ac B]
  have a0:=(C db b9).trans bz;have s:ak n j fs:=bv.kept (C j a2) (fun c d=>C _ (r.out c d).1);have U:ak n nb fs:=bw.kept (C nb b6) (fun c d=>C _ (r.out c d).1);have R:ae (fun g=>g=a\/g=db) w n:=by
   rw [E];exact ae.set (S:=fun g=>g=a\/g=db) (b:=a) (ae.set (S:=fun g=>g=a\/g=db) (b:=a) (ae.set (S:=fun g=>g=a\/g=db) (b:=a) bu (il (il rfl)) _ _) (il (il rfl)) _ _) (il (il rfl)) _ _
  clear E bi bj C;cases dn with
  | false=>
   refine (gM a db (some j) (some nb) _ _ _ _ l' P Y H n K a0).mono ?_
   rintro e ci ⟨rfl,Q,m⟩;go_wp2
   go_ret
   exact⟨p,rfl,ir ⟨a1,a3⟩,⟨nb,⟨⟨_,_,(m.block a (am K) A).trans K⟩,⟨_,_,Q⟩,s.kept (m.block j s.map.lt M) (fun c d=>m.block _ (am (s.str c d)) (r.out c d).2),U.kept (m.block nb U.map.lt X) (fun c d=>m.block _ (am (U.str c d)) (r.out c d).2),b3⟩,il rfl⟩,R.then m (fun b7 _ i=>ir i)⟩
  | true=>
   refine (je6 a db j _ _ _ _ _ _ fs Y H n cc ch K a0 s).mono ?_
   rintro e ci ⟨rfl,cb,bl,Q,bo,bs,m⟩;go_wp2
   go_ret
   have cn:=s.map.lt;exact⟨p,rfl,ir ⟨a1,a3⟩,⟨cb,⟨⟨_,_,bl⟩,⟨_,_,Q⟩,s.kept (m.block j s.map.lt (fun i=>i.elim a2 M)) (fun c d=>m.block _ (am (s.str c d)) (fun i=>i.elim (r.out c d).1 (r.out c d).2)),bs,by omega⟩,ir (lq R.size bo)⟩,R.then m (fun b7 _ i=>i)⟩
def bx (w:World)(f:Nat)(blk:Int)(D:Dx)(L:Ld)(B:Nat)(G:NP):Prop:=∃ e nb i g b d a c,a<=3/\cL w f e nb i g blk D L b B d a c (fun _=>⟨[],false⟩)/\G=HG f e b d a c
theorem bx.quiet {w w':World}{a:Nat}{blk:Int}{D:Dx}{L:Ld}{B:Nat}{G:NP}(g:bx w a blk D L B G)(l:w.heap.size<=w'.heap.size)(i:∀ k,G k->w'.heap[k]?=w.heap[k]?):bx w' a blk D L B G:=by
 obtain⟨f,nb,o,n,b,e,m,d,j,c,rfl⟩:=g;exact⟨f,nb,o,n,b,e,m,d,j,c.quiet (fun _=>rfl) l i,rfl⟩
theorem bx.lt {w:World}{d:Nat}{blk:Int}{D:Dx}{L:Ld}{B:Nat}{G:NP}(c:bx w d blk D L B G)(b:Nat)(e:G b):b<w.heap.size:=by
 obtain⟨j,nb,n,m,f,i,l,g,k,a,rfl⟩:=c;exact a.lt b e
theorem bx.lo {w:World}{d:Nat}{blk:Int}{D:Dx}{L:Ld}{B:Nat}{G:NP}(c:bx w d blk D L B G)(b:Nat)(e:G b):B<=b:=by
 obtain⟨j,nb,n,m,f,i,l,g,k,a,rfl⟩:=c;exact a.lo b e
theorem bx.lok {w:World}{c:Nat}{blk:Int}{D:Dx}{L:Ld}{B:Nat}{G:NP}(b:bx w c blk D L B G):L.ok:=by
 obtain⟨g,nb,l,k,d,f,j,e,i,a,rfl⟩:=b;exact a.hs.lok
theorem HD.keep {w w':World}{c db g nb:Nat}{fs:Fs}{blk:Int}(n:HD w c db g nb fs blk)(r:w.heap.size<=w'.heap.size)(a:∀ b,b<w.heap.size->w'.heap[b]?=w.heap[b]?):HD w' c db g nb fs blk:=by
 obtain⟨⟨q,l,k⟩,⟨o,m,j⟩,d,e,p⟩:=n;exact⟨⟨q,l,(a c (am k)).trans k⟩,⟨o,m,(a db (am j)).trans j⟩,d.kept (a g d.map.lt) (fun i f=>a _ (am (d.str i f))),e.kept (a nb e.map.lt) (fun i f=>a _ (am (e.str i f))),p⟩
theorem jdD (a db f nb:Nat)(fs:Fs)(blk B q:Int)(w:World)(H:HD w a db f nb fs blk)(R:-9223372036854775808<=q)(T:q<=9223372036854775807) :
  Calls prog 25 #[pO a 0,.int .i64 B,.int .i64 q] w fun e w'=>e=.returned (.tuple #[])/\(∃ o,HD w' a db f o fs blk/\(o=nb\/w.heap.size<=o))/\ae (fun b=>b=a\/b=db) w w':=by
 obtain⟨⟨Y,L,i⟩,⟨X,V,n⟩,j,_,_⟩:=H;have A:a≠db:=by
  intro e;subst e;rw [i] at n;simp at n
 have P:f≠a:=j.map.ne i;have O:f≠db:=j.map.ne n;obtain⟨d,g⟩:∃ d,d=w.setCell ⟨a,1,none⟩ (.pointer none):=⟨_,rfl⟩;have p:∀ t,t≠a->d.heap[t]?=w.heap[t]?:=fun t Q=>by rw [g,ac Q]
 have u:d.heap[a]?=some (Om db L blk):=by rw [g];simpa using ai i 1 (.pointer none)
 have v:∀ c∈fs,c.2.1≠a/\c.2.1≠db:=fun c l=>⟨fun e=>by have:=j.str c l;rw [e,i] at this;simp at this,fun e=>by have:=j.str c l;rw [e,n] at this;simp at this⟩;have N:=(p db (fun e=>A e.symm)).trans n;have k:ak d f fs:=j.kept (p f P) (fun c l=>p _ (v c l).1);have z:ae (fun b=>b=a\/b=db) w d:=g▸ae.set (S:=fun b=>b=a\/b=db) (b:=a) (ae.refl _ w) (il (il rfl)) _ _;have y:d.heap.size=w.heap.size:=by rw [g];simp
 have C:=aa (j9 db f _ _ _ _ fs B q d R T N k);have J:=ab i;have K:=ag i;have U:=ab u;have E:=aa k;have F:=aa v;have D:=aa z;have I:=aa y;clear k v z p y j;go_enter func25,ntmps25
 go_upto_region 1 with fail
 rw [<-g];clear g J K;go_wp2_with fail
 refine C.out.mono ?_
 rintro e Z ⟨rfl,o,r,x,s,m⟩;have G:=aa (aN r (aN x (aN s m)));clear r x s m;go_wp2
 go_end0
 obtain⟨r,x,s,m⟩:=G.out;have k:=E.out;have W:=k.map.lt;have y:=I.out;exact⟨rfl,⟨o,⟨⟨_,_,(m.block a (am u) A).trans u⟩,⟨_,_,r⟩,k.keep m O (fun c l=>(F.out c l).2),s,by omega⟩,ir (by omega)⟩,D.out.then m (fun _ _ M=>ir M)⟩
theorem jdE (b db c nb:Nat)(blk l f g d:Int)(D:Dx)(a:de)(w:World)(J:a.ok)(I:a.hx D)(H:HD w b db c nb a.fsD blk)(B:-9223372036854775808<=d)(C:d<=9223372036854775807)(A:w.cell? ⟨0,0,none⟩=some (.iface 236 (.agg #[.pointer (some ⟨5,97,none⟩)])))(y:0≠b/\0≠db) :
  Calls prog 20 #[pO b 0,.int .i64 l,.int .i64 f,.int .i64 g,.int .i64 d] w fun e w'=>nY w b db c nb a.fsD blk l f e w':=by
 obtain⟨⟨s,i,n⟩,⟨q,j,m⟩,o,p,r⟩:=H;by_cases k:a.fsD=[]
 ·exact kW b db nb c s i blk q j l f g d a.fsD w n m o p r (fun t v _ x=>jck db c nb blk l f t v (k▸x))
 ·by_cases u:l=0
  ·exact ng b db nb c s i blk q j l f g d a.fsD w n m o p r k 5 0 f true (il ⟨u,rfl,rfl,rfl,rfl⟩) B C A y
  ·by_cases z:f=0
   ·exact ng b db nb c s i blk q j l f g d a.fsD w n m o p r k 4 (aK l) (-1) false (ir ⟨u,z,rfl,rfl,rfl,rfl⟩) B C A y
   ·obtain⟨K,L,E,F,G,_⟩:=kQ J I.1;exact kW b db nb c s i blk q j l f g d a.fsD w n m o p r (fun t v _ x=>jd1 db c nb blk a.fsD K l f t ⟨v,u,z,x,E,k,F⟩ G)
theorem vL (a db M:Nat)(blk:Int)(D:Dx)(L:Ld)(F:NP)(y:Value)(J t:Int)(w:World)(m:w.heap[a]?=some (OE db M y blk))(W:F db)(X:aU db blk D (bu 0) w 0 M L F)(V:¬F a)(bb:-9223372036854775808<=t)(bd:t<=9223372036854775807) :
  Calls prog 25 #[pO a 0,.int .i64 J,.int .i64 t] w fun e w'=>e=.returned (.tuple #[])/\∃ (c:de) (d nb:Nat),c.ok/\c.ld=L/\(c.blk=blk/\c.hx D)/\w'.heap[a]?=some (Om db y blk)/\w'.heap[db]?=some (oB d nb)/\ak w' d c.fsD/\ak w' nb c.fsD/\d≠nb/\F d/\w.heap.size<=nb/\(∀ p∈c.fsD,F p.2.1)/\ae (fun b=>b=a\/b=db) w w':=by
 obtain⟨c,n,o,q,H⟩:=X;obtain⟨bo,bk,bg,_,_,_,z,A,_⟩:=H.mem;obtain⟨d,nb,bl,bj,r,k,a4,a5,a6,K,a7,a8⟩:=z.mem;have I:a≠db:=fun e=>V (e▸W);have a0:d≠a:=k.map.ne m;have av:d≠db:=k.map.ne r;obtain⟨f,i⟩:∃ f,f=w.setCell ⟨a,1,none⟩ (.pointer none):=⟨_,rfl⟩;have s:∀ x,x≠a->f.heap[x]?=w.heap[x]?:=fun x a1=>by rw [i,ac a1]
 have B:f.heap[a]?=some (Om db y blk):=by rw [i];simpa using ai m 1 (.pointer none)
 have C:∀ p∈c.fsD,p.2.1≠a/\p.2.1≠db:=fun p g=>⟨fun e=>by have:=k.str p g;rw [e,m] at this;simp at this,fun e=>by have:=k.str p g;rw [e,r] at this;simp at this⟩;have ao:=(s db (fun e=>I e.symm)).trans r;have j:ak f d c.fsD:=k.kept (s d a0) (fun p g=>s _ (C p g).1);have G:ae (fun b=>b=a\/b=db) w f:=i▸ae.set (S:=fun b=>b=a\/b=db) (b:=a) (ae.refl _ w) (il (il rfl)) _ _;have N:=aa (j9 db d _ _ _ _ c.fsD J t f bb bd ao j);have Y:=ab m;have Z:=ag m;have bi:=ab B;have R:=aa (aN n (aN o (aN q (aN (A d K) (fun p g=>A _ (z.sD p g))))));have P:=aa j;have Q:=aa C;have O:=aa G;clear H n o q z A r k a4 a5 a6 K a7 a8 j C G s;go_enter func25,ntmps25
 go_upto_region 1 with fail
 rw [<-i];have U:=aa i;clear i Y Z;go_wp2_with fail
 refine N.out.mono ?_
 rintro e bv ⟨rfl,a9,u,E,v,l⟩;have T:=aa (aN u (aN E (aN v l)));clear u E v l;go_wp2
 go_end0
 obtain⟨u,E,v,l⟩:=T.out;obtain⟨n,o,q,a2,a3⟩:=R.out;have bs:f.heap.size=w.heap.size:=by rw [U.out];simp
 have j:=P.out;refine⟨rfl,c,d,a9,n,o,q,(l.block a (am B) I).trans B,u,j.keep l av (fun p g=>(Q.out p g).2),v,?_,a2,by omega,a3,O.out.then l (fun _ _ ad=>ir ad)⟩
 have:=j.map.lt;omega
def vf (w:World)(d:Nat)(blk:Int)(D:Dx)(L:Ld)(B:Nat)(G:NP):Prop:=∃ c e b f,w.heap[d]?=some (OE c e f blk)/\b c/\aU c blk D (bu 0) w 0 e L b/\¬b d/\(G d/\G c/\∀ a,b a->G a)/\∀ a,G a->B<=a/\a<w.heap.size
theorem cL.up {w:World}{b db nb i:Nat}{j:Option Nat}{blk:Int}{D:Dx}{L:Ld}{F:NP}{B:Nat}{d:Value}{g:Nat}{f:Nat->Nat}{c:Nat->Cn}(H:cL w b db nb i j blk D L F B d g f c):vf w b blk D L B (HG b db F d g f):=
 ⟨db,i,F,d,H.hh,H.hd,H.hs,H.hF b (il rfl),⟨il rfl,ir (il rfl),fun _ a=>ir (ir (il a))⟩,fun e a=>⟨H.lo e a,H.lt e a⟩⟩
theorem bx.up {w:World}{a:Nat}{blk:Int}{D:Dx}{L:Ld}{B:Nat}{G:NP}(c:bx w a blk D L B G):vf w a blk D L B G:=by
 obtain⟨g,nb,l,k,d,f,j,e,i,b,rfl⟩:=c;exact b.up
theorem o0 {w l f:World}{d db:Nat}{blk:Int}{m:Dx}{F G:NP}{B:Nat}(c:G d/\G db/\∀ b,F b->G b)(D:∀ b,G b->B<=b)(J:B<=w.heap.size){fs:Fs}{t nb k:Nat}{n:Ld}{e:NP}(u:F t)(g:F nb\/w.heap.size<=nb)(v:∀ p∈fs,F p.2.1)(s:ae (fun b=>b=d\/b=db) w l)
  (x:f.heap[d]?=some (oO db k blk)) (o:aU db blk m (bu 0) f 0 k n e) (y:∀ b,e b->b=db\/b=t\/b=nb\/(∃ p∈fs,b=p.2.1)\/l.heap.size<=b) (z:¬e d) (H:ae (fun b=>b=d\/b=db) l f) :
  cL f d db 0 k none blk m n e B (.slice none 0 0) 0 (fun _=>0) (fun _=>⟨[],false⟩)/\ae G w f/\∀ b,HG d db e (.slice none 0 0) 0 (fun _=>0) b->G b\/w.heap.size<=b:=by
 have L:=s.size;have q:∀ b,HG d db e (.slice none 0 0) 0 (fun _=>0) b->G b\/w.heap.size<=b:=fun b j=>by
  rcases j with a | a | a | a | ⟨r,i,_⟩
  ·exact il (a▸c.1)
  ·exact il (a▸c.2.1)
  ·rcases y b a with a | a | a | ⟨p,E,a⟩ | a
   ·exact il (a▸c.2.1)
   ·exact il (c.2.2 _ (a▸u))
   ·rcases g with g | g
    ·exact il (c.2.2 _ (a▸g))
    ·exact ir (by omega)
   ·exact il (c.2.2 _ (a▸v p E))
   ·exact ir (by omega)
  ·simp [Value.ownBlock] at a
  ·omega
 refine⟨⟨x,o.dskF,o,fun r i=>absurd i (Nat.not_lt_zero _),fun r K i=>absurd i (Nat.not_lt_zero _),World.ownsRow_nil _ _ _ _,fun I C A=>?_,fun b j=>?_,fun _ _=>rfl⟩,(s.trans H).mono (fun b a _=>a.elim (fun a=>a▸c.1) (fun a=>a▸c.2.1)),q⟩
 ·rcases C with a | a | a
  ·exact z (a▸A)
  ·exact a
  ·simp [Value.ownBlock] at a
 ·rcases q b j with a | a
  ·exact D b a
  ·omega
def bQ (w0 w:World)(e:Nat)(blk:Int)(D:Dx)(L:Ld)(B:Nat)(G:NP):Prop:=∃ (d:Nat) (c:NP),(G e/\G d/\∀ a,c a->G a)/\(∀ a,G a->B<=a/\a<w0.heap.size)/\∃ (b:de) (f nb:Nat),b.ok/\b.ld=L/\(b.blk=blk/\b.hx D)/\HD w e d f nb b.fsD blk/\c f/\(c nb\/w0.heap.size<=nb)/\(∀ g∈b.fsD,c g.2.1)/\ae (fun a=>a=e\/a=d) w0 w
theorem iO {w0 w:World}{a:Nat}{blk:Int}{D:Dx}{L:Ld}{B:Nat}{G:NP}(g:bQ w0 w a blk D L B G){w':World}(b:B7 w w'):bQ w0 w' a blk D L B G:=by
 obtain⟨f,c,q,r,e,s,nb,i,j,k,l,m,n,o,p⟩:=g;exact⟨f,c,q,r,e,s,nb,i,j,k,l.keep b.size (fun d a=>b.block d a),m,n,o,p.trans (ae.of_below b)⟩
theorem jbI {w0 w:World}{c:Nat}{blk:Int}{D:Dx}{L:Ld}{B:Nat}{G:NP}(a:bQ w0 w c blk D L B G)(m d:Int)(E:-9223372036854775808<=d)(F:d<=9223372036854775807) :
  Calls prog 25 #[pO c 0,.int .i64 m,.int .i64 d] w fun e w'=>e=.returned (.tuple #[])/\bQ w0 w' c blk D L B G/\ae G w w':=by
 obtain⟨g,o,i,z,j,n,nb,q,r,s,t,u,v,x,l⟩:=a;have y:∀ {w':World},ae (fun f=>f=c\/f=g) w w'->ae G w w':=fun A=>A.mono (fun f a _=>a.elim (fun a=>a▸i.1) (fun a=>a▸i.2.1));refine (jdD c g n nb j.fsD blk m d w t E F).mono ?_
 rintro e w' ⟨rfl,⟨C,p,b⟩,k⟩;refine⟨rfl,⟨g,o,i,z,j,n,C,q,r,s,p,u,?_,x,l.then k (fun _ _ a=>a)⟩,y k⟩
 rcases b with b | b
 ·rw [b];exact v
 ·exact ir (lq l.size b)
theorem jbJ {w0 w:World}{c:Nat}{blk:Int}{D:Dx}{L:Ld}{B:Nat}{G:NP}(a:bQ w0 w c blk D L B G)(l f s j:Int)(K:-9223372036854775808<=j)(M:j<=9223372036854775807)(F:w.cell? ⟨0,0,none⟩=some (.iface 236 (.agg #[.pointer (some ⟨5,97,none⟩)])))(N:0<B) :
  Calls prog 20 #[pO c 0,.int .i64 l,.int .i64 f,.int .i64 s,.int .i64 j] w fun e w'=>∃ b:Int,e=.returned (.int .i64 b)/\(b=0\/(b=4\/b=5)/\¬(l<0/\f<0))/\bQ w0 w' c blk D L B G/\ae G w w':=by
 obtain⟨i,u,g,m,n,t,nb,p,x,q,y,z,A,C,r⟩:=a;have H:∀ {w':World},ae (fun k=>k=c\/k=i) w w'->ae G w w':=fun I=>I.mono (fun k a _=>a.elim (fun a=>a▸g.1) (fun a=>a▸g.2.1));have O:=(m c g.1).1;have P:=(m i g.2.1).1;refine (jdE c i t nb blk l f s j D n w p q.2 y K M F ⟨by omega,by omega⟩).mono ?_
 rintro e w' ⟨b,rfl,E,⟨J,v,d⟩,o⟩;refine⟨b,rfl,E,⟨i,u,g,m,n,t,J,p,x,q,v,z,?_,C,r.then o (fun _ _ a=>a)⟩,H o⟩
 rcases d with d | d
 ·rw [d];exact A
 ·exact ir (lq r.size d)
def rO (blk:Int)(D:Dx)(L a:Ld):Prop:=Rec blk L a/\D.t<=a.time/\(D.z=true->∀ b c,aZ b L.ks=some c->aZ b a.ks=some c)
def iH (w:World)(b:Nat):Prop:=∀ a d c,w.heap[b]?≠some (.cells a d c)
theorem jbK {w0 w:World}{g:Nat}{blk:Int}{D:Dx}{L:Ld}{B:Nat}{G:NP}(a:bQ w0 w g blk D L B G)(C:B<=w0.heap.size) :
  Calls prog 20 #[pO g 0,.int .i64 (-1),.int .i64 (-1),.int .i64 0,.int .i64 0] w fun e w'=>∃ d k,e=.returned (.int .i64 0)/\bx w' g blk ⟨d.time,true⟩ d B k/\rO blk D L d/\ae G w w'/\∀ b,k b->G b\/w.heap.size<=b\/iH w b:=by
 obtain⟨l,R,c,M,f,O,nb,v,x,m,y,n,z,o,A⟩:=a;obtain⟨⟨av,T,J⟩,⟨ao,U,I⟩,N,s,P⟩:=y;refine (gw g l nb O _ _ blk _ _ D f w v m.2 m.1 J I N f.fsD (fun _=>rfl) s P).mono ?_
 rintro e w' ⟨Q,d,t,rfl,Z,K,F,r,p,E,q⟩;obtain⟨u,Y,W⟩:=o0 c (fun b a=>(M b a).1) C n z (fs:=f.fsD ++ f.fsD) (fun j i=>o j ((List.mem_append.1 i).elim id id)) A K F p E q;rw [x] at r;refine⟨d,_,rfl,⟨l,0,Q,none,t,_,0,_,by omega,u,rfl⟩,r,q.mono (fun b a _=>a.elim (fun a=>a▸c.1) (fun a=>a▸c.2.1)),fun b H=>?_⟩
 rcases H with a | a | a | a | ⟨ad,X,_⟩
 ·exact il (a▸c.1)
 ·exact il (a▸c.2.1)
 ·rcases p b a with a | a | a | ⟨j,i,a⟩ | a
  ·exact il (a▸c.2.1)
  ·exact il (c.2.2 _ (a▸n))
  ·refine ir (ir (fun S a0 V e=>?_))
   rw [a] at e;exact s.map.ne e rfl
  ·exact il (c.2.2 _ (a▸o j ((List.mem_append.1 i).elim id id)))
  ·exact ir (il a)
 ·simp [Value.ownBlock] at a
 ·omega
theorem jap (g:Nat)(blk:Int)(D:Dx)(L:Ld)(B:Nat)(G:NP)(w:World)(i:vf w g blk D L B G)(s:B<=w.heap.size) :
  Calls prog 20 #[pO g 0,.int .i64 (-1),.int .i64 (-1),.int .i64 0,.int .i64 0] w fun e w'=>∃ a l,e=.returned (.int .i64 0)/\bx w' g blk ⟨a.time,true⟩ a B l/\rO blk D L a/\ae G w w'/\∀ b,l b->G b\/w.heap.size<=b:=by
 obtain⟨m,a0,T,V,R,a1,S,a2,v,F⟩:=i;obtain⟨d,H,I,k,y⟩:=S;obtain⟨av,X,U,_,_,_,j,f,_⟩:=y.mem;obtain⟨o,nb,Z,W,J,K,M,ad,ao,N,O,P⟩:=j.mem;refine (gw g m nb o _ _ blk _ _ D d w H k.2 k.1 R J K d.fsN k.2.2.2 M P).mono ?_
 rintro e w' ⟨Q,a,q,rfl,Y,C,z,n,t,u,x⟩;obtain⟨r,E,A⟩:=o0 v (fun b i=>(F b i).1) s (f o N) (il (f nb O)) (fs:=d.fsD ++ d.fsN) (fun p c=>(List.mem_append.1 c).elim (fun c=>f _ (j.sD p c)) (fun c=>f _ (j.sN p c))) (ae.refl _ w) C z t u x;rw [I] at n;exact⟨a,_,rfl,⟨m,0,Q,none,q,_,0,_,by omega,r,rfl⟩,n,E,A⟩
theorem jdF (a:Nat)(blk:Int)(D:Dx)(L:Ld)(B:Nat)(G:NP)(f b:Int)(w:World)(H:vf w a blk D L B G)(z:-9223372036854775808<=b)(A:b<=9223372036854775807) :
  Calls prog 25 #[pO a 0,.int .i64 f,.int .i64 b] w fun e w'=>e=.returned (.tuple #[])/\bQ w w' a blk D L B G:=by
 obtain⟨d,C,c,i,E,F,I,J,v,x⟩:=H;refine (vL a d C blk D L c i f b w E F I J z A).mono ?_
 rintro e w' ⟨rfl,g,y,nb,j,n,o,p,q,r,s,t,u,k,l,m⟩;exact⟨rfl,d,c,v,x,g,y,nb,j,n,o,⟨⟨_,_,p⟩,⟨_,_,q⟩,r,s,t⟩,u,ir k,l,m⟩
theorem fS (k:Ky):∀ (ks:List (Ky×Qt)),aZ k ks=ar k ks
 | []=>rfl
 | (k',q) :: r=>by
  show (if k'=k then some q else aZ k r)=(if k'=k then some q else ar k r);rw [fS k r]
theorem jaB {j k:Type}(f:j->k){a b:List k}(m:a.Perm b):∀ l:List j,l.map f=a->∃ l':List j,l'.Perm l/\l'.map f=b:=by
 induction m with
 | nil=>intro l c;exact⟨l,List.Perm.refl _,c⟩
 | cons w _ p=>
  intro l c;cases l with
  | nil=>simp at c
  | cons i d=>
   simp only [List.map_cons,List.cons.injEq] at c;obtain⟨l',e,g⟩:=p d c.2;exact⟨i :: l',e.cons i,by rw [List.map_cons,g,c.1]⟩
 | swap w i x=>
  intro l c;match l,c with
  | u :: v :: d,c=>
   simp only [List.map_cons,List.cons.injEq] at c;exact⟨v :: u :: d,List.Perm.swap u v d,by simp only [List.map_cons];rw [c.1,c.2.1,c.2.2]⟩
 | trans _ _ q r=>
  intro l c;obtain⟨s,e,g⟩:=q l c;obtain⟨t,n,o⟩:=r s g;exact⟨t,n.trans e,o⟩
theorem jt {a V:Type} [DecidableEq a] {l l':List (a×V)}(b:l'.Perm l)(e:(l.map Prod.fst).Nodup)(k:a):ar k l'=ar k l:=by
 have f:(l'.map Prod.fst).Nodup:=(b.map Prod.fst).nodup_iff.2 e;cases c:ar k l with
 | none=>
  refine dy (fun d=>?_)
  exact fc c ((b.map Prod.fst).mem_iff.1 d)
 | some g=>exact aV f (b.mem_iff.2 (aR c))
theorem fE.perm {D l blk:Int}{b c:Es}{turn:Int}{fs:Fs}(d:fE D l blk b turn fs)(a:c.Perm b)(r:(b.map Prod.fst).Nodup):fE D l blk c turn fs:=by
 refine⟨fun j i=>d.res j (a.mem_iff.1 i),?_,d.old⟩
 rcases d.img with ⟨e,f,g,o⟩ | ⟨m,k,n,e,f,g,p,q⟩
 ·rw [f] at a;exact il ⟨e,a.eq_nil,g,o⟩
 ·refine ir ⟨m,k,n,e.trans (a.map Prod.fst).symm,f,g,?_,fun j i=>q j (a.mem_iff.1 i)⟩
  rw [fI turn m c b k (fun s _=>by unfold aL;rw [jt a r])];exact p
theorem aU.perm {db:Nat}{blk:Int}{D:Dx}{k:Bu}{w:World}{o:Int}{n:Nat}{L:Ld}{F:NP}(s:aU db blk D k w o n L F){ks:List (Ky×Qt)}(e:L.ks.Perm ks):aU db blk D k w o n ⟨L.time,L.adm,ks⟩ F:=by
 obtain⟨d,a,rfl,f,t⟩:=s;obtain⟨j,c,E⟩:=jaB (fun b:Ky×(Qt×Qt)=>(b.1,b.2.1)) e d.es rfl;have l:=c.length_eq;refine⟨⟨d.time,d.adm,d.blk,j,d.turn,d.fsD,d.fsN⟩,⟨a.time,a.adm,a.blk,a.turn,(c.map Prod.fst).nodup_iff.2 a.nd,fun b e=>a.key b (c.mem_iff.1 e),fun b e=>a.qt b (c.mem_iff.1 e),fun b e=>a.fit b (c.mem_iff.1 e),by rw [l];exact a.len,a.dur.perm c a.nd⟩,?_,⟨f.1,fE.perm f.2.1 c a.nd,fun u b e=>f.2.2.1 u b (c.mem_iff.1 e),f.2.2.2⟩,?_⟩
 ·show (⟨d.time,d.adm,stands j⟩:Ld)=_;unfold stands;rw [E];rfl
 ·obtain⟨⟨A,r,q,v,⟨B,p,C,g⟩,x⟩,y,z⟩:=t;refine⟨⟨A,r,q,v,⟨B,p,C,⟨fun k i=>?_,fun k G H i m=>?_,?_,g.shut⟩⟩,x⟩,y,z⟩
  ·rw [g.has k i,jt c a.nd]
  ·rw [jt c a.nd] at m;exact g.at_ k G H i m
  ·rw [g.size,l]
theorem bx.perm {w:World}{b:Nat}{blk:Int}{D:Dx}{L:Ld}{B:Nat}{G:NP}(g:bx w b blk D L B G){ks:List (Ky×Qt)}(k:L.ks.Perm ks):bx w b blk D ⟨L.time,L.adm,ks⟩ B G:=by
 obtain⟨f,nb,n,m,c,e,l,d,j,a,i⟩:=g;exact⟨f,nb,n,m,c,e,l,d,j,⟨a.hh,a.hd,a.hs.perm k,a.hc,a.hi,a.ho,a.hF,a.lo,a.fr⟩,i⟩
def Pw (blk:Int)(z:Bool)(T:Int):List (Ky×Qt)->List (Ky×Qt)->Prop
 | [],[]=>True
 | (k,q) :: r,(k',q') :: r'=>k'=k/\gL blk q q'/\(q'.kd=2->q'.wn<=T / q'.y)/\(z=true->q'=q)/\Pw blk z T r r'
 | _,_=>False
theorem Pw.of {blk:Int}{z:Bool}{T:Int}{g:Ky->Qt}:∀ (ks:List (Ky×Qt)),(∀ p∈ks,gL blk p.2 (g p.1)/\((g p.1).kd=2->(g p.1).wn<=T / (g p.1).y)/\(z=true->g p.1=p.2))->Pw blk z T ks (ks.map fun p=>(p.1,g p.1))
 | [],_=>trivial
 | (k,q) :: r,h=>by
  have a:=h (k,q) (by simp);exact⟨rfl,a.1,a.2.1,a.2.2,Pw.of r (fun p b=>h p (List.mem_cons_of_mem _ b))⟩
structure Rc (blk:Int)(D:Dx)(L L':Ld):Prop where
 time:L'.time<=L.time
 dt:D.t<=L'.time
 adm:L'.adm=0
 pw:Pw blk D.z L'.time L.ks L'.ks
theorem rO.rc {blk:Int}{D:Dx}{L b:Ld}(f:rO blk D L b)(n:L.ok)(o:b.ok):∃ ks,b.ks.Perm ks/\Rc blk D L ⟨b.time,b.adm,ks⟩:=by
 obtain⟨i,s,t⟩:=f;have j:∀ a∈L.ks,aZ a.1 L.ks=some a.2:=fun a e=>by rw [fS];exact aV n.nd e
 refine⟨L.ks.map (fun a=>(a.1,(aZ a.1 b.ks).getD ⟨0,0,0,0,0⟩)),?_,i.time,s,i.adm,Pw.of (g:=fun v=>(aZ v b.ks).getD ⟨0,0,0,0,0⟩) L.ks (fun a e=>?_)⟩
 ·have w:b.ks.Nodup:=List.Pairwise.of_map Prod.fst (fun d p f c=>f (by rw [c])) o.nd;have x:(L.ks.map (fun a=>(a.1,(aZ a.1 b.ks).getD ⟨0,0,0,0,0⟩))).Nodup:=by
   have:((L.ks.map (fun a=>(a.1,(aZ a.1 b.ks).getD (⟨0,0,0,0,0⟩:Qt)))).map Prod.fst).Nodup:=by
    rw [List.map_map];exact n.nd
   exact List.Pairwise.of_map Prod.fst (fun d p f c=>f (by rw [c])) this
  refine (List.perm_ext_iff_of_nodup w x).2 (fun d=>⟨fun m=>?_,fun m=>?_⟩)
  ·have k:aZ d.1 b.ks=some d.2:=by rw [fS];exact aV o.nd m
   cases l:aZ d.1 L.ks with
   | none=>rw [i.none_ _ l] at k;cases k
   | some y=>
    rw [fS] at l;refine List.mem_map.2 ⟨(d.1,y),aR l,?_⟩
    show (d.1,(aZ d.1 b.ks).getD _)=d;rw [k];rfl
  ·obtain⟨a,e,rfl⟩:=List.mem_map.1 m;obtain⟨z,c,_⟩:=i.some_ a.1 a.2 (j a e);rw [c];rw [fS] at c;exact aR c
 ·obtain⟨z,c,q,r⟩:=i.some_ a.1 a.2 (j a e);rw [c];refine⟨q,r,fun u=>?_⟩
  have:=t u a.1 a.2 (j a e);rw [c] at this;exact Option.some.inj this
theorem fX.blk {w:World}{f:Value}{pd:Pd}(e:fX w f pd){y b:Nat}(a:f.ownBlock=some y){c:Array Value}{t:Nat}(g:w.heap[b]?=some (.cells c t))(i:t≠146):y≠b:=by
 match pd,e with
 | none,e=>
  have j:f=.slice none 0 0:=e;rw [j] at a;simp [Value.ownBlock] at a
 | some (_,some _),⟨base,ho⟩=>exact ax ho a g (fun d=>i d)
 | some (_,none),⟨base,ho⟩=>exact ax ho a g (fun d=>i d)
theorem fX.lt {w:World}{c:Value}{pd:Pd}(b:fX w c pd){y:Nat}(a:c.ownBlock=some y):y<w.heap.size:=by
 match pd,b with
 | none,b=>
  have d:c=.slice none 0 0:=b;rw [d] at a;simp [Value.ownBlock] at a
 | some (_,some _),⟨base,ho⟩=>exact (aj ho a).2
 | some (_,none),⟨base,ho⟩=>exact (aj ho a).2
theorem syP (db a nb:Nat)(i:Value)(fs:Fs)(pd:Pd)(l f:Int)(w:World)(A:w.heap[db]?=some (OR a nb i l f))(u:l≠0)(t:f≠0)(k:ak w a fs)(g:fX w i pd)(F:a≠nb):SyG w db a nb (fun c=>c=a) (fun b=>∃ x,w.heap.size<=x/\ak b a (vT pd x fs)) l f:=by
 refine⟨fun b n=>?_,fun p E=>by subst E;exact⟨k.map.lt,k.nocell⟩,fun d=>F d.symm,dirQ _ _ _⟩
 have o:=(n.block db (am A)).trans A;have m:ak b a fs:=k.kept (n.block a k.map.lt) (fun y g=>n.block _ (am (k.str y g)));have v:fX b i pd:=g.kept (fun H G=>n.block H (g.lt G));have B:=n.size;match pd,v with
 | none,v=>
  have C:i=.slice none 0 0:=v;subst C;refine (rI db _ _ l f b o u t).mono ?_
  rintro d z ⟨rfl,j,e⟩;exact⟨rfl,j,⟨w.heap.size,lz,m.keep e (m.map.ne o) (fun y g d=>by have:=m.str y g;rw [d,o] at this;simp at this)⟩,e.mono (fun _ D _=>il D)⟩
 | some (p,some s),⟨base,ho⟩=>
  refine (rJ db a base _ i fs p s l f b o m u t ho).mono ?_
  rintro d z ⟨rfl,x,j,e,q,r⟩;exact⟨rfl,j,⟨x,lq B e,q⟩,r⟩
 | some (p,none),⟨base,ho⟩=>
  refine (rH db a base _ i fs p _ l f b o m u t ho).mono ?_
  rintro d z ⟨rfl,x,j,e,q,r⟩;exact⟨rfl,j,⟨x,lq B e,q⟩,r⟩
theorem jd3 {pd:Pd}{x:Nat}{fs:Fs}{p:Bool×(Nat×ByteArray)}(a:p∈vT pd x fs):(∃ d∈fs,p.2.1=d.2.1)\/p.2.1=x:=by
 match pd,a with
 | none,a=>exact il ⟨p,a,rfl⟩
 | some (b,some s),a=>
  rcases cS (a:p∈aJ b (x,s) fs) with c | rfl
  ·exact il ⟨p,c,rfl⟩
  ·exact ir rfl
 | some (b,none),a=>exact il ⟨p,cg.subset (a:p∈br b fs),rfl⟩
theorem qF (a db nb d:Nat)(a6 N t:Value)(blk l f:Int)(D:Dx)(r:de)(fsD:Fs)(pd:Pd)(w:World)(b0:∀ x,({ r with fsD:=vT pd x fsD }:de).ok)(bl:∀ x,({ r with fsD:=vT pd x fsD }:de).has D.t)(bo:D.z=true->∀ p∈r.es,p.2.2=p.2.1)(bK:r.blk=blk)(o:w.heap[a]?=some (Oq db a6 N blk))(i:w.heap[db]?=some (OR d nb t l f))(y:ak w d fsD)(g:fX w t pd)(fsN:Fs)(ch:∀ x,Sm (vT pd x fsD) fsN)(b9:fsN≠[])(A:ak w nb fsN)(ad:d≠nb) :
  Calls prog 20 #[pO a 0,.int .i64 (-1),.int .i64 (-1),.int .i64 0,.int .i64 0] w fun e w'=>∃ n m F,e=.returned (.int .i64 0)/\w.heap.size<=n/\w'.heap[a]?=some (oO db n blk)/\aU db blk ⟨m.time,true⟩ (bu 0) w' 0 n m F/\(Rec blk r.ld m/\D.t<=m.time/\(D.z=true->∀ k z,aZ k r.ld.ks=some z->aZ k m.ks=some z))/\(∀ b,F b->b=db\/b=d\/b=nb\/(∃ p∈fsD ++ fsN,b=p.2.1)\/w.heap.size<=b)/\¬F a/\ae (fun b=>b=a\/b=db\/b=d) w w':=by
 have cv:=am o;have ct:=am i;have v:a≠db:=by
  intro e;subst e;rw [o] at i;simp at i
 have b7:nb≠db:=A.map.ne i;have Y:d≠db:=y.map.ne i;have Z:d≠a:=y.map.ne o;have cb:nb≠a:=A.map.ne o;have M:∀ p∈fsD ++ fsN,p.2.1≠a/\p.2.1≠db:=fun p g=>by
  rcases List.mem_append.1 g with g | g
  ·exact⟨fun e=>by have:=y.str p g;rw [e,o] at this;simp at this,fun e=>by have:=y.str p g;rw [e,i] at this;simp at this⟩
  ·exact⟨fun e=>by have:=A.str p g;rw [e,o] at this;simp at this,fun e=>by have:=A.str p g;rw [e,i] at this;simp at this⟩
 obtain⟨j,u⟩:∃ j,j=((w.setCell ⟨db,3,none⟩ (.int .i64 (-1))).setCell ⟨db,4,none⟩ (.int .i64 (-1))).drew:=⟨_,rfl⟩;have H:j.heap[a]?=some (Oq db a6 N blk):=by rw [u,aE,ac v,ac v];exact o
 have b2:j.heap[db]?=some (Ul d nb t):=by rw [u,aE];simpa using ai (ai i 3 (.int .i64 (-1))) 4 (.int .i64 (-1))
 have B:∀ x,x≠db->j.heap[x]?=w.heap[x]?:=fun x a1=>by rw [u,aE,ac a1,ac a1]
 have b4:ak j d fsD:=y.kept (B d Y) (fun p g=>B _ (M p (List.mem_append_left _ g)).2);have b6:ak j nb fsN:=A.kept (B nb b7) (fun p g=>B _ (M p (List.mem_append_right _ g)).2);have av:fX j t pd:=g.kept (fun cq ci=>B cq (g.blk ci i (by decide)));have Q:ae (fun b=>b=a\/b=db\/b=d) w j:=u▸(ae.set (S:=fun b=>b=a\/b=db\/b=d) (b:=db) (ae.set (S:=fun b=>b=a\/b=db\/b=d) (b:=db) (ae.refl _ w) (il (ir (il rfl))) _ _) (il (ir (il rfl))) _ _).drew;have a8:=ab o 0;have a9:=ab i;have bb:=ag i;have cl:¬a=db:=v;have a4:¬db=a:=fun e=>v e.symm;go_enter func20,ntmps20
 go_upto_region 1 with fail
 go_cut [] (fun cp=>cp=j)
 case first=>
  go_region_held3 (fun w'=>w'.cell? ⟨a,0,none⟩=some (.pointer (some ⟨db,0,none⟩))) (go_keep) (fail)
  all_goals (go_wp2_with fail;go_meet)
  all_goals exact u.symm
 case rest=>
  subst hcut;clear u a8 a9 bb;have W:=(aE _ db).trans b2;have b3:ak wc.drew d fsD:=b4.kept rfl (fun _ _=>rfl);have b5:ak wc.drew nb fsN:=b6.kept rfl (fun _ _=>rfl);have ao:fX wc.drew t pd:=av.kept (fun _ _=>rfl);have a7:=aa (jd0 db d nb t blk D r fsD (fun x=>vT pd x fsD) wc.drew b0 bl bo bK fsN ch b9 W (syP db d nb t fsD pd (-1) (-1) _ W (by omega) (by omega) b3 ao ad) Y (fun x p g=>jd3 g) b5 ad);clear ao av g;have bd:=ab H 0;have bg:=ab H 3;go_upto_region 2 with fail
  go_region_held3 (fun w'=>w'.cell? ⟨a,0,none⟩=some (.pointer (some ⟨db,0,none⟩))/\w'.cell? ⟨a,3,none⟩=some (.int .u64 blk)) (first | go_keep | (exact⟨ab G 0,ab G 3⟩))
   (first | (go_at_call 34;refine a7.out.mono ?_;rintro e cw ⟨n,m,F,rfl,cc,R,bz,bv,J⟩;have G:=(J.block a (am H) (fun c=>c.elim v (fun e=>Z e.symm))).trans H))
  have cr:=J.size;have a0:=Q.size;obtain⟨a3,a5,a2,O,V⟩:=R.dsk;go_wp2_with fail
  refine (jh _).mono ?_
  rintro e cn ⟨rfl,E⟩;have K:=(E.block a (am G)).trans G;have b1:=(E.block db (am V)).trans V;have bF:=R.below E lz;have bi:=ab K;have bj:=ag K;clear bd bg;go_wp2_with fail
  obtain⟨q,s⟩:∃ q,q=(cn.setCell ⟨a,1,none⟩ (.pointer (some ⟨n,0,none⟩))).setCell ⟨a,2,none⟩ (.slice none 0 0):=⟨_,rfl⟩;rw [<-s];have L:q.heap[a]?=some (oO db n blk):=by rw [s];simpa using ai (ai K 1 (.pointer (some ⟨n,0,none⟩))) 2 (.slice none 0 0)
  have X:q.heap[db]?=some (ox a3 a5 a2 O):=by rw [s,ac a4,ac a4];exact b1
  have P:∀ b,F b->b=db\/b=d\/b=nb\/(∃ p∈fsD ++ fsN,b=p.2.1)\/w.heap.size<=b:=fun b c=>(bv b c).imp id (fun c=>c.imp id (fun c=>c.imp id (fun c=>c.imp id (fun c=>lq a0 c))));have I:∀ b,F b->b≠a:=fun b c e=>by
   rcases P b c with c | c | c | ⟨p,g,c⟩ | c
   ·exact cl (e.symm.trans c)
   ·exact Z (c.symm.trans e)
   ·exact cb (c.symm.trans e)
   ·exact (M p g).1 (c.symm.trans e)
   ·omega
  have T:aU db blk ⟨m.time,true⟩ (bu 3999999) q 0 n m F:=bF.kept (by rw [s];simp) (fun b U=>by rw [s,ac (I b U),ac (I b U)]);have bw:ae (fun b=>b=a\/b=db\/b=d) w q:=by
   have ck:=(Q.drew.then J (fun _ _ c=>ir c)).trans (ae.of_below E);rw [s];exact ae.set (S:=fun b=>b=a\/b=db\/b=d) (b:=a) (ae.set (S:=fun b=>b=a\/b=db\/b=d) (b:=a) ck (il (il rfl)) _ _) (il (il rfl)) _ _
  clear s bi bj;refine (gM a db (some a3) (some a5) _ _ _ _ a2 O 0 0 q L X).mono ?_
  rintro e cx ⟨rfl,bk,C⟩;go_wp2
  go_ret
  refine⟨n,m,F,rfl,lq a0 cc,(C.block a (am L) v).trans L,(T.refill X bk C.size (fun b bs b8=>C.block b (T.lt b bs) b8)).less ⟨by decide,by decide⟩,bz,P,fun c=>I a c rfl,bw.then C (fun cs _ c=>ir (il c))⟩
abbrev ZS:Value:=.agg #[.int .i64 0,.int .i64 0,.int .u64 0,.slice none 0 0,.string ⟨#[]⟩,.int .i64 0,.int .i64 0,.int .i64 0,.int .i64 0,.int .i64 0]
theorem Tryz.info62:(prog.info? 69).map (fun i=>(i.zero,i.size,i.bytes))=some (some ZS,10,104):=by kernel_rfl
structure WoI (w:World)(sps:List Sp)(i:Nat)(s3:Value)(vs:List Value)(wr:World):Prop where
 len:vs.length=i
 own:wr.ownsRow w.heap.size 69 10 s3 i (jD (sps.take i) vs)
 rq:∀ j (h:j<vs.length) (hj:j<sps.length),wr.ownsRow w.heap.size 65 13 vs[j] (fq sps[j].qs).length (fg (fq sps[j].qs))
 below:B7 w wr
structure WiI (V:World)(P:Nat)(C:Value->Array Value)(qs:List Rq)(k:Nat)(rv:Value)(wr:World):Prop where
 blk:wr.heap[P]?=some (.cells (C rv) 69)
 own:wr.ownsRow V.heap.size 65 13 rv (fq (qs.take k)).length (fg (fq (qs.take k)))
 keep:ae (fun b=>b=P) V wr
theorem jeN {wr w4 V:World}{o:Obj}{P:Nat}{x:Obj}{c:Option Addr}{b d n:Nat}{j:List Value}(a:wr.heap[P]?=some x)(k:V.heap.size=P+1)(i:((wr.alloc o).drew).ownsRow V.heap.size 65 13 (.slice c b d) n j)(f:((wr.alloc o).drew).grownBy w4 (Value.slice c b d).ownBlock):w4.heap[P]?=some x:=by
 have g:=am a;refine (f.block P ?_ ?_).trans ((ah wr o g).trans a)
 ·show P<(wr.alloc o).heap.size;rw [World.size_alloc];omega
 ·intro e;have:=(aj i e.symm).1;omega
theorem jeL {V wr w4:World}{o:Obj}{P:Nat}{C:Value->Array Value}{qs:List Rq}{k c g:Nat}{f i:Option Addr}{j:Nat}{q:Rq}(d:WiI V P C qs k (.slice f c g) wr)(y:V.heap.size=P+1)(w:((wr.alloc o).drew).ownsRow V.heap.size 65 13 (.slice f c g) c (fg (fq (qs.take k))))(l:w4.ownsRow V.heap.size 65 13 (.slice i (c+1) j) (c+1) (fg (fq (qs.take k)) ++ tQ q))(e:((wr.alloc o).drew).grownBy w4 (Value.slice f c g).ownBlock)(u:w4.heap[P]?=some (.cells (C (.slice f c g)) 69))(s:fq (qs.take (k+1))=fq (qs.take k) ++ [q])(v:c=(fq (qs.take k)).length)(p:∀ a b,(C a).setIfInBounds 3 b=C b) :
  WiI V P C qs (k+1) (.slice i (c+1) j) (w4.setCell ⟨P,3,none⟩ (.slice i (c+1) j)):=by
 have z:=e.size;have B:(wr.alloc o).drew.heap.size=wr.heap.size+1:=World.size_alloc _ _;have A:=d.keep.size;refine⟨?_,?_,?_⟩
 ·have:=ai u 3 (.slice i (c+1) j);rw [p] at this;exact this
 ·rw [s,List.length_append,nK,<-v];exact aq l (fun x t=>ac (by have:=(aj l t).1;omega) _ _)
 ·refine⟨e.os.trans d.keep.os,e.tape.trans d.keep.tape,e.output.trans d.keep.output,?_,fun b r m=>?_⟩
  ·rw [World.size_setCell];omega
  ·refine (ac m _ _).trans ((e.block b (by omega) (fun n=>?_)).trans ((ah wr o (by omega)).trans (d.keep.block b r m)))
   have:=(aj w n.symm).1;omega
theorem jeM {w v V wr A:World}{ad o:Obj}{P i y:Nat}{x:Option Addr}{f:List Sp}{u:List Value}{p:Sp}{z I:Value}{C:Value->Array Value}{k:Nat}(c:WoI w f i (.slice x i y) u v)(s:V=v.alloc ad)(O:P=v.heap.size)(l:WiI V P C p.qs k z wr)(W:p.qs.take k=p.qs)(S:i<f.length)(H:p=f[i])
  (N:A.ownsRow w.heap.size 69 10 I (i+1) (jD (f.take i) u ++ kr p z)) (t:(wr.alloc o).grownBy A (Value.slice x i y).ownBlock):WoI w f (i+1) I (u ++ [z]) A:=by
 have av:V.heap.size=P+1:=by rw [s,O];simp
 have a1:=l.keep.size;have R:=t.size;rw [World.size_alloc] at R;have a0:=c.below.size;have B:∀ a,a<P->wr.heap[a]?=v.heap[a]?:=fun a e=>(l.keep.block a (by omega) (by omega)).trans (by rw [s];exact ah _ _ (by omega));have E:∀ a,a<wr.heap.size->(Value.slice x i y).ownBlock≠some a->A.heap[a]?=wr.heap[a]?:=fun a e Y=>(t.block a (by rw [World.size_alloc];omega) (fun g=>Y g.symm)).trans (ah _ _ e);have G:∀ b,(Value.slice x i y).ownBlock=some b->∃ q r,wr.heap[b]?=some (.cells q 69 r):=fun b d=>by
  obtain⟨q,r,e⟩:=qW c.own d;have:=(aj c.own d).2;exact⟨q,r,(B b (by omega)).trans e⟩
 refine⟨?_,?_,fun n e T=>?_,?_⟩
 ·rw [List.length_append,c.len];rfl
 ·have Z:f.take (i+1)=f.take i ++ [p]:=by rw [List.take_add_one,List.getElem?_eq_getElem S,H];rfl
  rw [Z,nP _ _ _ _ (by rw [List.length_take,c.len];omega)];exact N
 ·by_cases F:n<u.length
  ·rw [List.getElem_append_left F];have m:=c.rq n F T;have j:wr.ownsRow w.heap.size 65 13 u[n] (fq f[n].qs).length (fg (fq f[n].qs)):=aq m (fun b d=>B b (by have:=(aj m d).2;omega));refine aq j (fun b d=>E b (aj j d).2 (fun g=>?_))
   obtain⟨q,r,D⟩:=G b g;exact ax j d D (by decide) rfl
  ·have X:=c.len;rw [List.length_append] at e;simp only [List.length_singleton] at e;have U:n=i:=by omega
   subst U;rw [List.getElem_append_right (by omega)];simp only [X,Nat.sub_self,List.getElem_singleton];rw [<-H];have m:=l.own;rw [W] at m;have j:wr.ownsRow w.heap.size 65 13 z (fq p.qs).length (fg (fq p.qs)):=by
    refine⟨m.1,?_⟩
    rcases m.2 with e | ⟨b,J,K,L,ao,M⟩
    ·exact il e
    ·exact ir ⟨b,J,K,L,by omega,M⟩
   refine aq j (fun b d=>E b (aj j d).2 (fun g=>?_))
   obtain⟨q,r,D⟩:=G b g;exact ax j d D (by decide) rfl
 ·refine⟨?_,?_,?_,by omega,fun a Q=>?_⟩
  ·rw [t.os];show wr.os=_;rw [l.keep.os,s];exact c.below.os
  ·rw [t.tape];show wr.tape=_;rw [l.keep.tape,s];exact c.below.tape
  ·rw [t.output];show wr.output=_;rw [l.keep.output,s];exact c.below.output
  ·refine (E a (by omega) (fun g=>?_)).trans ((B a (by omega)).trans (c.below.block a Q))
   have:=(aj c.own g).1;omega
theorem jc7 (bb:Option Addr)(n bd:Nat)(q:List Sp)(w:World)(bu:q.length=n)(en:n<=bd)(em:n<=140737488355328)(bz:∀ p∈q,p.qs.length * 48<=140737488351232)
  (bj:0<n->∃ j o,bb=some ⟨j,o,none⟩/\j<w.heap.size/\∀ i (K:i<q.length),∃ v,(∀ x,x<10->w.cell? ⟨j,o+i * 10+x,none⟩=(kr q[i] v)[x]?)/\gf w v q[i].qs) :
  Calls prog 10 #[.slice bb n bd] w fun e w'=>∃ S b u,e=.returned S/\(b=n/\n<=16384\/b=0/\16384<n)/\WoI w q b S u w':=by
 obtain⟨df,cz,c9,db,dd⟩:=info_parts Tryz.info62;obtain⟨di,H,c4,c5,c6⟩:=info_parts Tryz.info58;have b7:=aa bj;have cb:=aa bu;have ci:=aa bz;clear bj bu bz;go_enter func10,ntmps10
 go_wp2
 go_loopw [3,4] (fun S a2 wr=>∃ (i:Nat) (u:List Value),i<=n/\(i=0\/n<=16384)/\a2=.int .i64 i/\WoI w q i S u wr) (fun _ a2 _=>n - (intOf a2).toNat)
 case atStart=>exact⟨0,[],by omega,il rfl,rfl,rfl,World.ownsRow_nil _ _ _ _,fun g K=>by simp at K,Below.refl _ _⟩
 case round=>
  obtain⟨i,u,eb,eq,rfl,B⟩:=hrel;obtain⟨z,rfl⟩:∃ z,z=wr:=⟨_,rfl⟩;have D:=aa B;have es:=B.below.size;obtain⟨b3,b4,cU⟩:=aw B.own;subst cU;by_cases cG:i<n
  ·have cR:(i:Int)<(n:Int):=by omega
   by_cases c2:n<=16384
   ·have c3:(n:Int)<=16384:=by omega
    have ad:i<q.length:=by rw [cb.out];exact cG
    obtain⟨j,o,rfl,cr,bk⟩:=b7.out (by omega);obtain⟨v,M,bK⟩:=bk i ad;obtain⟨p,O⟩:∃ p,p=q[i]:=⟨_,rfl⟩;rw [<-O] at M bK;have c0:p.qs.length * 48<=140737488351232:=O▸ci.out _ (List.getElem_mem ad);obtain⟨R,a1,rfl,c1,bF⟩:=bK;have l:∀ x,x<10->z.cell? ⟨j,o+i * 10+x,none⟩=(kr p (.slice R p.qs.length a1))[x]?:=fun x av=>(B.below.cell (p:=⟨j,o+i * 10+x,none⟩) cr).trans (M x av);have b1:=l 0 (by omega);have dk:=l 1 (by omega);have dl:=l 2 (by omega);have b2:=l 3 (by omega);have dm:=l 4 (by omega);have dn:=l 5 (by omega);have ds:=l 6 (by omega);have dt:=l 7 (by omega);have dv:=l 8 (by omega);have dN:=l 9 (by omega);rw [Nat.add_zero] at b1;have d1:=aa M;have a7:=aa bF;have ch:=aa O;clear l M bF O bk B;go_wp2_with fail
    obtain⟨d,F⟩:∃ d,d=z.alloc (.cells #[.int .i64 p.kind,.int .i64 p.conn,.int .u64 p.now,.slice none 0 0,.string p.raw,.int .i64 p.cut,.int .i64 p.left,.int .i64 p.full,.int .i64 p.kept,.int .i64 p.part] 69):=⟨_,rfl⟩;rw [<-F];obtain⟨r,G⟩:∃ r,r=z.heap.size:=⟨_,rfl⟩;rw [<-G];have bi:d.heap.size=r+1:=by rw [F,G];simp
    have bg:d.heap[r]?=some (.cells #[.int .i64 p.kind,.int .i64 p.conn,.int .u64 p.now,.slice none 0 0,.string p.raw,.int .i64 p.cut,.int .i64 p.left,.int .i64 p.full,.int .i64 p.kept,.int .i64 p.part] 69):=by rw [F,G];exact af _ _
    have Y:∀ J,J<r->d.heap[J]?=z.heap[J]?:=fun J K=>by rw [F];exact ah _ _ (by omega)
    have er:w.heap.size<=r:=by omega
    have ct:j<r:=by omega
    have a9:=aa Y;have cn:=aa bg;have a0:d.cell? ⟨j,o+i * 10+3,none⟩=some (.slice R p.qs.length a1):=(World.cell?_of_block (w:=z) (Y j ct)).trans b2;obtain⟨m,Q⟩:∃ m,m=p.qs.length:=⟨_,rfl⟩;rw [<-Q] at a0 c0 c1;have a6:=aa Q;have b8:=aa a0;have cl:=aa F;have a5:=aa G;have ck:Hid (0<m->∃ y I,R=some ⟨y,I,none⟩/\y<w.heap.size/\∀ a (K:a<p.qs.length) g,g<13->w.cell? ⟨y,I+a * 13+g,none⟩=(tQ p.qs[a])[g]?):=aa (by rw [Q];exact a7.out);clear b1 dk dl b2 dm dn ds dt dv dN F G Y bg Q a0 a7;go_loopw [6] (fun a3 cp=>∃ (a:Nat) (b5:Value),a<=m/\a3=.int .i64 a/\WiI d r (fun v=>#[.int .i64 p.kind,.int .i64 p.conn,.int .u64 p.now,v,.string p.raw,.int .i64 p.cut,.int .i64 p.left,.int .i64 p.full,.int .i64 p.kept,.int .i64 p.part]) p.qs a b5 cp) (fun a3 _=>m - (intOf a3).toNat)
    case atStart=>exact⟨0,.slice none 0 0,by omega,rfl,cn.out,World.ownsRow_nil _ _ _ _,ae.refl _ _⟩
    case round=>
     obtain⟨a,b5,eg,rfl,E⟩:=hrel;have ei:=E.keep.size;obtain⟨s,t,b0⟩:=aw E.own;obtain⟨b,N⟩:∃ b,b=(fq (p.qs.take a)).length:=⟨_,rfl⟩;rw [<-N] at b0;subst b0;have el:b<=m:=by rw [N];have:=jeT (p.qs.take a);rw [List.length_take] at this;omega
     have cv:wr.heap[j]?=d.heap[j]?:=E.keep.block j (by omega) (by omega);have c:=E.blk;have d5:wr.cell? ⟨j,o+i * 10+3,none⟩=some (.slice R m a1):=(World.cell?_of_block (w:=d) cv).trans b8.out;have A:=aa E;have a4:=aa N;clear E N;by_cases cF:a<m
     ·have ej:(a:Int)<(m:Int):=by omega
      obtain⟨y,I,rfl,cs,bw⟩:=ck.out (by omega);have bs:a<p.qs.length:=by rw [<-a6.out];exact cF
      obtain⟨k,P⟩:∃ k,k=p.qs[a]:=⟨_,rfl⟩;have f:∀ x,x<13->wr.cell? ⟨y,I+a * 13+x,none⟩=(tQ k)[x]?:=fun x av=>by
       rw [World.cell?_of_block (w:=d) (A.out.keep.block y (by omega) (by omega)),World.cell?_of_block (w:=z) (a9.out y (by omega)),D.out.below.cell (p:=⟨y,I+a * 13+x,none⟩) cs,P];exact bw a bs x av
      have dR:=f 0 (by omega);have et:=f 1 (by omega);have eA:=f 2 (by omega);have eB:=f 3 (by omega);have eD:=f 4 (by omega);have eE:=f 5 (by omega);have eF:=f 6 (by omega);have eL:=f 7 (by omega);have eN:=f 8 (by omega);have eQ:=f 9 (by omega);have ev:=f 10 (by omega);have ey:=f 11 (by omega);have ez:=f 12 (by omega);rw [Nat.add_zero] at dR;have ao:=jdC p.qs a bs;rw [<-P] at ao;have a8:=aa ao;have d2:=aa P;clear P ao f bw;by_cases L:k.op=5
      ·have cq:(k.op==5)=true:=by simp [L]
       go_wp2
       go_roundw
       case rel=>
        refine⟨a+1,_,by omega,by go_num,c,?_,A.out.keep⟩
        rw [a8.out,if_pos L];exact A.out.own
       case measure=>simp [intOf];omega
      ·have cq:(k.op==5)=false:=by simp [L]
       go_upto_region 11 with fail
       have d6:=ab c 3;have d7:=ag c 3;have V:Hid ((wr.alloc (oh k)).drew.ownsRow d.heap.size 65 13 (.slice s b t) b (fg (fq (p.qs.take a)))):=aa (by
         have X:=A.out.own;rw [<-a4.out] at X;exact aq X (fun fb c8=>ah _ _ (aj X c8).2))
       have U:Hid (∀ g C,(tQ k)[g]?=some C->(wr.alloc (oh k)).drew.cell? ((⟨wr.heap.size,0,none⟩:Addr).add g)=some C):=aa (fun g C H=>by
         rw [Addr.add_lit,Nat.zero_add];refine (ab (af wr (oh k)) g).trans ?_
         rw [<-H];simp)
       have T:Hid (d.heap.size<=(wr.alloc (oh k)).drew.heap.size):=aa (by show d.heap.size<=(wr.alloc _).heap.size;rw [World.size_alloc];omega);have d8:r<wr.heap.size:=am c;have b6:=aa c;clear c;go_region_law (refine aT (by rfl) _ _ 28 65 di ZR 13 48 underlying28 H c4 c5 c6 (by rfl) (by decide) (by rfl) d.heap.size (.slice s b t) b (fg (fq (p.qs.take a))) (by rfl) V.out ⟨wr.heap.size,0,none⟩ 1 1 (tQ k) (by rfl) (by rfl) U.out (by simp [Value.oneCell']) (by omega) (by omega) T.out ?_;intro d0 e7 bv bl ek;obtain⟨e9,fa,c7⟩:=aw bv;subst c7;have Z:=jeN b6.out bi V.out bl;have d3:=ab Z 3;have d4:=ag Z 3)
       all_goals go_wp2
       all_goals go_roundw
       all_goals first
        | exact⟨a+1,_,by omega,by go_num,jeL A.out bi V.out bv bl Z (a8.out.trans (if_neg L)) a4.out (fun _ _=>rfl)⟩
        | (simp [intOf];omega)
     ·have bo:a=m:=by omega
      have ef:¬(a:Int)<(m:Int):=by omega
      have eS:=ab c 0;have eV:=ab c 1;have eX:=ab c 2;have e0:=ab c 3;have e1:=ab c 4;have e2:=ab c 5;have e3:=ab c 6;have e4:=ab c 7;have e5:=ab c 8;have e6:=ab c 9;have cc:Hid ((wr.alloc (oJ p.kind p.conn p.now (.slice s b t) p.raw p.cut p.left p.full p.kept p.part)).ownsRow w.heap.size 69 10 (.slice b3 i b4) i (jD (q.take i) u)):=aa (aq D.out.own (fun W cw=>by
        have d9:=(aj D.out.own cw).2;have cx:W<r:=by have:=a5.out;omega
        exact (ah _ _ (by omega)).trans ((A.out.keep.block W (by omega) (by omega)).trans (a9.out W cx))))
      have U:Hid (∀ g C,(kr p (.slice s b t))[g]?=some C->(wr.alloc (oJ p.kind p.conn p.now (.slice s b t) p.raw p.cut p.left p.full p.kept p.part)).cell? ((⟨wr.heap.size,0,none⟩:Addr).add g)=some C):=aa (fun g C H=>by
        rw [Addr.add_lit,Nat.zero_add];refine (ab (af wr (oJ p.kind p.conn p.now (.slice s b t) p.raw p.cut p.left p.full p.kept p.part)) g).trans ?_
        rw [<-H];simp)
      have T:Hid (w.heap.size<=(wr.alloc (oJ p.kind p.conn p.now (.slice s b t) p.raw p.cut p.left p.full p.kept p.part)).heap.size):=aa (by rw [World.size_alloc];omega);have b9:=aa bo;clear bo;go_wp2_with (at_builtin;refine wpList_append_own _ rfl _ _ 22 rfl w.heap.size 69 df ZS 10 104 underlying22 cz c9 db dd rfl (by decide) (.slice b3 i b4) i (jD (q.take i) u) rfl cc.out ⟨wr.heap.size,0,none⟩ 1 1 (kr p (.slice s b t)) rfl rfl U.out (by simp [Value.oneCell']) (by unfold maxLen;omega) (by omega) T.out ?_;intro d0 e8 cV cy eo)
      go_roundw
      case rel=>
       have cX:p.qs.take a=p.qs:=List.take_of_length_le (by rw [b9.out,a6.out];exact lz);refine⟨i+1,u ++ [.slice s b t],by omega,ir c2,by go_num,jeM D.out cl.out a5.out A.out cX ad ch.out cV cy⟩
      case measure=>simp [intOf];omega
   ·have c3:¬(n:Int)<=16384:=by omega
    obtain rfl:i=0:=by omega
    clear B;go_wp2
    go_ret
    exact⟨_,rfl,0,⟨rfl,by omega⟩,u,D.out⟩
  ·have cR:¬(i:Int)<(n:Int):=by omega
   obtain rfl:i=n:=by omega
   clear B;go_wp2
   go_ret
   exact⟨_,rfl,i,by omega,u,D.out⟩
end Go.Proofs.YtnlgndpcddngoaaGreatDoor
