import Derived.Test.YtnlgndpcddngoaaGreatDoorZ22
import Derived.Test.YtnlgndpcddngoaaGreatDoorZ29
set_option linter.all false
set_option maxRecDepth 100000
set_option maxHeartbeats 4000000
namespace Go.Proofs.YtnlgndpcddngoaaGreatDoor
open Go.Proofs.Tryz Go.RowKit Go.Maps
variable [dK] [iK]
theorem jbu (db i a q:Nat)(v r J K:Value)(f:Int)(l s:ByteArray)(fs:Fs)(B m:Int)(w:World)(W:-9223372036854775808<=m)(X:m<=9223372036854775807)(d:w.heap[db]?=some (OI i v a 1 q J K r))(j:ak w i fs)(y:w.cell? ⟨a,0,none⟩=some (.int .i64 f))(O:w.cell? ⟨a,1,none⟩=some (.string l))(P:w.cell? ⟨a,2,none⟩=some (.string s))(R:f=1\/f=3)(Y:(bits BinOp.and IntKind.i64 B 1==0)=true) :
  Calls prog 39 #[pO db 0,.int .i64 B,.int .i64 m] w fun e w'=>e=.returned (.tuple #[])/\∃ nb,w'.heap[db]?=some (oB i nb)/\w.heap.size<=nb/\ak w' nb fs/\ae (fun c=>c=db) w w':=by
 have Z:=@run_makeMap prog;have T:i≠db:=j.map.ne d;have C:=aa (jy m 2 w (by omega) (by omega) W X);have u:=bT y;have a0:=am d;have F:=ab d;have G:=ce d (.map #[] 0);have L:(w.alloc (.map #[] 0)).cell? ⟨a,0,none⟩=some (.int .i64 f):=(World.cell?_of_block (w:=w) (ah w _ u)).trans y;have M:(w.alloc (.map #[] 0)).cell? ⟨a,1,none⟩=some (.string l):=(World.cell?_of_block (w:=w) (ah w _ u)).trans O;have N:(w.alloc (.map #[] 0)).cell? ⟨a,2,none⟩=some (.string s):=(World.cell?_of_block (w:=w) (ah w _ u)).trans P;have ao:(f==2)=false:=by rcases R with rfl | rfl <;> rfl
 have av:¬f=2:=by omega
 obtain⟨g,k⟩:∃ g,g=(((w.setCell ⟨db,3,none⟩ (.int .i64 (-1))).setCell ⟨db,4,none⟩ (.int .i64 (-1))).alloc (.map #[] 0)).alloc (uq f l s):=⟨_,rfl⟩;have A:g.heap[db]?=some (Oy i v a 1 q r):=by rw [k];exact aB (aB (by simpa using ai (ai d 3 (.int .i64 (-1))) 4 (.int .i64 (-1))) _) _
 have t:ae (fun c=>c=db) w g:=k▸((ae.set (S:=fun c=>c=db) (b:=db) (ae.set (S:=fun c=>c=db) (b:=db) (ae.refl _ w) (il rfl) _ _) (il rfl) _ _).alloc _).alloc _;have z:ak g i fs:=j.keep t T (fun V U e=>by have:=j.str V U;rw [e,d] at this;simp at this);have E:=aa (up33 db i v (.slice (some ⟨a,0,none⟩) 1 q) r (.int .i64 (-1)) (.int .i64 (-1)) fs g A z);have H:=ce (aB d (.map #[] 0)) (uq f l s);have I:=ag d;have x:=aa t;clear j z t A;go_enter func39,ntmps39
 go_wp2_with fail
 refine C.out.mono ?_
 rintro e w' ⟨rfl,rfl⟩;go_wp2
 refine wp_loop_rounds 2 ?_
 rw [rounds_succ];go_wp2
 rw [rounds_succ];go_upto_region 15 with fail
 rw [<-k];clear k F G H I L M N;go_wp2_with fail
 refine E.out.mono ?_
 rintro e a1 ⟨rfl,n,o,p⟩;have D:=aa (aN n (aN o p));clear n o p;go_wp2
 go_end0
 obtain⟨n,o,p⟩:=D.out;exact⟨rfl,g.heap.size,n,x.out.size,o,x.out.then p (fun ad _ Q=>Q)⟩
theorem jbw (db a g o:Nat)(y p H I:Value)(k:Int)(v s:ByteArray)(fs:Fs)(a0 a1:Int)(w:World)(a2:Int)(a7:Hid (Calls prog 30 #[.int .i64 a1,.int .i64 2] w fun e w'=>e=.returned (.int .i64 a2)/\w'=w))(t:w.heap[db]?=some (OI a y g 1 o H I p))(q:ak w a fs)(T:w.cell? ⟨g,0,none⟩=some (.int .i64 k))(bz:w.cell? ⟨g,1,none⟩=some (.string v))(bF:w.cell? ⟨g,2,none⟩=some (.string s))(b0:k=1\/k=3)(b3:(bits BinOp.and IntKind.i64 a0 1==0)=false)(b7:¬0=a2)(m:Nat->Fs)(ao:∀ G,ak G a fs->Calls prog 59 #[.map (some a),.agg #[.int .i64 k,.string v,.string s]] G fun e w'=>e=.returned (.tuple #[])/\∃ x,G.heap.size<=x/\ak w' a (m x)/\ae (fun c=>c=a) G w') :
  Calls prog 39 #[pO db 0,.int .i64 a0,.int .i64 a1] w fun e w'=>e=.returned (.tuple #[])/\∃ x nb,w.heap.size<=x/\w'.heap[db]?=some (oB a nb)/\w.heap.size<=nb/\ak w' a (m x)/\ak w' nb (m x)/\a≠nb/\ae (fun c=>c=db\/c=a) w w':=by
 have b5:=@run_makeMap prog;have M:a≠db:=q.map.ne t;have L:=bT T;have cb:=am t;have bg:=ab t;have bi:=ce t (.map #[] 0);have bo:(w.alloc (.map #[] 0)).cell? ⟨g,0,none⟩=some (.int .i64 k):=(World.cell?_of_block (w:=w) (ah w _ L)).trans T;have bs:(w.alloc (.map #[] 0)).cell? ⟨g,1,none⟩=some (.string v):=(World.cell?_of_block (w:=w) (ah w _ L)).trans bz;have bu:(w.alloc (.map #[] 0)).cell? ⟨g,2,none⟩=some (.string s):=(World.cell?_of_block (w:=w) (ah w _ L)).trans bF;have N:(k==2)=false:=by rcases b0 with rfl | rfl <;> rfl
 have b9:¬k=2:=by omega
 obtain⟨f,r⟩:∃ f,f=(w.alloc (.map #[] 0)).alloc (uq k v s):=⟨_,rfl⟩;have K:f.heap[db]?=some (OI a y g 1 o H I p):=r▸aB (aB t _) _;have bK:f.heap[w.heap.size+1]?=some (uq k v s):=r▸aC (by simp);have A:ae (fun _=>False) w f:=r▸((ae.refl _ w).alloc _).alloc _;have b1:=q.map.lt;have Y:ak f.drew a fs:=q.kept (A.block a b1 (fun i=>i)) (fun l n=>A.block _ (am (q.str l n)) (fun i=>i));have a5:=aa (ao f.drew Y);have O:f.heap.size=w.heap.size+2:=by rw [r];simp
 have a6:=aa A;have a9:=aa O;have b6:∀ l∈fs,l.2.1≠db:=fun l n e=>by have:=q.str l n;rw [e,t] at this;simp at this
 clear q Y A O ao;go_enter func39,ntmps39
 go_wp2_with fail
 refine a7.out.mono ?_
 rintro e w' ⟨rfl,rfl⟩;go_wp2
 refine wp_loop_rounds 2 ?_
 rw [rounds_succ];have R:∀ (d:World) (x:Nat),f.heap.size<=x->ak d a (m x)->ae (fun c=>c=a) f d->∃ (j:World),j=(d.setCell ⟨db,3,none⟩ (.int .i64 (-1))).setCell ⟨db,4,none⟩ (.int .i64 (-1))/\(∀ D,d.cell? ⟨db,D,none⟩=(#[.map (some a),y,.slice (some ⟨g,0,none⟩) 1 o,H,I,p]:Array Value)[D]?)/\(∀ D,d.frozen? ⟨db,D,none⟩=false)/\Hid (ae (fun c=>c=db\/c=a) w' j)/\Hid (ak j a (m x)/\j.heap[db]?=some (Oy a y g 1 o p))/\Hid (Calls prog 33 #[pO db 0] j fun e P=>e=.returned (.tuple #[])/\P.heap[db]?=some (uB a (.map (some j.heap.size)))/\ak P j.heap.size (m x)/\ae (fun c=>c=db) j P):=fun d x C V N=>by
  have B:=(N.block db (am K) (fun e=>M e.symm)).trans K;have ad:((d.setCell ⟨db,3,none⟩ (.int .i64 (-1))).setCell ⟨db,4,none⟩ (.int .i64 (-1))).heap[db]?=some (Oy a y g 1 o p):=by simpa using ai (ai B 3 (.int .i64 (-1))) 4 (.int .i64 (-1))
  have av:ae (fun c=>c=db) d ((d.setCell ⟨db,3,none⟩ (.int .i64 (-1))).setCell ⟨db,4,none⟩ (.int .i64 (-1))):=ae.set (S:=fun c=>c=db) (b:=db) (ae.set (S:=fun c=>c=db) (b:=db) (ae.refl _ d) (il rfl) _ _) (il rfl) _ _;have X:ak ((d.setCell ⟨db,3,none⟩ (.int .i64 (-1))).setCell ⟨db,4,none⟩ (.int .i64 (-1))) a (m x):=V.keep av M (fun l n e=>by have:=V.str l n;rw [e,B] at this;simp at this);exact⟨_,rfl,ab B,ag B,aa (((a6.out.mono (fun _ i _=>i.elim)).then N (fun _ _ i=>ir i)).then av (fun _ _ i=>il i)),aa ⟨X,ad⟩,aa (up33 db a y (.slice (some ⟨g,0,none⟩) 1 o) p (.int .i64 (-1)) (.int .i64 (-1)) (m x) _ ad X)⟩
 have a4:=aa R;clear R;have bj:=ab K;have bk:=ab bK;go_upto_region 12 with fail
 rw [<-r];clear r bg bi bo bs bu;go_region_law (refine aO (by rfl) 59 io _ _ (by rfl) #[.map (some a),.agg #[.int .i64 k,.string v,.string s]] (by simp only [List.map_toArray,List.map_cons,List.map_nil];rfl) a5.out ?_;rintro e d ⟨rfl,x,C,W,u⟩;refine⟨_,rfl,?_⟩;obtain⟨j,Z,bv,bw,Q,a3,bd⟩:=a4.out d x C W ⟨u.os,u.tape,u.output,u.size,u.block⟩;have bb:=aa C;clear W u C)
 all_goals (
   go_wp2
   rw [rounds_succ];go_upto_region 15 with fail
   rw [<-Z];clear Z bj bk bv bw;go_wp2_with fail
   refine bd.out.mono ?_
   rintro e cc ⟨rfl,E,F,z⟩;have a8:=aa (aN E (aN F z));clear E F z;go_wp2
   go_end0
   obtain⟨E,F,z⟩:=a8.out;obtain⟨J,bl⟩:=a3.out;have O:=a9.out;have b8:=bb.out;have b2:=Q.out.size;have b4:=J.map.lt;refine⟨rfl,x,j.heap.size,by have:f.drew.heap.size=f.heap.size:=rfl;omega,E,b2,J.keep z M (fun l n e=>?_),F,by omega,Q.out.then z (fun _ _ i=>il i)⟩
   have U:=J.str l n;rw [e,bl] at U;simp at U)
theorem jdt (db a g n:Nat)(v o G H:Value)(u s:ByteArray)(fs:Fs)(av a0:Int)(w:World)(a5:Hid (Calls prog 30 #[.int .i64 a0,.int .i64 2] w fun e w'=>e=.returned (.int .i64 0)/\w'=w))(r:w.heap[db]?=some (OI a v g 1 n G H o))(p:ak w a fs)(Q:w.cell? ⟨g,0,none⟩=some (.int .i64 3))(bv:w.cell? ⟨g,1,none⟩=some (.string u))(bw:w.cell? ⟨g,2,none⟩=some (.string s))(b0:(bits BinOp.and IntKind.i64 av 1==0)=false)(l:Nat->Fs)(Z:∀ F,ak F a fs->Calls prog 59 #[.map (some a),.agg #[.int .i64 3,.string u,.string s]] F fun e w'=>e=.returned (.tuple #[])/\∃ x,F.heap.size<=x/\ak w' a (l x)/\ae (fun c=>c=a) F w') :
  Calls prog 39 #[pO db 0,.int .i64 av,.int .i64 a0] w fun e w'=>e=.returned (.tuple #[])/\∃ x nb,w.heap.size<=x/\w'.heap[db]?=some (oB a nb)/\w.heap.size<=nb/\ak w' a (l x)/\ak w' nb (l x)/\a≠nb/\ae (fun c=>c=db\/c=a) w w':=by
 have b2:=@run_makeMap prog;have L:a≠db:=p.map.ne r;have K:=bT Q;have b5:=am r;have bb:=ab r;have bd:=ce r (.map #[] 0);have bk:(w.alloc (.map #[] 0)).cell? ⟨g,0,none⟩=some (.int .i64 3):=(World.cell?_of_block (w:=w) (ah w _ K)).trans Q;have bl:(w.alloc (.map #[] 0)).cell? ⟨g,1,none⟩=some (.string u):=(World.cell?_of_block (w:=w) (ah w _ K)).trans bv;have bo:(w.alloc (.map #[] 0)).cell? ⟨g,2,none⟩=some (.string s):=(World.cell?_of_block (w:=w) (ah w _ K)).trans bw;obtain⟨f,q⟩:∃ f,f=(w.alloc (.map #[] 0)).alloc (.cells #[.int .i64 3,.string u,.string s] 146):=⟨_,rfl⟩;have J:f.heap[db]?=some (OI a v g 1 n G H o):=q▸aB (aB r _) _;have bz:f.heap[w.heap.size+1]?=some (.cells #[.int .i64 3,.string u,.string s] 146):=q▸aC (by simp);have z:ae (fun _=>False) w f:=q▸((ae.refl _ w).alloc _).alloc _;have bF:=p.map.lt;have W:ak f.drew a fs:=p.kept (z.block a bF (fun i=>i)) (fun k m=>z.block _ (am (p.str k m)) (fun i=>i));have a3:=aa (Z f.drew W);have M:f.heap.size=w.heap.size+2:=by rw [q];simp
 have a4:=aa z;have a7:=aa M;have b3:∀ k∈fs,k.2.1≠db:=fun k m e=>by have:=p.str k m;rw [e,r] at this;simp at this
 clear p W z M Z;go_enter func39,ntmps39
 go_wp2_with fail
 refine a5.out.mono ?_
 rintro e w' ⟨rfl,rfl⟩;go_wp2
 refine wp_loop_rounds 2 ?_
 rw [rounds_succ];have P:∀ (d:World) (x:Nat),f.heap.size<=x->ak d a (l x)->ae (fun c=>c=a) f d->∃ (j:World),j=(d.setCell ⟨db,3,none⟩ (.int .i64 (-1))).setCell ⟨db,4,none⟩ (.int .i64 (-1))/\(∀ C,d.cell? ⟨db,C,none⟩=(#[.map (some a),v,.slice (some ⟨g,0,none⟩) 1 n,G,H,o]:Array Value)[C]?)/\(∀ C,d.frozen? ⟨db,C,none⟩=false)/\Hid (ae (fun c=>c=db\/c=a) w' j)/\Hid (ak j a (l x)/\j.heap[db]?=some (Oy a v g 1 n o))/\Hid (Calls prog 33 #[pO db 0] j fun e N=>e=.returned (.tuple #[])/\N.heap[db]?=some (uB a (.map (some j.heap.size)))/\ak N j.heap.size (l x)/\ae (fun c=>c=db) j N):=fun d x B T ao=>by
  have A:=(ao.block db (am J) (fun e=>L e.symm)).trans J;have Y:((d.setCell ⟨db,3,none⟩ (.int .i64 (-1))).setCell ⟨db,4,none⟩ (.int .i64 (-1))).heap[db]?=some (Oy a v g 1 n o):=by simpa using ai (ai A 3 (.int .i64 (-1))) 4 (.int .i64 (-1))
  have ad:ae (fun c=>c=db) d ((d.setCell ⟨db,3,none⟩ (.int .i64 (-1))).setCell ⟨db,4,none⟩ (.int .i64 (-1))):=ae.set (S:=fun c=>c=db) (b:=db) (ae.set (S:=fun c=>c=db) (b:=db) (ae.refl _ d) (il rfl) _ _) (il rfl) _ _;have V:ak ((d.setCell ⟨db,3,none⟩ (.int .i64 (-1))).setCell ⟨db,4,none⟩ (.int .i64 (-1))) a (l x):=T.keep ad L (fun k m e=>by have:=T.str k m;rw [e,A] at this;simp at this);exact⟨_,rfl,ab A,ag A,aa (((a4.out.mono (fun _ i _=>i.elim)).then ao (fun _ _ i=>ir i)).then ad (fun _ _ i=>il i)),aa ⟨V,Y⟩,aa (up33 db a v (.slice (some ⟨g,0,none⟩) 1 n) o (.int .i64 (-1)) (.int .i64 (-1)) (l x) _ Y V)⟩
 have a2:=aa P;clear P;have bg:=ab J;have bi:=ab bz;go_upto_region 12 with fail
 rw [<-q];clear q bb bd bk bl bo;go_region_law (refine aO (by rfl) 59 io _ _ (by rfl) #[.map (some a),.agg #[.int .i64 3,.string u,.string s]] (by simp only [List.map_toArray,List.map_cons,List.map_nil];rfl) a3.out ?_;rintro e d ⟨rfl,x,B,U,t⟩;refine⟨_,rfl,?_⟩;obtain⟨j,X,bs,bu,O,a1,a9⟩:=a2.out d x B U ⟨t.os,t.tape,t.output,t.size,t.block⟩;have a8:=aa B;clear U t B)
 all_goals (
   go_wp2
   rw [rounds_succ];go_upto_region 15 with fail
   rw [<-X];clear X bg bi bs bu;go_wp2_with fail
   refine a9.out.mono ?_
   rintro e b6 ⟨rfl,D,E,y⟩;have a6:=aa (aN D (aN E y));clear D E y;go_wp2
   go_end0
   obtain⟨D,E,y⟩:=a6.out;obtain⟨I,bj⟩:=a1.out;have M:=a7.out;have b4:=a8.out;have bK:=O.out.size;have b1:=I.map.lt;refine⟨rfl,x,j.heap.size,by have:f.drew.heap.size=f.heap.size:=rfl;omega,D,bK,I.keep y L (fun k m e=>?_),E,by omega,O.out.then y (fun _ _ i=>il i)⟩
   have R:=I.str k m;rw [e,bj] at R;simp at R)
theorem jfi (db a d o:Nat)(q p y z:Value)(b:Bool)(s:ByteArray)(fs:Fs)(bj J:Int)(w:World)(n:Int)(cy:0<=n)(cz:n<=s.size)(bb:s.size<=1000000)(bv:Hid (∀ w,Calls prog 30 #[.int .i64 (IntKind.i64.wrap (J.tdiv 7)),.int .i64 (IntKind.i64.wrap (s.size+1))] w fun e w'=>e=.returned (.int .i64 n)/\w'=w))(bu:Hid (Calls prog 30 #[.int .i64 J,.int .i64 2] w fun e w'=>e=.returned (.int .i64 0)/\w'=w))(C:w.heap[db]?=some (OI a q d 1 o y z p))(A:ak w a fs)(Y:w.cell? ⟨d,0,none⟩=some (.int .i64 1))(cb:w.cell? ⟨d,1,none⟩=some (.string (ay b)))(cc:w.cell? ⟨d,2,none⟩=some (.string s))(ct:(bits BinOp.and IntKind.i64 bj 1==0)=false) :
  Calls prog 39 #[pO db 0,.int .i64 bj,.int .i64 J] w fun e w'=>e=.returned (.tuple #[])/\∃ x nb,w.heap.size<=x/\w'.heap[db]?=some (oB a nb)/\w.heap.size<=nb/\ak w' a (aJ b (x,s.extract 0 n.toNat) fs)/\ak w' nb (aJ b (x,s.extract 0 n.toNat) fs)/\a≠nb/\ae (fun c=>c=db\/c=a) w w':=by
 have cx:=@run_makeMap prog;have U:a≠db:=A.map.ne C;have T:=bT Y;have cG:=am C;have bK:=ab C;have b0:=ce C (.map #[] 0);have b5:(w.alloc (.map #[] 0)).cell? ⟨d,0,none⟩=some (.int .i64 1):=(World.cell?_of_block (w:=w) (ah w _ T)).trans Y;have b6:(w.alloc (.map #[] 0)).cell? ⟨d,1,none⟩=some (.string (ay b)):=(World.cell?_of_block (w:=w) (ah w _ T)).trans cb;have b7:(w.alloc (.map #[] 0)).cell? ⟨d,2,none⟩=some (.string s):=(World.cell?_of_block (w:=w) (ah w _ T)).trans cc;obtain⟨m,r⟩:∃ m,m=(w.alloc (.map #[] 0)).alloc (uj (.string (ay b)) s):=⟨_,rfl⟩;have a7:m.heap[db]?=some (OI a q d 1 o y z p):=r▸aB (aB C _) _;have N:m.heap[w.heap.size+1]?=some (uj (.string (ay b)) s):=r▸aC (by simp);have a1:ae (fun _=>False) w m:=r▸((ae.refl _ w).alloc _).alloc _;have ch:=A.map.lt;have cR:m.heap.size=w.heap.size+2:=by rw [r];simp
 have a4:m.heap[w.heap.size]?=some (.map #[] 0):=by rw [r];exact (ah _ _ (by simp)).trans (af _ _)
 obtain⟨l,u⟩:∃ l,l=(m.setCell ⟨w.heap.size+1,2,none⟩ (.string (s.extract 0 n.toNat))).drew:=⟨_,rfl⟩;have a5:l.heap[w.heap.size]?=some (.map #[] 0):=by rw [u];exact (ac (by omega) _ _).trans a4
 obtain⟨i,a9,a2,_⟩:=ap.store (P:=prog) (ev:=fun bg:Int=>Value.int .i64 bg) (w:=l) dq (ap.empty a5) (by simp) (k:=b) trivial 1 (t:=144) (e:=3) (by kernel_rfl);have cF:(Instr.mapUpdate 144 (.map (some w.heap.size)) (.string (ay b)) (.int .i64 1)).run prog l=.ok () i:=a9;have G:=ae.turned a2;have O:l.heap[w.heap.size+1]?=some (.cells #[.int .i64 1,.string (ay b),.string (s.extract 0 n.toNat)] 146):=by rw [u,aE];simpa using ai N 2 (.string (s.extract 0 n.toNat))
 have Q:l.heap[db]?=some (OI a q d 1 o y z p):=by rw [u];exact (ac (by omega) _ _).trans a7
 have cp:l.heap.size=m.heap.size:=by rw [u];simp
 have ck:i.heap[w.heap.size+1]?=some (.cells #[.int .i64 1,.string (ay b),.string (s.extract 0 n.toNat)] 146):=(G.block (w.heap.size+1) (am O) (fun e=>by omega)).trans O;have R:i.heap[db]?=some (OI a q d 1 o y z p):=(G.block db (am Q) (fun e=>by omega)).trans Q;have B:ae (fun _=>False) w i:=by
  have cl:ae (fun _=>False) w l:=by
   rw [u];exact (ae.set (S:=fun _=>False) (b:=w.heap.size+1) a1 (ir (by omega)) _ _).drew
  exact ae.then (S:=fun _=>False) cl G (fun bg cv g=>by omega)
 have bd:w.heap.size<=i.heap.size:=B.size;have a0:ak i.drew a fs:=A.kept (B.block a ch (fun g=>g)) (fun E D=>B.block _ (am (A.str E D)) (fun g=>g));have bo:=aa (vB a fs b (s.extract 0 n.toNat) i.drew a0);have bs:=aa B;have X:∀ (f:World),ak f a (aJ b (i.drew.heap.size+1,s.extract 0 n.toNat) fs)->ae (fun c=>c=a) i f->∃ (j:World),j=(f.setCell ⟨db,3,none⟩ (.int .i64 (-1))).setCell ⟨db,4,none⟩ (.int .i64 (-1))/\(∀ I,f.cell? ⟨db,I,none⟩=(#[.map (some a),q,.slice (some ⟨d,0,none⟩) 1 o,y,z,p]:Array Value)[I]?)/\(∀ I,f.frozen? ⟨db,I,none⟩=false)/\Hid (ae (fun c=>c=db\/c=a) w j)/\Hid (ak j a (aJ b (i.drew.heap.size+1,s.extract 0 n.toNat) fs)/\j.heap[db]?=some (Oy a q d 1 o p))/\Hid (Calls prog 33 #[pO db 0] j fun e V=>e=.returned (.tuple #[])/\V.heap[db]?=some (uB a (.map (some j.heap.size)))/\ak V j.heap.size (aJ b (i.drew.heap.size+1,s.extract 0 n.toNat) fs)/\ae (fun c=>c=db) j V):=fun f ad bi=>by
  have H:=(bi.block db (am R) (fun e=>U e.symm)).trans R;have a6:((f.setCell ⟨db,3,none⟩ (.int .i64 (-1))).setCell ⟨db,4,none⟩ (.int .i64 (-1))).heap[db]?=some (Oy a q d 1 o p):=by simpa using ai (ai H 3 (.int .i64 (-1))) 4 (.int .i64 (-1))
  have a8:ae (fun c=>c=db) f ((f.setCell ⟨db,3,none⟩ (.int .i64 (-1))).setCell ⟨db,4,none⟩ (.int .i64 (-1))):=ae.set (S:=fun c=>c=db) (b:=db) (ae.set (S:=fun c=>c=db) (b:=db) (ae.refl _ f) (il rfl) _ _) (il rfl) _ _;have av:=ad.keep a8 U (fun E D e=>by have:=ad.str E D;rw [e,H] at this;simp at this);exact⟨_,rfl,ab H,ag H,aa (((bs.out.mono (fun _ g _=>g.elim)).then bi (fun _ _ g=>ir g)).then a8 (fun _ _ g=>il g)),aa ⟨av,a6⟩,aa (up33 db a q (.slice (some ⟨d,0,none⟩) 1 o) p (.int .i64 (-1)) (.int .i64 (-1)) _ _ a6 av)⟩
 have bl:=aa X;have bz:=aa bd;clear A a0 a1 B G a2 a9 X bd Q a5 a4;have b1:=ab a7;have b2:=ab N;have b3:=ag N;have cr:=ab R;have cs:=ab ck;have cn:=ab O;go_enter func39,ntmps39
 go_wp2_with fail
 refine bu.out.mono ?_
 rintro e w' ⟨rfl,rfl⟩;go_wp2
 refine wp_loop_rounds 2 ?_
 rw [rounds_succ];go_upto_region 10 with fail
 rw [<-r];clear r bK b0 b5 b6 b7;go_cut [] (fun cq=>cq=l)
 case first=>
  go_region_law (refine aO (by rfl) 30 jad _ _ (by rfl) #[.int .i64 (IntKind.i64.wrap (J.tdiv 7)),.int .i64 (IntKind.i64.wrap (s.size+1))] (by simp only [List.map_toArray,List.map_cons,List.map_nil];rfl) (bv.out _) ?_;rintro e f ⟨rfl,rfl⟩;refine⟨_,rfl,?_⟩)
  all_goals (go_wp2_with fail;go_meet)
  all_goals exact u.symm
 case rest=>
  subst hcut;clear b1 b2 b3 u cp;go_upto_region 12 with fail
  clear cn;go_region_law (refine aO (by rfl) 59 io _ _ (by rfl) #[.map (some a),.agg #[.int .i64 1,.string (ay b),.string (s.extract 0 n.toNat)]] (by simp only [List.map_toArray,List.map_cons,List.map_nil];rfl) bo.out ?_;rintro e f ⟨rfl,ao,v⟩;refine⟨_,rfl,?_⟩;obtain⟨j,a3,b8,b9,W,bk,bF⟩:=bl.out f ao ⟨v.os,v.tape,v.output,v.size,v.block⟩;clear ao v)
  all_goals (
    go_wp2
    rw [rounds_succ];go_upto_region 15 with fail
    rw [<-a3];clear a3 cr cs b8 b9;go_wp2_with fail
    refine bF.out.mono ?_
    rintro e cU ⟨rfl,K,L,F⟩;have bw:=aa (aN K (aN L F));clear K L F;go_wp2
    go_end0
    obtain⟨K,L,F⟩:=bw.out;obtain⟨M,b4⟩:=bk.out;have ci:=bz.out;have bb:=W.out.size;have cw:=M.map.lt;refine⟨rfl,_,j.heap.size,?_,K,bb,M.keep F U (fun E D e=>?_),L,by omega,W.out.then F (fun _ _ g=>il g)⟩
    · exact lq ci (Nat.le_succ _)
    · have Z:=M.str E D;rw [e,b4] at Z;simp at Z)
structure OpG (w:World)(db mb nb:Nat)(pv:Value)(S:NP)(Q:World->Prop)(fs:Fs)(im:Bool->Option Ig)(l f:Int):Prop where
 hd:w.heap[db]?=some (OR mb nb pv l f)
 sy:SyG w db mb nb S Q l f
 hD:ak w nb fs
 hI:gW fs im
 some_:fs≠[]
 rel:∀ a b,im false=some a->im true=some b->b.turn=au a.turn\/a.turn=au b.turn
theorem OpG.kept {w w':World}{db e nb:Nat}{g:Value}{S:NP}{c:World->Prop}{fs:Fs}{d:Bool->Option Ig}{l f:Int}(a:OpG w db e nb g S c fs d l f)(b:B7 w w'):OpG w' db e nb g S c fs d l f:=
 ⟨(b.block db (am a.hd)).trans a.hd,a.sy.kept b,a.hD.kept (b.block nb a.hD.map.lt) (fun j i=>b.block _ (am (a.hD.str j i))),a.hI,a.some_,a.rel⟩
theorem qT (G B g db F nb:Nat)(M:Value)(S:NP)(z:World->Prop)(fs:Fs)(E:Bool->Option Ig)(l f:Int)(w:World)(U:w.heap[G]?=some (oW g))(C:w.heap[B]?=some (oG))(J:w.cell? ⟨g,0,none⟩=some (.iface 78 (.pointer (some ⟨db,0,none⟩))))(I:cC w g 1)(W:g≠db)(X:g≠nb)(K:∀ p∈fs,p.2.1≠g)(t:B≠g)(H:B≠db)(d:OpG w db F nb M S z fs E l f) :
  Calls prog 117 #[pO G 0,.pointer (some ⟨B,0,none⟩)] w fun e w'=>e=.returned .nilIface/\∃ (i:Ig) (a:Option Addr) (c:Nat),nW E i/\w'.heap[B]?=some (uv i.turn i.time (.slice a i.ks.length c))/\w'.ownsRow w.heap.size 175 13 (.slice a i.ks.length c) i.ks.length (fx i.es i.ks)/\w'.heap[db]?=some (ox F nb (aK l) (aK f))/\cC w' g 1/\(∀ j,(j<1\/260<=j)->w'.cell? ⟨g,j,none⟩=w.cell? ⟨g,j,none⟩/\w'.frozen? ⟨g,j,none⟩=w.frozen? ⟨g,j,none⟩)/\z w'/\ae (fun c=>c=B\/c=g\/c=db\/S c) w w':=by
 have N:=aa (jb6 g db F nb M S z fs E l f w J I W X K d.hd d.sy d.hD d.hI d.some_ d.rel);have V:¬S B:=fun D=>by
  have:=(d.sy.sm B D).2;rw [ab C 0] at this;cases this
 have P:=aa d.sy.qs;have Q:=ab U;have Y:=am C;clear J d I K;go_enter func117,ntmps117
 go_wp2_with fail
 refine N.out.mono ?_
 rintro e s ⟨i,a,c,u,rfl,o,v,x,q,y,r⟩;have A:=(r.block B Y (fun d=>d.elim t (fun d=>d.elim H V))).trans C;have T:=ab A;have Z:=ag A;have O:=aa (aN u (aN o (aN v (aN x (aN q (aN y r))))));clear u o v x q r y Q;go_wp2
 go_ret
 obtain⟨u,o,v,x,q,y,r⟩:=O.out;have m:∀ k,k≠B->(((s.setCell ⟨B,0,none⟩ (.int .u64 i.turn)).setCell ⟨B,1,none⟩ (.int .u64 i.time)).setCell ⟨B,2,none⟩ (.slice a i.ks.length c)).heap[k]?=s.heap[k]?:=fun k n=>(ac n _ _).trans ((ac n _ _).trans (ac n _ _));refine⟨rfl,i,a,c,u,by simpa using ai (ai (ai A 0 (.int .u64 i.turn)) 1 (.int .u64 i.time)) 2 (.slice a i.ks.length c),aq o (fun k n=>m k (fun e=>by have:=(aj o n).1;omega)),(m db (fun e=>H e.symm)).trans v,x.block (m g (fun e=>t e.symm)),fun j L=>⟨(World.cell?_of_block (w:=s) (m g (fun e=>t e.symm))).trans (q j L).1,(World.frozen?_of_block (w:=s) (m g (fun e=>t e.symm))).trans (q j L).2⟩,?_,?_⟩
 ·exact P.out s _ y (by simp) (fun R ad D=>m R (fun e=>by
     obtain⟨ao,d⟩:=D _ (by rw [e];exact T 0);cases d))
 refine ae.set (b:=B) (ae.set (b:=B) (ae.set (b:=B) ?_ (il (il rfl)) _ _) (il (il rfl)) _ _) (il (il rfl)) _ _
 exact r.mono (fun k d _=>ir d)
theorem pT (db T nb:Nat)(b3:Value)(S:NP)(C:World->Prop)(fs:Fs)(R:Bool->Option Ig)(l f:Int)(w:World)(d:OpG w db T nb b3 S C fs R l f) :
  Calls prog 76 #[.iface 78 (.pointer (some ⟨db,0,none⟩))] w fun e w'=>∃ (g:Nat) (i:Ig) (a:Option Addr) (c:Nat),e=.returned (.tuple #[pO g 0,OS i.turn i.time (.slice a i.ks.length c),.nilIface])/\w.heap.size<=g/\nW R i/\aY w' g db i.turn/\w'.ownsRow w.heap.size 175 13 (.slice a i.ks.length c) i.ks.length (fx i.es i.ks)/\w'.heap[db]?=some (ox T nb (aK l) (aK f))/\C w'/\ae (fun c=>c=db\/S c) w w':=by
 have dt:∀ (bb:Fn) (first a8:Array Value) (w:World),(Instr.makeFunc bb first a8).run prog w=.ok (.func bb first a8) w:=fun _ _ _ _=>rfl;obtain⟨U,bw,a4,b9,cb,cc,G,L⟩:=jC db;obtain⟨m,y⟩:∃ m,m=(((w.alloc (oG)).alloc (.cells U 230)).alloc (.cells #[.pointer (some ⟨w.heap.size+1,0,none⟩)] 122)).alloc (oG):=⟨_,rfl⟩;have bi:m.heap[w.heap.size]?=some (oG):=y▸aB (aB (aB (af _ _) _) _) _;have N:m.heap[w.heap.size+1]?=some (.cells U 230):=y▸aB (aB (aC (by simp)) _) _;have E:m.heap[w.heap.size+2]?=some (.cells #[.pointer (some ⟨w.heap.size+1,0,none⟩)] 122):=y▸aB (aC (by simp)) _;have bj:m.heap[w.heap.size+3]?=some (oG):=y▸aC (by simp);have bv:m.heap.size=w.heap.size+4:=by rw [y];simp
 have O:B7 w m:=y▸(((ba w).alloc (by simp) _).alloc (by simp;omega) _).alloc (by simp;omega) _;have dn:=am d.hd;have ao:∀ u,S u->u<w.heap.size:=fun u J=>(d.sy.sm u J).1;have V:=aa d.sy.qs;have dv:=d.hD.map.lt;have cV:∀ K∈fs,K.2.1<w.heap.size:=fun K av=>am (d.hD.str K av);obtain⟨o,t⟩:∃ o,o=m.alloc (OD):=⟨_,rfl⟩;have ad:B7 w o:=t▸O.alloc O.size _;have bu:o.heap.size=w.heap.size+5:=by rw [t];simp;omega
 have a3:o.heap[w.heap.size+1]?=some (.cells U 230):=t▸aB N _;have s:=ab a3;have D:=ag a3;have b6:cC o (w.heap.size+1) 1:=⟨⟨false,(s 1).trans b9,fun j H=>⟨0,(s _).trans (cc j H),fun d=>by cases d⟩⟩,(s 2).trans cb,fun j _=>D _⟩;have HG:=kS 117 #[.pointer (some ⟨w.heap.size+2,0,none⟩),.pointer (some ⟨w.heap.size+3,0,none⟩)] gj m (fun n=>∃ (i:Ig) (a:Option Addr) (c:Nat),nW R i/\n.heap[w.heap.size+3]?=some (uv i.turn i.time (.slice a i.ks.length c))/\n.ownsRow o.heap.size 175 13 (.slice a i.ks.length c) i.ks.length (fx i.es i.ks)/\n.heap[db]?=some (ox T nb (aK l) (aK f))/\cC n (w.heap.size+1) 1/\(∀ j,(j<1\/260<=j)->n.cell? ⟨w.heap.size+1,j,none⟩=o.cell? ⟨w.heap.size+1,j,none⟩/\n.frozen? ⟨w.heap.size+1,j,none⟩=o.frozen? ⟨w.heap.size+1,j,none⟩)/\C n/\ae (fun c=>c=w.heap.size+3\/c=w.heap.size+1\/c=db\/S c) o n) (by
   rw [<-t];refine (qT (w.heap.size+2) (w.heap.size+3) (w.heap.size+1) db T nb b3 S C fs R l f o (t▸aB E _) (t▸aB bj _) ((s 0).trans a4) b6 (by omega) (by omega) (fun K av e=>by have:=cV K av;omega) (by omega) (by omega) (d.kept ad)).mono ?_
   rintro e n ⟨rfl,i,a,c,c3,c4,c5,c6,c7,c8,c9,b4⟩;refine⟨rfl,?_,i,a,c,c3,c4,c5,c6,c7,c8,c9,b4⟩
   exact (b4.block m.heap.size (by omega) (fun d=>by
     rcases d with d | d | d | d
     · omega
     · omega
     · omega
     · have:=ao _ d;omega)).trans (t▸af _ _))
 have HG:=aa HG;have di:=aa O;have ch:=aa ad;have cp:=aa (aN bv bu);have cs:=aa (aN s (aN D (aN G L)));have a6:=aa a4;have cq:=aa t;clear d O ad bv bu a4 b9 cb cc G L b6 a3 s D t;go_enter func76,ntmps76
 go_upto_region 3 with fail
 rw [<-bw,<-y];clear y bw;go_wp2_with fail
 refine HG.out.mono ?_
 rintro e p ⟨rfl,n,⟨i,a,c,bF,bK,a0,b0,b1,a1,b2,a2⟩,bo,Q⟩;obtain⟨dR,dN⟩:=cp.out;obtain⟨s,D,G,L⟩:=cs.out;have z:∀ k,k≠m.heap.size->p.heap[k]?=n.heap[k]?:=fun k I=>by rw [Q,ac I]
 have W:∀ k,k<m.heap.size->k≠w.heap.size+3->k≠w.heap.size+1->k≠db->¬S k->p.heap[k]?=m.heap[k]?:=fun k I cX c0 c1 c2=>(z k (by omega)).trans ((a2.block k (by omega) (fun d=>d.elim cX (fun d=>d.elim c0 (fun d=>d.elim c1 c2)))).trans (by rw [cq.out];exact ah _ _ I));have bd:=(W w.heap.size (by omega) (by omega) (by omega) (by omega) (fun d=>by have:=ao _ d;omega)).trans bi;have X:=(W (w.heap.size+2) (by omega) (by omega) (by omega) (by omega) (fun d=>by have:=ao _ d;omega)).trans E;have Y:=(z (w.heap.size+3) (by omega)).trans bK;have bg:=(z db (by omega)).trans b0;have M:p.heap[w.heap.size+1]?=n.heap[w.heap.size+1]?:=z _ (by omega);have bz:ae (fun c=>c=db\/S c) w p:=by
  rw [Q];refine ae.set (b:=m.heap.size) ?_ (ir (by omega)) _ _
  exact (ae.of_below ch.out).then a2 (fun i ds d=>by
    rcases d with d | d | d | d
    · omega
    · omega
    · exact il d
    · exact ir d)
 have x:∀ j,(j<1\/260<=j)->p.cell? ⟨w.heap.size+1,j,none⟩=U[j]?/\p.frozen? ⟨w.heap.size+1,j,none⟩=false:=fun j H=>⟨(World.cell?_of_block (w:=n) M).trans ((a1 j H).1.trans (s j)),(World.frozen?_of_block (w:=n) M).trans ((a1 j H).2.trans (D j))⟩;have Z:cC p (w.heap.size+1) 1:=b1.block M;obtain⟨r,F⟩:∃ r,r=p.setCell ⟨w.heap.size+1,260,none⟩ (.int .u64 i.turn):=⟨_,rfl⟩;have bl:aY r (w.heap.size+1) db i.turn:=by
  rw [F];refine⟨fun j H=>?_,(World.cell?_setCell_other _ _ _ _ (by simp)).trans ((x 0 (il (by omega))).1.trans a6.out),Z.set (ir (by omega)) _,World.cell?_setCell_same _ _ _ ((x 260 (ir (by omega))).1.trans G),(World.cell?_setCell_other _ _ _ _ (by simp)).trans ((x 261 (ir (by omega))).1.trans L)⟩
  rw [World.frozen?_setCell];by_cases N:j<1\/260<=j
  ·exact (x j N).2
  ·have:=Z.fro (j - 1) (by omega);rwa [show 1+(j - 1)=j by omega] at this
 have B:∀ k,k≠w.heap.size+1->r.heap[k]?=p.heap[k]?:=fun k I=>by rw [F,ac I]
 have b7:=(B w.heap.size (by omega)).trans bd;have dd:=(B (w.heap.size+2) (by omega)).trans X;have df:=(B (w.heap.size+3) (by omega)).trans Y;have b8:=(B db (by omega)).trans bg;have a7:C r:=by
  have ct:C p:=V.out n p b2 (by rw [Q];simp) (fun u _ J=>z u (fun e=>by
    obtain⟨b5,d⟩:=J _ (by rw [e];exact ab bo 0);cases d))
  rw [F];exact V.out.set ct ((x 0 (il (by omega))).1.trans a6.out) (fun b5 d=>by cases d) _ _
 have cl:=aa a7;clear a7;have bk:ae (fun c=>c=db\/S c) w r:=F▸ae.set (b:=w.heap.size+1) bz (ir (by omega)) _ _;have bs:r.ownsRow o.heap.size 175 13 (.slice a i.ks.length c) i.ks.length (fx i.es i.ks):=aq a0 (fun q A=>by
   have:=(aj a0 A).1;exact (B q (by omega)).trans (z q (by omega)))
 have cv:=(x 260 (ir (by omega))).1.trans G;have cw:=(x 260 (ir (by omega))).2;have cx:=ab X;have cy:=ab Y;have cn:=aa bl;have ci:=aa bk;have ck:=aa bF;have a5:=aa bs;have cr:=aa b8;clear bo Q bF bK a0 b0 b1 a1 b2 a2 z W bg M bz x Z bl B b8 bk bs s D G L bi N E bj;go_upto_region 7 with fail
 rw [<-F];clear F cv cw cx cy bd X Y;have a9:=ab b7;have cG:=ag b7;have dk:=ab dd;have dl:=ab df;go_region
 all_goals go_wp2
 all_goals refine bodyPost_ret (v:=.tuple #[.pointer (some ⟨w.heap.size+1,0,none⟩),OS i.turn i.time (.slice a i.ks.length c),.nilIface]) (by simp [results,results76,go_sem,a9,cG]) rfl ?_
 all_goals (
   have P:∀ q,q≠w.heap.size->(((r.drew.setCell ⟨w.heap.size,0,none⟩ (.int .u64 i.turn)).setCell ⟨w.heap.size,1,none⟩ (.int .u64 i.time)).setCell ⟨w.heap.size,2,none⟩ (.slice a i.ks.length c)).heap[q]?=r.heap[q]?:=fun q A=>(ac A _ _).trans ((ac A _ _).trans (ac A _ _));refine⟨w.heap.size+1,i,a,c,rfl,by omega,ck.out,cn.out.kept (P _ (by omega)),?_,(P db (by omega)).trans cr.out,?_,?_⟩
   · have E:=aq a5.out (fun q A=>P q (by have:=(aj a5.out A).1;omega));refine⟨E.1,?_⟩
     rcases E.2 with d | ⟨q,cz,cF,cR,dm,cU⟩
     · exact il d
     · exact ir ⟨q,cz,cF,cR,by omega,cU⟩
   · exact V.out r _ cl.out (by simp) (fun u _ J=>P u (fun e=>by
       obtain⟨b5,d⟩:=J _ (by rw [e];exact a9 0);cases d))
   · refine ae.drew (ae.set (b:=w.heap.size) (ae.set (b:=w.heap.size) (ae.set (b:=w.heap.size) ?_ (ir lz) _ _) (ir lz) _ _) (ir lz) _ _)
     exact ci.out)
theorem jO (db a0 nb:Nat)(ci:Value)(S:NP)(Q:World->Prop)(fs:Fs)(M:Bool->Option Ig)(l f blk:Int)(w:World)(k:OpG w db a0 nb ci S Q fs M l f)(bF:∀ b i,M b=some i->i.ks.Nodup) :
  Calls prog 50 #[.iface 78 (.pointer (some ⟨db,0,none⟩)),.int .u64 blk] w fun e w'=>∃ (g j:Nat) (i:Ig),e=.returned (.tuple #[uW i.time blk j g,.nilIface])/\nW M i/\w.heap.size<=g/\w.heap.size<=j/\g≠j/\aH w' j (eC i.es i.ks)/\aY w' g db i.turn/\w'.heap[db]?=some (ox a0 nb (aK l) (aK f))/\Q w'/\ae (fun c=>c=db\/S c) w w':=by
 have eb:=@run_makeMap prog;obtain⟨u,D⟩:∃ u,u=w.alloc (OG):=⟨_,rfl⟩;have a7:u.heap[w.heap.size]?=some (OG):=D▸af _ _;have V:B7 w u:=D▸ba w;have b3:u.heap.size=w.heap.size+1:=by rw [D];simp
 have d7:=am k.hd;have cy:=aa (pT db a0 nb ci S Q fs M l f u (k.kept V));have cX:∀ b,S b->b<w.heap.size:=fun b av=>(k.sy.sm b av).1;have cF:=aa k.sy.qs;have cq:=aa V;have cG:=aa b3;have cs:=aa k.hI;have cx:=aa bF;clear k V b3 bF;go_enter func50,ntmps50
 go_upto_region 1 with fail
 rw [<-D];clear D;go_wp2_with fail
 refine cy.out.mono ?_
 rintro e t ⟨g,i,T,c,rfl,bl,A,I,ad,bj,b0,K⟩;have ck:=cG.out;obtain⟨o,y⟩:∃ o,o=(t.alloc (uv i.turn i.time (.slice T i.ks.length c))).alloc (.map #[] 0):=⟨_,rfl⟩;obtain⟨j,L⟩:∃ j,j=t.heap.size+1:=⟨_,rfl⟩;have b2:=K.size;have U:=(K.block w.heap.size (by omega) (fun k=>k.elim (by omega) (fun k=>by have:=cX _ k;omega))).trans a7;have B:∀ m,m<t.heap.size->o.heap[m]?=t.heap[m]?:=fun m r=>by rw [y,ah _ _ (by simp;omega),ah _ _ r]
 have cl:=(B w.heap.size (by omega)).trans U;have a2:o.heap[t.heap.size]?=some (uv i.turn i.time (.slice T i.ks.length c)):=y▸aB (af _ _) _;have cn:o.heap[j]?=some (.map #[] 0):=by rw [L,y];exact aC (by simp)
 have bg:aY o g db i.turn:=I.kept (B g I.lt);have bK:o.ownsRow u.heap.size 175 13 (.slice T i.ks.length c) i.ks.length (fx i.es i.ks):=aq ad (fun m r=>B m (aj ad r).2);have bk:=(B db (by omega)).trans bj;have cz:=aa (aN b0 (aN (ab U 0) B));clear b0;have a9:ae (fun c=>c=db\/S c) w o:=by rw [y];exact (((ae.of_below cq.out).then K (fun _ _ k=>k)).alloc _).alloc _
 have bo:=I.lt;have b4:o.heap.size=t.heap.size+2:=by rw [y];simp
 have X:i.ok/\i.ks.Nodup:=by
  rcases A with A | ⟨_,rfl⟩
  ·exact⟨((cs.out _).1 i A.1).2.1,cx.out _ i A.1⟩
  ·exact⟨⟨by simp,by simp,by simp,(fun d s=>by cases s)⟩,List.nodup_nil⟩
 have Y:i.ok:=X.1;have bs:i.ks.Nodup:=X.2;clear X;have a6:=aa bg;have cv:=aa a9;have P:=aa bK;have a3:=aa bk;have H:=aa (aN bl (aN b2 (aN bo (aN L (aN b4 ck)))));have cr:=aa A;have O:=aa (aN Y bs);have d9:(i.ks.length:Int)<=12:=by have:=Y.len;omega
 clear I ad bj K bg a9 bK bk a7 U bl b2 bo ck B A Y bs b4;go_upto_region 5 with fail
 rw [<-y];rw [<-L];clear y L;have d6:=ab a2;go_wp2_with fail
 go_loopw [26] (fun N wr=>∃ a:Nat,a<=i.ks.length/\N=.int .i64 a/\aH wr j (eC i.es (i.ks.take a))/\ae (fun c=>c=j) o wr) (fun N _=>i.ks.length - (intOf N).toNat)
 case atStart=>exact⟨0,Nat.zero_le _,rfl,ap.empty cn,ae.refl _ _⟩
 case round=>
  obtain⟨a,c2,rfl,G,s⟩:=hrel;by_cases Z:a<i.ks.length
  ·obtain⟨b6,b7,b8,b9,cb,cc⟩:=H.out;have c4:j<o.heap.size:=by omega
   obtain⟨d,F⟩:∃ d,i.ks[a]?=some d:=⟨_,List.getElem?_eq_getElem Z⟩;obtain⟨q,ao⟩:∃ q,q=aL i.es d:=⟨_,rfl⟩;obtain⟨n,ek,c8,ef,c9⟩:=P.out.form (by omega);injection c8 with c7 ei eg;subst c7;have c5:n≠j:=fun e=>jaz P.out (x:=j) (by rw [<-e];rfl) cn;have p:∀ m,m<13->wr.cell? ⟨n,a * 13+m,none⟩=(ft d ++ fw q)[m]?:=fun m r=>by
    rw [World.cell?_of_block (w:=o) (s.block n c9 c5),P.out.cellAt (a * 13+m) (by omega),we i.es i.ks a d F m r,ao]
   have dl:wr.cell? ⟨n,a * 13,none⟩=some (.int .u8 d.k0):=p 0 (by omega);have dm:wr.cell? ⟨n,a * 13+1,none⟩=some (.int .u8 d.k1):=p 1 (by omega);have dv:wr.cell? ⟨n,a * 13+2,none⟩=some (.int .u8 d.k2):=p 2 (by omega);have dN:wr.cell? ⟨n,a * 13+3,none⟩=some (.int .u8 d.k3):=p 3 (by omega);have dR:wr.cell? ⟨n,a * 13+4,none⟩=some (.int .u8 d.k4):=p 4 (by omega);have d0:wr.cell? ⟨n,a * 13+5,none⟩=some (.int .u8 d.k5):=p 5 (by omega);have d1:wr.cell? ⟨n,a * 13+6,none⟩=some (.int .u8 d.k6):=p 6 (by omega);have d2:wr.cell? ⟨n,a * 13+7,none⟩=some (.int .u8 d.k7):=p 7 (by omega);have d3:wr.cell? ⟨n,a * 13+8,none⟩=some (.int .u8 q.kd):=p 8 (by omega);have d4:wr.cell? ⟨n,a * 13+9,none⟩=some (.int .u64 q.x):=p 9 (by omega);have dn:wr.cell? ⟨n,a * 13+10,none⟩=some (.int .u64 q.y):=p 10 (by omega);have ds:wr.cell? ⟨n,a * 13+11,none⟩=some (.int .u64 q.lv):=p 11 (by omega);have dt:wr.cell? ⟨n,a * 13+12,none⟩=some (.int .u64 q.wn):=p 12 (by omega);have bv:d.ok:=(O.out.1.rec_ d (List.mem_of_getElem? F)).1;have bu:d ∉ i.ks.take a:=fun c3=>by
    have k:=O.out.2;rw [<-List.take_append_drop a i.ks] at k;have c1:(i.ks.drop a)[0]?=some d:=by rw [List.getElem?_drop,Nat.add_zero];exact F
    exact (List.nodup_append.1 k).2.2 d c3 d (List.mem_of_getElem? c1) rfl
   have b5:i.ks.take (a+1)=i.ks.take a ++ [d]:=by rw [List.take_add_one,F];rfl
   obtain⟨z,E⟩:∃ z,z=wr.alloc (Oh d q):=⟨_,rfl⟩;obtain⟨R,W⟩:∃ R,R=wr.heap.size:=⟨_,rfl⟩;have c6:z.heap[R]?=some (Oh d q):=by rw [W,E];exact af _ _
   have bz:aH z j (eC i.es (i.ks.take a)):=ap.kept G (E▸ah _ _ (ap.lt G));have bw:(eC i.es (i.ks.take a)).length<=1000:=by unfold eC;rw [List.length_map,List.length_take];have:=O.out.1.len;omega
   obtain⟨a1,b1,bi,bb⟩:=ap.store mF bz bw bv (q,q) jF;have ej:(Instr.mapUpdate 121 (.map (some j)) (om d) (oL q q)).run prog z=.ok () a1:=b1;have bd:aH a1 j (eC i.es (i.ks.take (a+1))):=by rw [b5,<-jcg i.es _ d bu,<-ao];exact bb
   have a8:ae (fun c=>c=j) o a1:=(E▸s.alloc _:ae (fun c=>c=j) o z).then (ae.turned bi) (fun _ _ k=>k);have cw:=aa bd;have ct:=aa a8;have a4:=aa Z;have d8:(a:Int)<(i.ks.length:Int):=by omega
   clear b1 bb bi bd a8 bz bw b5 bu bv p G s F ao b6 b7 b8 b9 cb cc c4 c2 Z;go_upto_region 8 with fail
   rw [<-E,<-W];clear E W dl dm dv dN dR d0 d1 d2 d3 d4 dn ds dt;have cV:=ab c6;go_wp2
   go_roundw
   case rel=>exact⟨a+1,by have:=a4.out;omega,by go_num,cw.out,ct.out⟩
   case measure=>have:=a4.out;simp [intOf];omega
  ·obtain rfl:a=i.ks.length:=by omega
   have ch:w.heap.size≠j:=by have:=H.out;omega
   have dd:t.heap.size≠j:=by have:=H.out;omega
   have cp:=(s.block w.heap.size (am cl) ch).trans cl;have d5:=(s.block t.heap.size (am a2) dd).trans a2;have cR:=ab cp;have cU:=ag cp;have cV:=ab d5;have a5:=aa G;have C:=aa s;clear G s;go_wp2
   rw [List.take_length] at a5;obtain⟨b6,b7,b8,b9,cb,cc⟩:=H.out;refine bodyPost_ret (v:=.tuple #[uW i.time blk j g,.nilIface]) (by simp [results,results50,go_sem,cR,cU]) rfl ⟨g,j,i,rfl,cr.out,by omega,by omega,by omega,?_⟩
   have J:∀ m,m≠w.heap.size->((((wr.setCell ⟨w.heap.size,0,none⟩ (.int .u64 i.time)).setCell ⟨w.heap.size,1,none⟩ (.int .u64 blk)).setCell ⟨w.heap.size,2,none⟩ (.map (some j))).setCell ⟨w.heap.size,3,none⟩ (.pointer (some ⟨g,0,none⟩))).heap[m]?=wr.heap[m]?:=fun m r=>(ac r _ _).trans ((ac r _ _).trans ((ac r _ _).trans (ac r _ _)));refine⟨ap.kept a5.out (J j (fun e=>ch e.symm)),a6.out.kept ((J g (by omega)).trans (C.out.block g a6.out.lt (by omega))),(J db (by omega)).trans ((C.out.block db (am a3.out) (by omega)).trans a3.out),?_,?_⟩
   ·obtain⟨df,di,dk⟩:=cz.out;have el:=C.out.size;exact cF.out t _ df (by simp;omega) (fun b c0 av=>(J b (fun e=>by
      obtain⟨N,k⟩:=av _ (by rw [e];exact di);cases k)).trans ((C.out.block b (by omega) (by omega)).trans (dk b c0)))
   refine ae.set (b:=w.heap.size) (ae.set (b:=w.heap.size) (ae.set (b:=w.heap.size) (ae.set (b:=w.heap.size) ?_ (ir lz) _ _) (ir lz) _ _) (ir lz) _ _) (ir lz) _ _
   exact cv.out.then C.out (fun m r k=>by omega)
theorem jN (db n nb:Nat)(fs:Fs)(j:Bool->Option Ig)(l f blk:Int)(w:World)(a:OpF w db n nb fs j l f)(y:∀ b i,j b=some i->i.ks.Nodup) :
  Calls prog 50 #[.iface 78 (.pointer (some ⟨db,0,none⟩)),.int .u64 blk] w fun e w'=>∃ (g d:Nat) (i:Ig),e=.returned (.tuple #[uW i.time blk d g,.nilIface])/\nW j i/\w.heap.size<=g/\w.heap.size<=d/\g≠d/\aH w' d (eC i.es i.ks)/\aY w' g db i.turn/\w'.heap[db]?=some (ox n nb (aK l) (aK f))/\ae (fun c=>c=db) w w':=by
 refine (jO db n nb _ (fun _=>False) (fun _=>True) fs j l f blk w ⟨a.hd,⟨fun o x=>?_,fun b a=>a.elim,fun a=>a,fun _ _ _ _ _=>trivial⟩,a.hD,a.hI,a.some_,a.rel⟩ y).mono ?_
 ·refine (rI db _ _ l f o ((x.block db (am a.hd)).trans a.hd) a.hl a.hf).mono ?_
  rintro e z ⟨rfl,k,m⟩;exact⟨rfl,k,trivial,m.mono (fun _ a _=>il a)⟩
 ·rintro e w' ⟨g,d,i,k,m,p,q,r,s,t,u,_,v⟩;exact⟨g,d,i,k,m,p,q,r,s,t,u,v.mono (fun _ a _=>a.elim id False.elim)⟩
structure Rec (blk:Int)(L L':Ld):Prop where
 time:L'.time<=L.time
 adm:L'.adm=0
 none_:∀ k,aZ k L.ks=none->aZ k L'.ks=none
 some_:∀ k z,aZ k L.ks=some z->∃ h,aZ k L'.ks=some h/\gL blk z h/\(h.kd=2->h.wn<=L'.time / h.y)
theorem dL (a:Es):∀ (ks:List Ky) (k:Ky),ar k (eC a ks)=if k∈ks then some (aL a k,aL a k) else none
 | [],k=>by simp [eC,ar]
 | k0 :: r,k=>by
  have d:=dL a r k;unfold eC at d ⊢;rw [List.map_cons];show (if k0=k then some (aL a k0,aL a k0) else ar k (r.map fun k=>(k,(aL a k,aL a k))))=_;by_cases c:k0=k
  ·subst c;rw [if_pos rfl,if_pos (by simp)]
  ·rw [if_neg c,d];by_cases b:k∈r
   ·rw [if_pos b,if_pos (by simp [b])]
   ·rw [if_neg b,if_neg (by simp [b];exact fun e=>c e.symm)]
theorem kU (a:Es)(ks:List Ky)(k:Ky)(b:k∈ks):aL (eC a ks) k=aL a k:=by
 show ((ar k (eC a ks)).map Prod.snd).getD ⟨0,0,0,0,0⟩=_;rw [dL,if_pos b];rfl
theorem ki (a:Es)(ks:List Ky):(eC a ks).map Prod.fst=ks:=by
 unfold eC;rw [List.map_map];exact List.map_id'' (fun _=>rfl) ks
theorem kQ {c:de}{D:Int}(o:c.ok)(A:c.has D):∃ (v:Bool->Option Ig) (i:Ig),gW c.fsD v/\(∀ a b,v false=some a->v true=some b->b.turn=au a.turn\/a.turn=au b.turn)/\(∀ b g,v b=some g->g.ks.Nodup)/\(∀ g,nW v g->g=i)/\i.ok/\i.ks.Nodup/\i.turn=c.turn/\i.es=c.es/\i.ks.Perm (c.es.map Prod.fst)/\i.time<=c.time/\((∀ p∈c.es,p.2.2.kd=2->p.2.2.wn<=i.time / p.2.2.y)/\D<=i.time)/\((∃ a,ar (c.turn % 2==1) c.fsD=some (a,strOfNums i.bytes))\/(∀ b p,ar b c.fsD=some p->ky p.2)/\i.ks=[]/\i.time=0/\i.turn=0):=by
 rcases A.img with ⟨Z,H,a2,a3⟩ | ⟨ad,Y,a,l,m,z,L,M⟩
 ·refine⟨fun _=>none,⟨0,0,[],[]⟩,fun b=>⟨(fun i d=>by cases d),fun _ p n=>Z b p n⟩,(fun a b d=>by cases d),(fun b g d=>by cases d),fun g e=>?_,⟨by simp,by simp,by simp,(fun a5 a0=>by cases a0)⟩,List.nodup_nil,a3.symm,H.symm,by rw [H];exact List.Perm.nil,o.time.1,⟨fun p n=>?_,a2⟩,ir ⟨Z,rfl,rfl,rfl⟩⟩
  ·rcases e with e | e
   ·exact absurd e.1 (fun d=>by cases d)
   ·exact e.2
  ·rw [H] at n;cases n
 obtain⟨J,K⟩:=igOf A.res o.turn o.time.2 o.nd o.key o.len l m.1 z;obtain⟨p,n,R⟩:∃ p,ar (c.turn % 2==1) c.fsD=some p/\p.2=strOfNums (aX c.turn ad c.es Y):=⟨_,L,rfl⟩;obtain⟨i,x,y,r,T,U,V,C,X,S⟩:∃ i:Ig,i.ok/\i.ks.Nodup/\i.turn=c.turn/\i.es=c.es/\i.ks.Perm (c.es.map Prod.fst)/\i.time<=c.time/\p.2=strOfNums i.bytes/\(∀ p∈c.es,p.2.2.kd=2->p.2.2.wn<=i.time / p.2.2.y)/\D<=i.time:=⟨⟨c.turn,ad,c.es,Y⟩,J,K,rfl,rfl,l,z,R,M,m.2⟩;clear l m z L M J K R;have W:∃ a,ar (c.turn % 2==1) c.fsD=some (a,strOfNums i.bytes):=⟨p.1,by rw [n,<-C]⟩;obtain⟨f,w⟩:∃ f,f=(c.turn % 2==1):=⟨_,rfl⟩;have Q:(i.turn % 2==1)=f:=by rw [r,w]
 rw [<-w] at n;have O:=A.old;rw [<-w] at O;have N:∀ b,b≠f->b=!f:=fun b d=>by cases b <;> cases f <;> simp at d ⊢
 have a4:(!f)≠f:=by cases f <;> simp
 have ao:∀ (j:Ig),au j.turn=c.turn->¬j.turn=au i.turn:=fun j d I=>by
  rw [r] at I;rw [I] at d;have:=o.turn;unfold au at d;omega
 have av:(∀ t,ar (!f) c.fsD=some t->ky t.2)\/∃ (q:Nat×ByteArray) (j:Ig),ar (!f) c.fsD=some q/\j.ok/\j.ks.Nodup/\au j.turn=c.turn/\q.2=strOfNums j.bytes:=by
  cases B:ar (!f) c.fsD with
  | none=>exact il (fun t u=>by cases u)
  | some q=>
   rcases O q B with d | ⟨j,E,F,s,G⟩
   ·exact il (fun t u=>by cases u;exact d)
   ·exact ir ⟨q,j,rfl,E,F,s,G⟩
 rcases av with a1 | ⟨q,j,B,E,F,s,G⟩
 ·refine⟨fun b=>if b=f then some i else none,i,fun b=>?_,fun a b l m=>?_,fun b g d=>?_,fun g e=>?_,x,y,r,T,U,V,⟨X,S⟩,il W⟩
  ·by_cases d:b=f
   ·subst d;refine⟨fun g e=>?_,fun e=>?_⟩
    ·dsimp only at e;rw [if_pos rfl] at e;cases e
     exact⟨⟨p,n,C⟩,x,Q⟩
    ·dsimp only at e;rw [if_pos rfl] at e;cases e
   ·have:=N b d;subst this;refine⟨fun g e=>?_,fun _ t u=>?_⟩
    ·dsimp only at e;rw [if_neg d] at e;cases e
    ·exact a1 t u
  ·exfalso
   cases f
   ·simp at m
   ·simp at l
  ·dsimp only at d;by_cases k:b=f
   ·rw [if_pos k] at d;cases d;exact y
   ·rw [if_neg k] at d;cases d
  ·have e:=e.resolve_right (fun d=>by have:=d.1 f;simp at this);have d:=e.1;dsimp only at d;by_cases k:(g.turn % 2==1)=f
   ·rw [if_pos k] at d;cases d;rfl
   ·rw [if_neg k] at d;cases d
 ·have P:(j.turn % 2==1)=!f:=by
   have:=fu j.turn;rw [s,<-w] at this;rw [this,Bool.not_not]
  refine⟨fun b=>if b=f then some i else some j,i,fun b=>?_,fun a b l m=>?_,fun b g d=>?_,fun g e=>?_,x,y,r,T,U,V,⟨X,S⟩,il W⟩
  ·by_cases d:b=f
   ·subst d;refine⟨fun g e=>?_,fun e=>?_⟩
    ·dsimp only at e;rw [if_pos rfl] at e;cases e
     exact⟨⟨p,n,C⟩,x,Q⟩
    ·dsimp only at e;rw [if_pos rfl] at e;cases e
   ·have:=N b d;subst this;refine⟨fun g e=>?_,fun e=>?_⟩
    ·dsimp only at e;rw [if_neg d] at e;cases e
     exact⟨⟨q,B,G⟩,E,P⟩
    ·dsimp only at e;rw [if_neg d] at e;cases e
  ·cases f
   ·simp at l m;subst l m;exact ir (by rw [r,s])
   ·simp at l m;subst l m;exact il (by rw [r,s])
  ·dsimp only at d;by_cases k:b=f
   ·rw [if_pos k] at d;cases d;exact y
   ·rw [if_neg k] at d;cases d;exact F
  ·have e:=e.resolve_right (fun d=>by have:=d.1 f;simp at this);have d:=e.1;dsimp only at d;by_cases k:(g.turn % 2==1)=f
   ·rw [if_pos k] at d;cases d;rfl
   ·rw [if_neg k] at d;cases d
    exfalso
    refine ao j s (e.2 i ?_)
    dsimp only;rw [P,Bool.not_not,if_pos rfl]
theorem gW.sm {fsD fsN:Fs}{j:Bool->Option Ig}(i:gW fsD j)(o:Sm fsD fsN):gW fsN j:=fun c=>by
 have a:=o c;refine⟨fun p m=>?_,fun n g f=>?_⟩
 ·obtain⟨⟨g,f,k⟩,l⟩:=(i c).1 p m;rw [f] at a;cases b:ar c fsN with
  | none=>rw [b] at a;cases a
  | some d=>
   rw [b] at a;have e:d.2=g.2:=by simpa using a
   exact⟨⟨d,rfl,e.trans k⟩,l⟩
 ·rw [f] at a;cases b:ar c fsD with
  | none=>rw [b] at a;cases a
  | some d=>
   rw [b] at a;have e:g.2=d.2:=by simpa using a
   rw [e];exact (i c).2 n d b
theorem jdZ (db l nb:Nat)(blk:Int)(D:Dx)(i:de)(w:World)(o:i.ok)(a7:i.hx D)(a9:i.blk=blk)(fsN:Fs)(bi:Sm i.fsD fsN)(cc:fsN≠[])(u:w.heap[db]?=some (oB l nb))(x:ak w l i.fsD)(s:ak w nb fsN)(b8:l≠nb) :
  Calls prog 34 #[.iface 78 (.pointer (some ⟨db,0,none⟩)),.int .u64 blk] w fun e w'=>∃ a1 G F,e=.returned (.tuple #[pO a1 0,.nilIface])/\w.heap.size<=a1/\aU db blk ⟨G.time,true⟩ (bu 3999999) w' 0 a1 G F/\(Rec blk i.ld G/\D.t<=G.time/\(D.z=true->∀ k z,aZ k i.ld.ks=some z->aZ k G.ks=some z))/\(∀ b,F b->b=db\/b=l\/b=nb\/(∃ p∈i.fsD ++ fsN,b=p.2.1)\/w.heap.size<=b)/\ae (fun c=>c=db) w w':=by
 obtain⟨bj,cs,a3,a5,a6,N,q,P,B,Q,R,S,C,T⟩:=kQ o a7.1;have a4:gW fsN bj:=a3.sm bi;have bv:=aa (jN db l nb fsN bj (-1) (-1) blk w ⟨u,by omega,by omega,s,a4,cc,a5⟩ a6);have cq:=am u;have b7:=x.map.lt;have ch:=s.map.lt;have b6:l≠db:=x.map.ne u;have cb:nb≠db:=s.map.ne u;have bg:∀ p∈i.fsD ++ fsN,p.2.1<w.heap.size/\p.2.1≠db:=fun p f=>by
  rcases List.mem_append.1 f with f | f
  ·exact⟨am (x.str p f),fun e=>by have:=x.str p f;rw [e,u] at this;simp at this⟩
  ·exact⟨am (s.str p f),fun e=>by have:=s.str p f;rw [e,u] at this;simp at this⟩
 have bo:=aa x;have bs:=aa s;have bk:=aa o;have m:=aa bg;have bl:=aa (aN N (aN q (aN P (aN B (aN Q (aN R (aN S (aN C T))))))));clear u x s o bg a3 a4 a5 a6 N q P B Q R S T C;go_enter func34,ntmps34
 go_wp2_with fail
 refine bv.out.mono ?_
 rintro e v ⟨H,J,a,rfl,V,av,a0,W,K,L,X,E⟩;have bw:=aa (aN V (aN av (aN a0 (aN W (aN K (aN L (aN X E)))))));clear V av a0 W K L X E;go_wp2
 go_ret2
 obtain⟨V,av,a0,W,K,L,X,E⟩:=bw.out;obtain⟨N,q,P,B,Q,R,S,C,T⟩:=bl.out;obtain rfl:=N a V;have o:=bk.out;have ct:=E.size;have bz:=L.lt;have ck:=ap.lt K;obtain⟨n,y⟩:∃ n,n=(v.alloc (Uv a.time blk J H)).alloc (Ud a.time blk J H):=⟨_,rfl⟩;have Y:∀ k,k<v.heap.size->n.heap[k]?=v.heap[k]?:=fun k g=>by rw [y,ah _ _ (by simp;omega),ah _ _ g]
 have U:∀ k,k<w.heap.size->k≠db->n.heap[k]?=w.heap[k]?:=fun k g b9=>(Y k (by omega)).trans (E.block k g b9);have ci:n.heap[v.heap.size+1]?=_:=y▸aC (by simp);have cr:n.heap.size=v.heap.size+2:=by rw [y];simp
 have bK:ae (fun c=>c=db) w n:=y▸(E.alloc _).alloc _;have b4:=(Y db (by omega)).trans X;have b0:ak n l i.fsD:=bo.out.kept (U l b7 b6) (fun p f=>U _ (m.out p (List.mem_append_left _ f)).1 (m.out p (List.mem_append_left _ f)).2);have b1:ak n nb fsN:=bs.out.kept (U nb ch cb) (fun p f=>U _ (m.out p (List.mem_append_right _ f)).1 (m.out p (List.mem_append_right _ f)).2);have O:∀ k,k∈a.ks↔∃ r∈i.es,r.1=k:=fun k=>by
  rw [R.mem_iff,List.mem_map]
 have ad:∀ r∈i.es,aL a.es r.1=r.2.2:=fun r j=>by
  rw [Q];unfold aL;rw [aV o.nd j];rfl
 have j:∀ k∈a.ks,k.ok/\(aL a.es k).ok:=q.rec_;have A:∀ p∈eC a.es a.ks,∃ k∈a.ks,p=(k,(aL a.es k,aL a.es k)):=fun p f=>by
  obtain⟨k,g,e⟩:=List.mem_map.1 f;exact⟨k,g,e.symm⟩
 have a8:U7 blk:=a9▸o.blk;have bb:(⟨a.time,0,blk,eC a.es a.ks,a.turn,i.fsD,fsN⟩:de).has a.time:=by
  refine⟨fun p f=>?_,?_,?_⟩
  ·obtain⟨k,g,rfl⟩:=A p f;exact gL.same (j k g).2 a8.1
  ·rcases T with ⟨a2,b2⟩ | ⟨cl,cn,cv,cp⟩
   case inr=>
    refine il ⟨cl,?_,by show a.time<=0;omega,cp⟩
    show eC a.es a.ks=[];rw [cn];rfl
   refine ir ⟨a.time,a.ks,a2,?_,⟨q.time.1,Int.le_refl _⟩,Int.le_refl _,?_,fun p f=>?_⟩
   ·show a.ks.Perm ((eC a.es a.ks).map Prod.fst);rw [ki]
   ·show ar (a.turn % 2==1) i.fsD=some (a2,strOfNums (aX a.turn a.time (eC a.es a.ks) a.ks));rw [fI a.turn a.time (eC a.es a.ks) a.es a.ks (fun k g=>kU _ _ k g),B,b2];unfold Ig.bytes;rw [B]
   ·obtain⟨k,g,rfl⟩:=A p f;obtain⟨r,bd,e⟩:=(O k).1 g;have:=C.1 r bd;rw [<-ad r bd,e] at this;exact this
  ·show ∀ p,ar (!(a.turn % 2==1)) i.fsD=some p->_;rw [B];exact o.dur.old
 have b3:(⟨a.time,0,blk,eC a.es a.ks,a.turn,i.fsD,fsN⟩:de).ok:=by
  refine⟨q.time,by simp,a8,q.turn,by show ((eC a.es a.ks).map Prod.fst).Nodup;rw [ki];exact P,fun p f=>?_,fun p f=>?_,fun p f=>?_,by show (eC a.es a.ks).length<=12;unfold eC;rw [List.length_map];exact q.len,bb.less q.time.1⟩
  ·obtain⟨k,g,rfl⟩:=A p f;exact (j k g).1
  ·obtain⟨k,g,rfl⟩:=A p f;exact (j k g).2
  ·obtain⟨k,g,rfl⟩:=A p f;exact (j k g).2.fit
 refine⟨v.heap.size+1,⟨a.time,0,stands (eC a.es a.ks)⟩,fun b=>b=db\/b=l\/b=nb\/(∃ p∈i.fsD ++ fsN,b=p.2.1)\/b=v.heap.size+1\/b=J\/b=H,by simp,by omega,?_,?_,fun b t=>?_,by rw [<-y];exact bK⟩
 ·rw [<-y];refine⟨_,b3,rfl,⟨rfl,bb,fun _ p f=>(by obtain⟨k,_,rfl⟩:=A p f;rfl),bi⟩,⟨⟨J,H,fun b=>b=db\/b=l\/b=nb\/(∃ p∈i.fsD ++ fsN,b=p.2.1),ci,ap.kept K (Y J ck),L.kept (Y H bz),⟨⟨l,nb,aK (-1),aK (-1),b4,b0,b1,by rw [iJ];exact fC.neg (by omega) (by omega) (by decide),by rw [iJ];exact fC.neg (by omega) (by omega) (by decide),ir (il rfl),ir (ir (il rfl)),b8⟩,fun p f=>ir (ir (ir ⟨p,List.mem_append_left _ f,rfl⟩)),fun p f=>ir (ir (ir ⟨p,List.mem_append_right _ f,rfl⟩)),il rfl,fun b t=>?_⟩,fun b t=>?_,?_,?_,fun d=>?_,fun d=>?_,fun e=>W e.symm,fun d=>?_,by omega,by omega⟩,?_,fun b t=>?_⟩⟩
  ·rcases t with d | d | d | ⟨p,f,d⟩
   ·omega
   ·omega
   ·omega
   ·have:=(m.out p f).1;omega
  ·rcases t with d | d | d | d
   ·exact il d
   ·exact ir (il d)
   ·exact ir (ir (il d))
   ·exact ir (ir (ir (il d)))
  ·exact ir (ir (ir (ir (ir (il rfl)))))
  ·exact ir (ir (ir (ir (ir (ir rfl)))))
  ·rcases d with d | d | d | ⟨p,f,d⟩
   ·omega
   ·omega
   ·omega
   ·have:=(m.out p f).1;omega
  ·rcases d with d | d | d | ⟨p,f,d⟩
   ·omega
   ·omega
   ·omega
   ·have:=(m.out p f).1;omega
  ·rcases d with d | d | d | ⟨p,f,d⟩
   ·omega
   ·omega
   ·omega
   ·have:=(m.out p f).1;omega
  ·exact ir (ir (ir (ir (il rfl))))
  ·rcases t with d | d | d | ⟨p,f,d⟩ | d | d | d
   ·omega
   ·omega
   ·omega
   ·have:=(m.out p f).1;omega
   ·omega
   ·omega
   ·omega
 ·refine⟨⟨S,rfl,fun k g=>?_,fun k z ao=>?_⟩,C.2,fun b5 k z ao=>?_⟩
  ·have bF:=ee g;have I:k ∉ a.ks:=fun d=>by
    obtain⟨r,j,e⟩:=(O k).1 d;have:=aV o.nd j;rw [e,bF] at this;cases this
   show aZ k (stands (eC a.es a.ks))=none;rw [bD,dL,if_neg I];rfl
  ·obtain⟨M,Z⟩:=cj ao;have j:=aR Z;have I:k∈a.ks:=(O k).2 ⟨_,j,rfl⟩;refine⟨M,?_,a9▸o.dur.res _ j,C.1 _ j⟩
   show aZ k (stands (eC a.es a.ks))=some M;rw [bD,dL,if_pos I,ad _ j];rfl
  ·obtain⟨M,Z⟩:=cj ao;have j:=aR Z;have I:k∈a.ks:=(O k).2 ⟨_,j,rfl⟩;have e:M=z:=a7.2.1 b5 _ j;show aZ k (stands (eC a.es a.ks))=some z;rw [bD,dL,if_pos I,ad _ j];show some M=some z;rw [e]
 ·rcases t with d | d | d | d | d | d | d
  ·exact il d
  ·exact ir (il d)
  ·exact ir (ir (il d))
  ·exact ir (ir (ir (il d)))
  ·exact ir (ir (ir (ir (by omega))))
  ·exact ir (ir (ir (ir (by omega))))
  ·exact ir (ir (ir (ir (by omega))))
theorem ak.nocell {w:World}{b:Nat}{fs:Fs}(c:ak w b fs):w.cell? ⟨b,0,none⟩=none:=by
 obtain⟨_,_,⟨e,d,a,_⟩,_⟩:=c.map;simp [World.cell?,a]
theorem dirQ (n g:Nat)(i:Nat->Fs):QSt (fun d=>∃ x,n<=x/\ak d g (i x)):=by
 rintro d l ⟨x,j,a⟩ _ e;exact⟨x,j,a.kept (e g a.map.lt (fun k b=>by rw [a.nocell] at b;cases b)) (fun c f=>e _ (am (a.str c f)) (fun k b=>by
   rw [ab (a.str c f) 0] at b;exact⟨c.2.2,by simpa using b.symm⟩))⟩
theorem jd0 (db l nb:Nat)(b2:Value)(blk:Int)(D:Dx)(i:de)(fsD:Fs)(g:Nat->Fs)(w:World)(v:∀ x,({ i with fsD:=g x }:de).ok)(ck:∀ x,({ i with fsD:=g x }:de).has D.t)(cl:D.z=true->∀ p∈i.es,p.2.2=p.2.1)(bv:i.blk=blk)(fsN:Fs)(ad:∀ x,Sm (g x) fsN)(cy:fsN≠[])(T:w.heap[db]?=some (Ul l nb b2))(Y:SyG w db l nb (fun c=>c=l) (fun q=>∃ x,w.heap.size<=x/\ak q l (g x)) (-1) (-1))(c3:l≠db)(cR:∀ x,∀ p∈g x,(∃ bb∈fsD,p.2.1=bb.2.1)\/p.2.1=x)(u:ak w nb fsN)(bz:l≠nb) :
  Calls prog 34 #[.iface 78 (.pointer (some ⟨db,0,none⟩)),.int .u64 blk] w fun e w'=>∃ bi S F,e=.returned (.tuple #[pO bi 0,.nilIface])/\w.heap.size<=bi/\aU db blk ⟨S.time,true⟩ (bu 3999999) w' 0 bi S F/\(Rec blk i.ld S/\D.t<=S.time/\(D.z=true->∀ k z,aZ k i.ld.ks=some z->aZ k S.ks=some z))/\(∀ b,F b->b=db\/b=l\/b=nb\/(∃ p∈fsD ++ fsN,b=p.2.1)\/w.heap.size<=b)/\ae (fun c=>c=db\/c=l) w w':=by
 obtain⟨y,n,bj,bl,bo,X,t,ao,J,av,a0,a1,L,K⟩:=(kQ (v 0) (ck 0):∃ (y:Bool->Option Ig) (n:Ig),gW (g 0) y/\(∀ r b,y false=some r->y true=some b->b.turn=au r.turn\/r.turn=au b.turn)/\(∀ b U,y b=some U->U.ks.Nodup)/\(∀ U,nW y U->U=n)/\n.ok/\n.ks.Nodup/\n.turn=i.turn/\n.es=i.es/\n.ks.Perm (i.es.map Prod.fst)/\n.time<=i.time/\((∀ p∈i.es,p.2.2.kd=2->p.2.2.wn<=n.time / p.2.2.y)/\D.t<=n.time)/\((∃ r,ar (i.turn % 2==1) (g 0)=some (r,strOfNums n.bytes))\/(∀ b p,ar b (g 0)=some p->ky p.2)/\n.ks=[]/\n.time=0/\n.turn=0));have b0:(i.es.map Prod.fst).Nodup:=(v 0).nd;have cc:U7 i.blk:=(v 0).blk;have cV:∀ p∈i.es,gL i.blk p.2.1 p.2.2:=(v 0).dur.res;have bk:gW fsN y:=bj.sm (ad 0);have b9:=aa (jO db l nb b2 _ _ fsN y (-1) (-1) blk w ⟨T,Y,u,bk,cy,bl⟩ bo);have c2:=am T;have c4:=(Y.sm l rfl).1;have b7:=aa (Y.sm l rfl).2;have cz:=u.map.lt;have cx:nb≠db:=u.map.ne T;have bK:∀ p∈fsN,p.2.1<w.heap.size/\p.2.1≠db/\p.2.1≠l:=fun p f=>⟨am (u.str p f),fun e=>by have:=u.str p f;rw [e,T] at this;simp at this,fun e=>by
   have:=b7.out;rw [<-e,ab (u.str p f) 0] at this;cases this⟩
 have b8:=aa u;have b5:=aa v;have W:=aa bK;have b6:=aa (aN X (aN t (aN ao (aN J (aN av (aN a0 (aN a1 (aN L K))))))));clear T Y u v bK bj bk bl bo X t ao J av a0 a1 K L;go_enter func34,ntmps34
 go_wp2_with fail
 refine b9.out.mono ?_
 rintro e A ⟨E,M,d,rfl,a2,bd,bg,a3,N,O,a4,b3,P⟩;have cb:=aa (aN a2 (aN bd (aN bg (aN a3 (aN N (aN O (aN a4 (aN b3 P))))))));clear a2 bd bg a3 N O a4 b3 P;go_wp2
 go_ret2
 obtain⟨a2,bd,bg,a3,N,O,a4,⟨x,c6,a5⟩,P⟩:=cb.out;obtain⟨X,t,ao,J,av,a0,a1,L,K⟩:=b6.out;obtain rfl:=X d a2;have v:=b5.out x;have b4:∀ b,(ar b (g x)).map Prod.snd=(ar b (g 0)).map Prod.snd:=fun b=>(ad x b).symm.trans (ad 0 b);have K:(∃ r,ar (i.turn % 2==1) (g x)=some (r,strOfNums d.bytes))\/(∀ b p,ar b (g x)=some p->ky p.2)/\d.ks=[]/\d.time=0/\d.turn=0:=by
  rcases K with ⟨r,a6⟩ | ⟨B,s⟩
  ·have a:=b4 (i.turn % 2==1);rw [a6] at a;cases G:ar (i.turn % 2==1) (g x) with
   | none=>rw [G] at a;cases a
   | some p=>
    rw [G] at a;have ch:p.2=strOfNums d.bytes:=by simpa using a
    exact il ⟨p.1,by rw [<-ch]⟩
  ·refine ir ⟨fun b p f=>?_,s⟩
   have a:=b4 b;rw [f] at a;cases G:ar b (g 0) with
   | none=>rw [G] at a;cases a
   | some o=>
    rw [G] at a;rw [show p.2=o.2 by simpa using a];exact B b o G
 have c7:=P.size;have ci:=O.lt;have cU:=ap.lt N;obtain⟨q,H⟩:∃ q,q=(A.alloc (Uv d.time blk M E)).alloc (Ud d.time blk M E):=⟨_,rfl⟩;have Q:∀ k,k<A.heap.size->q.heap[k]?=A.heap[k]?:=fun k j=>by rw [H,ah _ _ (by simp;omega),ah _ _ j]
 have b1:∀ k,k<w.heap.size->k≠db->k≠l->q.heap[k]?=w.heap[k]?:=fun k j cw cv=>(Q k (by omega)).trans (P.block k j (fun a=>a.elim cw cv));have cG:q.heap[A.heap.size+1]?=_:=H▸aC (by simp);have c5:q.heap.size=A.heap.size+2:=by rw [H];simp
 have cn:ae (fun c=>c=db\/c=l) w q:=H▸(P.alloc _).alloc _;have cs:=(Q db (by omega)).trans a4;have cp:ak q l (g x):=a5.kept (Q l a5.map.lt) (fun p f=>Q _ (am (a5.str p f)));have cq:ak q nb fsN:=b8.out.kept (b1 nb cz cx (fun e=>bz e.symm)) (fun p f=>b1 _ (W.out p f).1 (W.out p f).2.1 (W.out p f).2.2);have R:∀ p∈g x ++ fsN,p.2.1<A.heap.size/\p.2.1≠E/\p.2.1≠M:=fun p f=>by
  rcases List.mem_append.1 f with f | f
  ·have B:=a5.str p f;refine⟨am B,fun e=>?_,fun e=>?_⟩
   ·have s:=O.dsk;rw [<-e,ab B 0] at s;cases s
   ·exact ap.ne N B e.symm
  ·have:=(W.out p f).1;omega
 have Z:∀ k,k∈d.ks↔∃ o∈i.es,o.1=k:=fun k=>by
  rw [a0.mem_iff,List.mem_map]
 have a8:∀ o∈i.es,aL d.es o.1=o.2.2:=fun o m=>by
  rw [av];unfold aL;rw [aV b0 m];rfl
 have m:∀ k∈d.ks,k.ok/\(aL d.es k).ok:=t.rec_;have I:∀ p∈eC d.es d.ks,∃ k∈d.ks,p=(k,(aL d.es k,aL d.es k)):=fun p f=>by
  obtain⟨k,j,e⟩:=List.mem_map.1 f;exact⟨k,j,e.symm⟩
 have bs:U7 blk:=bv▸cc;have bw:(⟨d.time,0,blk,eC d.es d.ks,d.turn,(g x),fsN⟩:de).has d.time:=by
  refine⟨fun p f=>?_,?_,?_⟩
  ·obtain⟨k,j,rfl⟩:=I p f;exact gL.same (m k j).2 bs.1
  ·rcases K with ⟨r,a6⟩ | ⟨cX,c0,c8,c1⟩
   case inr=>
    refine il ⟨cX,?_,by show d.time<=0;omega,c1⟩
    show eC d.es d.ks=[];rw [c0];rfl
   refine ir ⟨d.time,d.ks,r,?_,⟨t.time.1,Int.le_refl _⟩,Int.le_refl _,?_,fun p f=>?_⟩
   ·show d.ks.Perm ((eC d.es d.ks).map Prod.fst);rw [ki]
   ·show ar (d.turn % 2==1) (g x)=some (r,strOfNums (aX d.turn d.time (eC d.es d.ks) d.ks));rw [fI d.turn d.time (eC d.es d.ks) d.es d.ks (fun k j=>kU _ _ k j),J,a6];unfold Ig.bytes;rw [J]
   ·obtain⟨k,j,rfl⟩:=I p f;obtain⟨o,bF,e⟩:=(Z k).1 j;have:=L.1 o bF;rw [<-a8 o bF,e] at this;exact this
  ·show ∀ p,ar (!(d.turn % 2==1)) (g x)=some p->_;rw [J];exact v.dur.old
 have cr:(⟨d.time,0,blk,eC d.es d.ks,d.turn,(g x),fsN⟩:de).ok:=by
  refine⟨t.time,by simp,bs,t.turn,by show ((eC d.es d.ks).map Prod.fst).Nodup;rw [ki];exact ao,fun p f=>?_,fun p f=>?_,fun p f=>?_,by show (eC d.es d.ks).length<=12;unfold eC;rw [List.length_map];exact t.len,bw.less t.time.1⟩
  ·obtain⟨k,j,rfl⟩:=I p f;exact (m k j).1
  ·obtain⟨k,j,rfl⟩:=I p f;exact (m k j).2
  ·obtain⟨k,j,rfl⟩:=I p f;exact (m k j).2.fit
 refine⟨A.heap.size+1,⟨d.time,0,stands (eC d.es d.ks)⟩,fun b=>b=db\/b=l\/b=nb\/(∃ p∈(g x) ++ fsN,b=p.2.1)\/b=A.heap.size+1\/b=M\/b=E,by simp,by omega,?_,?_,fun b C=>?_,by rw [<-H];exact cn⟩
 ·rw [<-H];refine⟨_,cr,rfl,⟨rfl,bw,fun _ p f=>(by obtain⟨k,_,rfl⟩:=I p f;rfl),ad x⟩,⟨⟨M,E,fun b=>b=db\/b=l\/b=nb\/(∃ p∈(g x) ++ fsN,b=p.2.1),cG,ap.kept N (Q M cU),O.kept (Q E ci),⟨⟨l,nb,aK (-1),aK (-1),cs,cp,cq,by rw [iJ];exact fC.neg (by omega) (by omega) (by decide),by rw [iJ];exact fC.neg (by omega) (by omega) (by decide),ir (il rfl),ir (ir (il rfl)),bz⟩,fun p f=>ir (ir (ir ⟨p,List.mem_append_left _ f,rfl⟩)),fun p f=>ir (ir (ir ⟨p,List.mem_append_right _ f,rfl⟩)),il rfl,fun b C=>?_⟩,fun b C=>?_,?_,?_,fun a=>?_,fun a=>?_,fun e=>a3 e.symm,fun a=>?_,by omega,by omega⟩,?_,fun b C=>?_⟩⟩
  ·rcases C with a | a | a | ⟨p,f,a⟩
   ·omega
   ·omega
   ·omega
   ·have:=R p f;omega
  ·rcases C with a | a | a | a
   ·exact il a
   ·exact ir (il a)
   ·exact ir (ir (il a))
   ·exact ir (ir (ir (il a)))
  ·exact ir (ir (ir (ir (ir (il rfl)))))
  ·exact ir (ir (ir (ir (ir (ir rfl)))))
  ·rcases a with a | a | a | ⟨p,f,a⟩
   ·omega
   ·omega
   ·omega
   ·have:=R p f;omega
  ·rcases a with a | a | a | ⟨p,f,a⟩
   ·omega
   ·omega
   ·omega
   ·have:=R p f;omega
  ·rcases a with a | a | a | ⟨p,f,a⟩
   ·omega
   ·omega
   ·omega
   ·have:=R p f;omega
  ·exact ir (ir (ir (ir (il rfl))))
  ·rcases C with a | a | a | ⟨p,f,a⟩ | a | a | a
   ·omega
   ·omega
   ·omega
   ·have:=R p f;omega
   ·omega
   ·omega
   ·omega
 ·refine⟨⟨a1,rfl,fun k j=>?_,fun k z a9=>?_⟩,L.2,fun ct k z a9=>?_⟩
  ·have B:=ee j;have s:k ∉ d.ks:=fun a=>by
    obtain⟨o,m,e⟩:=(Z k).1 a;have:=aV b0 m;rw [e,B] at this;cases this
   show aZ k (stands (eC d.es d.ks))=none;rw [bD,dL,if_neg s];rfl
  ·obtain⟨V,a7⟩:=cj a9;have m:=aR a7;have s:k∈d.ks:=(Z k).2 ⟨_,m,rfl⟩;refine⟨V,?_,bv▸cV _ m,L.1 _ m⟩
   show aZ k (stands (eC d.es d.ks))=some V;rw [bD,dL,if_pos s,a8 _ m];rfl
  ·obtain⟨V,a7⟩:=cj a9;have m:=aR a7;have s:k∈d.ks:=(Z k).2 ⟨_,m,rfl⟩;have e:V=z:=cl ct _ m;show aZ k (stands (eC d.es d.ks))=some z;rw [bD,dL,if_pos s,a8 _ m];show some V=some z;rw [e]
 ·rcases C with a | a | a | ⟨p,f,a⟩ | a | a | a
  ·exact il a
  ·exact ir (il a)
  ·exact ir (ir (il a))
  ·rcases List.mem_append.1 f with f | f
   ·rcases cR x p f with ⟨bb,cF,e⟩ | e
    ·exact ir (ir (ir (il ⟨bb,List.mem_append_left _ cF,a.trans e⟩)))
    ·exact ir (ir (ir (ir (by omega))))
   ·exact ir (ir (ir (il ⟨p,List.mem_append_right _ f,a⟩)))
  ·exact ir (ir (ir (ir (by omega))))
  ·exact ir (ir (ir (ir (by omega))))
  ·exact ir (ir (ir (ir (by omega))))
end Go.Proofs.YtnlgndpcddngoaaGreatDoor
