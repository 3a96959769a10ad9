import Derived.Test.YtnlgndpcddngoaaGreatDoorZ00
import Derived.Test.YtnlgndpcddngoaaGreatDoorRows
import Derived.Test.YtnlgndpcddngoaaGreatDoorCards
import Derived.Test.YtnlgndpcddngoaaGreatDoorTie
import Derived.LaidHandle
import Derived.LaidLaws
import Derived.ProofKit
import Derived.OpenShut
import Derived.Carry
import Derived.Deep.DeepHandedRow
set_option linter.all false
set_option maxRecDepth 100000
set_option maxHeartbeats 1000000
namespace Go.Proofs.YtnlgndpcddngoaaGreatDoor
open Go.Proofs.Tryz Go.RowKit
variable [dK] [iK]
theorem jeo (d f g h i j k l c x y n:Int)(w:World)(R:0<=x)(S:x<=18446744073709551615)(T:0<=y)(U:y<=18446744073709551615) :
  Calls prog 53 #[.agg #[.int .u8 1,.int .u8 d,.int .u8 f,.int .u8 g,.int .u8 h,.int .u8 i,.int .u8 j,.int .u8 k,.int .u8 l,.int .u8 c,.int .u64 x,.int .u64 y,.int .u64 n]] w
   fun e w'=>∃ I,e=.returned I/\w'.ownsRow w.heap.size 5 1 I 27 (([26,1,d,f,g,h,i,j,k,l,c] ++ bI x ++ bI y).map (Value.int .u8))/\B7 w w':=by
 obtain⟨H,A,E,F,G⟩:=info_parts Tryz.info5;have o:∀ a,((w.alloc (Oc d f g h i j k l c x y n)).alloc (uK)).cell? ⟨w.heap.size,a,none⟩=(#[.int .u8 1,.int .u8 d,.int .u8 f,.int .u8 g,.int .u8 h,.int .u8 i,.int .u8 j,.int .u8 k,.int .u8 l,.int .u8 c,.int .u64 x,.int .u64 y,.int .u64 n]:Array Value)[a]?:=fun a=>(World.cell?_alloc_past _ _ _ (by simp)).trans (bR w _ _ a);have B:((w.alloc (Oc d f g h i j k l c x y n)).alloc (uK)).ownsRow (w.heap.size+1) 5 1 (.slice (some ⟨w.heap.size+1,0,none⟩) 2 2) 2 [.int .u8 26,.int .u8 1]:=by
  have J:=World.ownsRow_lit (base:=w.heap.size+1) (e:=5) (size:=1) (w.alloc (Oc d f g h i j k l c x y n)) #[.int .u8 26,.int .u8 1] 2 (by simp) (by unfold maxLen;omega) rfl;simpa using J
 have K:B7 w ((w.alloc (Oc d f g h i j k l c x y n)).alloc (uK)):=(ba w).alloc (by simp) _;have D:w.heap.size+1<((w.alloc (Oc d f g h i j k l c x y n)).alloc (uK)).heap.size:=by simp
 have a0:aM 1=26:=rfl;go_enter func53,ntmps53
 go_wp2_with (first | (go_at_call 83;refine (bS _ _).mono ?_;rintro e w' ⟨rfl,rfl⟩) | (at_builtin;refine wpList_append_own _ rfl (.tmp 17) (.tmp 19) 76 rfl (w.heap.size+1) 5 H (.int .u8 0) 1 1 underlying76 A E F G rfl (by decide) (.slice (some ⟨w.heap.size+1,0,none⟩) 2 2) 2 _ rfl B ⟨w.heap.size,1,none⟩ 8 8 [.int .u8 d,.int .u8 f,.int .u8 g,.int .u8 h,.int .u8 i,.int .u8 j,.int .u8 k,.int .u8 l] rfl rfl (pR o _ (kg _ _ _ _ _ _ _ _ _ _ _ _ _)) (by simp [Value.oneCell']) (by unfold maxLen;omega) (by omega) (by simp) ?_;intro V Y C v _;have Q:=ll D v.size;have s:=(Below.refl (w.heap.size+1) _).grown v (Nat.le_of_lt D) (fun r q=>(B.lt r q).1);have ao:=fun a=>(s.cell (p:=⟨w.heap.size,a,none⟩) (Nat.lt_succ_self _)).trans (o a)) | (at_builtin;(refine wpList_append_own _ rfl (.tmp 24) (.tmp 28) 76 rfl (w.heap.size+1) 5 H (.int .u8 0) 1 1 underlying76 A E F G rfl (by decide) V 10 _ rfl (C.alloc _) ⟨Y.heap.size,0,none⟩ 1 1 [.int .u8 c] rfl rfl (cell_one_new _ _ _) (by simp [Value.oneCell']) (by unfold maxLen;omega) (by omega) (by simp;omega) ?_);intro W Z N z _;have a1:w.heap.size+1<Z.heap.size:=(ll (by simp;omega) z.size);have t:=(s.alloc (Nat.le_of_lt Q) (.cells #[.int .u8 c] 5)).grown z (by simp;omega) (fun r q=>(C.lt r q).1);have L:=fun a=>(t.cell (p:=⟨w.heap.size,a,none⟩) (Nat.lt_succ_self _)).trans (o a)))
 refine (iC W 11 (w.heap.size+1) _ _ _ N (by omega) (by omega) R S).mono ?_
 rintro e ad ⟨X,rfl,O,m⟩;have a2:w.heap.size+1<ad.heap.size:=by have:=m.size;omega
 have M:=fun a=>(m.cell (p:=⟨w.heap.size,a,none⟩) (Nat.lt_succ_self _)).trans (L a);go_wp2_with fail
 refine (iC X 19 (w.heap.size+1) _ _ _ O (by omega) (by omega) T U).mono ?_
 rintro e a4 ⟨a3,rfl,P,u⟩;have av:=fun a=>(u.cell (p:=⟨w.heap.size,a,none⟩) (Nat.lt_succ_self _)).trans (M a);go_wp2
 go_ret
 exact⟨_,rfl,dQ (b:=w.heap.size+1) (by omega) (by simpa using P),K.trans (((t.trans m).trans u).mono (by omega))⟩
theorem jep (a c d f g h i j l x y n:Int)(w:World)(C:0<=n)(D:n<=18446744073709551615) :
  Calls prog 53 #[.agg #[.int .u8 2,.int .u8 a,.int .u8 c,.int .u8 d,.int .u8 f,.int .u8 g,.int .u8 h,.int .u8 i,.int .u8 j,.int .u8 l,.int .u64 x,.int .u64 y,.int .u64 n]] w
   fun e w'=>∃ t,e=.returned t/\w'.ownsRow w.heap.size 5 1 t 18 (([17,2,a,c,d,f,g,h,i,j] ++ bI n).map (Value.int .u8))/\B7 w w':=by
 obtain⟨J,A,G,H,I⟩:=info_parts Tryz.info5;have o:∀ k,((w.alloc (Ob a c d f g h i j l x y n)).alloc (uL)).cell? ⟨w.heap.size,k,none⟩=(#[.int .u8 2,.int .u8 a,.int .u8 c,.int .u8 d,.int .u8 f,.int .u8 g,.int .u8 h,.int .u8 i,.int .u8 j,.int .u8 l,.int .u64 x,.int .u64 y,.int .u64 n]:Array Value)[k]?:=fun k=>(World.cell?_alloc_past _ _ _ (by simp)).trans (bR w _ _ k);have r:((w.alloc (Ob a c d f g h i j l x y n)).alloc (uL)).ownsRow (w.heap.size+1) 5 1 (.slice (some ⟨w.heap.size+1,0,none⟩) 2 2) 2 [.int .u8 17,.int .u8 2]:=by
  have u:=World.ownsRow_lit (base:=w.heap.size+1) (e:=5) (size:=1) (w.alloc (Ob a c d f g h i j l x y n)) #[.int .u8 17,.int .u8 2] 2 (by simp) (by unfold maxLen;omega) rfl;simpa using u
 have v:B7 w ((w.alloc (Ob a c d f g h i j l x y n)).alloc (uL)):=(ba w).alloc (by simp) _;have s:w.heap.size+1<((w.alloc (Ob a c d f g h i j l x y n)).alloc (uL)).heap.size:=by simp
 have N:aM 2=17:=rfl;go_enter func53,ntmps53
 go_wp2_with (first | (go_at_call 83;refine (bS _ _).mono ?_;rintro e w' ⟨rfl,rfl⟩) | (at_builtin;refine wpList_append_own _ rfl (.tmp 17) (.tmp 19) 76 rfl (w.heap.size+1) 5 J (.int .u8 0) 1 1 underlying76 A G H I rfl (by decide) (.slice (some ⟨w.heap.size+1,0,none⟩) 2 2) 2 _ rfl r ⟨w.heap.size,1,none⟩ 8 8 [.int .u8 a,.int .u8 c,.int .u8 d,.int .u8 f,.int .u8 g,.int .u8 h,.int .u8 i,.int .u8 j] rfl rfl (pR o _ (kg _ _ _ _ _ _ _ _ _ _ _ _ _)) (by simp [Value.oneCell']) (by unfold maxLen;omega) (by omega) (by simp) ?_;intro L Q E q _;have O:=ll s q.size;have m:=(Below.refl (w.heap.size+1) _).grown q (Nat.le_of_lt s) (fun K B=>(r.lt K B).1);have M:=fun k=>(m.cell (p:=⟨w.heap.size,k,none⟩) (Nat.lt_succ_self _)).trans (o k)))
 refine (iC L 10 (w.heap.size+1) _ _ _ E (by omega) (by omega) C D).mono ?_
 rintro e R ⟨P,rfl,F,z⟩;go_wp2
 go_ret
 exact⟨_,rfl,dQ (b:=w.heap.size+1) (by omega) (by simpa using F),v.trans ((m.trans z).mono (by omega))⟩
theorem jeq (a c d f g h i j l x y n:Int)(w:World) :
  Calls prog 53 #[.agg #[.int .u8 3,.int .u8 a,.int .u8 c,.int .u8 d,.int .u8 f,.int .u8 g,.int .u8 h,.int .u8 i,.int .u8 j,.int .u8 l,.int .u64 x,.int .u64 y,.int .u64 n]] w
   fun e w'=>∃ t,e=.returned t/\w'.ownsRow w.heap.size 5 1 t 10 (([9,3,a,c,d,f,g,h,i,j]).map (Value.int .u8))/\B7 w w':=by
 obtain⟨F,z,C,D,E⟩:=info_parts Tryz.info5;have o:∀ k,((w.alloc (Oa a c d f g h i j l x y n)).alloc (uN)).cell? ⟨w.heap.size,k,none⟩=(#[.int .u8 3,.int .u8 a,.int .u8 c,.int .u8 d,.int .u8 f,.int .u8 g,.int .u8 h,.int .u8 i,.int .u8 j,.int .u8 l,.int .u64 x,.int .u64 y,.int .u64 n]:Array Value)[k]?:=fun k=>(World.cell?_alloc_past _ _ _ (by simp)).trans (bR w _ _ k);have r:((w.alloc (Oa a c d f g h i j l x y n)).alloc (uN)).ownsRow (w.heap.size+1) 5 1 (.slice (some ⟨w.heap.size+1,0,none⟩) 2 2) 2 [.int .u8 9,.int .u8 3]:=by
  have u:=World.ownsRow_lit (base:=w.heap.size+1) (e:=5) (size:=1) (w.alloc (Oa a c d f g h i j l x y n)) #[.int .u8 9,.int .u8 3] 2 (by simp) (by unfold maxLen;omega) rfl;simpa using u
 have v:B7 w ((w.alloc (Oa a c d f g h i j l x y n)).alloc (uN)):=(ba w).alloc (by simp) _;have s:w.heap.size+1<((w.alloc (Oa a c d f g h i j l x y n)).alloc (uN)).heap.size:=by simp
 have I:aM 3=9:=rfl;go_enter func53,ntmps53
 go_wp2_with (first | (go_at_call 83;refine (bS _ _).mono ?_;rintro e w' ⟨rfl,rfl⟩) | (at_builtin;refine wpList_append_own _ rfl (.tmp 17) (.tmp 19) 76 rfl (w.heap.size+1) 5 F (.int .u8 0) 1 1 underlying76 z C D E rfl (by decide) (.slice (some ⟨w.heap.size+1,0,none⟩) 2 2) 2 _ rfl r ⟨w.heap.size,1,none⟩ 8 8 [.int .u8 a,.int .u8 c,.int .u8 d,.int .u8 f,.int .u8 g,.int .u8 h,.int .u8 i,.int .u8 j] rfl rfl (pR o _ (kg _ _ _ _ _ _ _ _ _ _ _ _ _)) (by simp [Value.oneCell']) (by unfold maxLen;omega) (by omega) (by simp) ?_;intro K L B q _;have J:=ll s q.size;have m:=(Below.refl (w.heap.size+1) _).grown q (Nat.le_of_lt s) (fun G A=>(r.lt G A).1);have H:=fun k=>(m.cell (p:=⟨w.heap.size,k,none⟩) (Nat.lt_succ_self _)).trans (o k)))
 go_ret
 exact⟨_,rfl,dQ (b:=w.heap.size+1) (by omega) (by simpa using B),v.trans (m.mono (by omega))⟩
theorem jer (a c d f g h i j l x y n:Int)(w:World) :
  Calls prog 53 #[.agg #[.int .u8 4,.int .u8 a,.int .u8 c,.int .u8 d,.int .u8 f,.int .u8 g,.int .u8 h,.int .u8 i,.int .u8 j,.int .u8 l,.int .u64 x,.int .u64 y,.int .u64 n]] w
   fun e w'=>∃ t,e=.returned t/\w'.ownsRow w.heap.size 5 1 t 10 (([9,4,a,c,d,f,g,h,i,j]).map (Value.int .u8))/\B7 w w':=by
 obtain⟨F,z,C,D,E⟩:=info_parts Tryz.info5;have o:∀ k,((w.alloc (oZ a c d f g h i j l x y n)).alloc (uM)).cell? ⟨w.heap.size,k,none⟩=(#[.int .u8 4,.int .u8 a,.int .u8 c,.int .u8 d,.int .u8 f,.int .u8 g,.int .u8 h,.int .u8 i,.int .u8 j,.int .u8 l,.int .u64 x,.int .u64 y,.int .u64 n]:Array Value)[k]?:=fun k=>(World.cell?_alloc_past _ _ _ (by simp)).trans (bR w _ _ k);have r:((w.alloc (oZ a c d f g h i j l x y n)).alloc (uM)).ownsRow (w.heap.size+1) 5 1 (.slice (some ⟨w.heap.size+1,0,none⟩) 2 2) 2 [.int .u8 9,.int .u8 4]:=by
  have u:=World.ownsRow_lit (base:=w.heap.size+1) (e:=5) (size:=1) (w.alloc (oZ a c d f g h i j l x y n)) #[.int .u8 9,.int .u8 4] 2 (by simp) (by unfold maxLen;omega) rfl;simpa using u
 have v:B7 w ((w.alloc (oZ a c d f g h i j l x y n)).alloc (uM)):=(ba w).alloc (by simp) _;have s:w.heap.size+1<((w.alloc (oZ a c d f g h i j l x y n)).alloc (uM)).heap.size:=by simp
 have I:aM 4=9:=rfl;go_enter func53,ntmps53
 go_wp2_with (first | (go_at_call 83;refine (bS _ _).mono ?_;rintro e w' ⟨rfl,rfl⟩) | (at_builtin;refine wpList_append_own _ rfl (.tmp 17) (.tmp 19) 76 rfl (w.heap.size+1) 5 F (.int .u8 0) 1 1 underlying76 z C D E rfl (by decide) (.slice (some ⟨w.heap.size+1,0,none⟩) 2 2) 2 _ rfl r ⟨w.heap.size,1,none⟩ 8 8 [.int .u8 a,.int .u8 c,.int .u8 d,.int .u8 f,.int .u8 g,.int .u8 h,.int .u8 i,.int .u8 j] rfl rfl (pR o _ (kg _ _ _ _ _ _ _ _ _ _ _ _ _)) (by simp [Value.oneCell']) (by unfold maxLen;omega) (by omega) (by simp) ?_;intro K L B q _;have J:=ll s q.size;have m:=(Below.refl (w.heap.size+1) _).grown q (Nat.le_of_lt s) (fun G A=>(r.lt G A).1);have H:=fun k=>(m.cell (p:=⟨w.heap.size,k,none⟩) (Nat.lt_succ_self _)).trans (o k)))
 go_ret
 exact⟨_,rfl,dQ (b:=w.heap.size+1) (by omega) (by simpa using B),v.trans (m.mono (by omega))⟩
theorem jes (a c d f g h i j k x y n:Int)(w:World) :
  Calls prog 53 #[.agg #[.int .u8 5,.int .u8 a,.int .u8 c,.int .u8 d,.int .u8 f,.int .u8 g,.int .u8 h,.int .u8 i,.int .u8 j,.int .u8 k,.int .u64 x,.int .u64 y,.int .u64 n]] w
   fun e w'=>∃ m,e=.returned m/\w'.ownsRow w.heap.size 5 1 m 2 (([1,5]).map (Value.int .u8))/\B7 w w':=by
 obtain⟨B,s,v,z,A⟩:=info_parts Tryz.info5;have r:∀ l,((w.alloc (OC a c d f g h i j k x y n)).alloc (uP)).cell? ⟨w.heap.size,l,none⟩=(#[.int .u8 5,.int .u8 a,.int .u8 c,.int .u8 d,.int .u8 f,.int .u8 g,.int .u8 h,.int .u8 i,.int .u8 j,.int .u8 k,.int .u64 x,.int .u64 y,.int .u64 n]:Array Value)[l]?:=fun l=>(World.cell?_alloc_past _ _ _ (by simp)).trans (bR w _ _ l);have q:((w.alloc (OC a c d f g h i j k x y n)).alloc (uP)).ownsRow (w.heap.size+1) 5 1 (.slice (some ⟨w.heap.size+1,0,none⟩) 2 2) 2 [.int .u8 1,.int .u8 5]:=by
  have o:=World.ownsRow_lit (base:=w.heap.size+1) (e:=5) (size:=1) (w.alloc (OC a c d f g h i j k x y n)) #[.int .u8 1,.int .u8 5] 2 (by simp) (by unfold maxLen;omega) rfl;simpa using o
 have p:B7 w ((w.alloc (OC a c d f g h i j k x y n)).alloc (uP)):=(ba w).alloc (by simp) _;have u:w.heap.size+1<((w.alloc (OC a c d f g h i j k x y n)).alloc (uP)).heap.size:=by simp
 have t:aM 5=1:=rfl;go_enter func53,ntmps53
 go_wp2_with (go_at_call 83;refine (bS _ _).mono ?_;rintro e w' ⟨rfl,rfl⟩)
 go_ret
 exact⟨_,rfl,dQ (b:=w.heap.size+1) (by omega) (by simpa using q),p⟩
theorem jet (a c d f g h i j k x y n:Int)(w:World) :
  Calls prog 53 #[.agg #[.int .u8 6,.int .u8 a,.int .u8 c,.int .u8 d,.int .u8 f,.int .u8 g,.int .u8 h,.int .u8 i,.int .u8 j,.int .u8 k,.int .u64 x,.int .u64 y,.int .u64 n]] w
   fun e w'=>∃ m,e=.returned m/\w'.ownsRow w.heap.size 5 1 m 2 (([1,6]).map (Value.int .u8))/\B7 w w':=by
 obtain⟨B,s,v,z,A⟩:=info_parts Tryz.info5;have r:∀ l,((w.alloc (oX a c d f g h i j k x y n)).alloc (uO)).cell? ⟨w.heap.size,l,none⟩=(#[.int .u8 6,.int .u8 a,.int .u8 c,.int .u8 d,.int .u8 f,.int .u8 g,.int .u8 h,.int .u8 i,.int .u8 j,.int .u8 k,.int .u64 x,.int .u64 y,.int .u64 n]:Array Value)[l]?:=fun l=>(World.cell?_alloc_past _ _ _ (by simp)).trans (bR w _ _ l);have q:((w.alloc (oX a c d f g h i j k x y n)).alloc (uO)).ownsRow (w.heap.size+1) 5 1 (.slice (some ⟨w.heap.size+1,0,none⟩) 2 2) 2 [.int .u8 1,.int .u8 6]:=by
  have o:=World.ownsRow_lit (base:=w.heap.size+1) (e:=5) (size:=1) (w.alloc (oX a c d f g h i j k x y n)) #[.int .u8 1,.int .u8 6] 2 (by simp) (by unfold maxLen;omega) rfl;simpa using o
 have p:B7 w ((w.alloc (oX a c d f g h i j k x y n)).alloc (uO)):=(ba w).alloc (by simp) _;have u:w.heap.size+1<((w.alloc (oX a c d f g h i j k x y n)).alloc (uO)).heap.size:=by simp
 have t:aM 6=1:=rfl;go_enter func53,ntmps53
 go_wp2_with (go_at_call 83;refine (bS _ _).mono ?_;rintro e w' ⟨rfl,rfl⟩)
 go_ret
 exact⟨_,rfl,dQ (b:=w.heap.size+1) (by omega) (by simpa using q),p⟩
theorem jen (a b c d f g h i j k x y n:Int)(w:World)(l:aM a=0) :
  Calls prog 53 #[On a b c d f g h i j k x y n] w fun e w'=>e=.returned (.slice none 0 0)/\B7 w w':=by
 go_enter func53,ntmps53
 go_wp2_with (go_at_call 83;refine (bS _ _).mono ?_;rintro e w' ⟨rfl,rfl⟩)
 go_ret
 exact⟨rfl,ba w⟩
theorem tL (a b c d f g h i j k x y n:Int)(w:World)(B:0<=x)(C:x<=18446744073709551615)(D:0<=y)(E:y<=18446744073709551615)(z:0<=n)(A:n<=18446744073709551615) :
  Calls prog 53 #[On a b c d f g h i j k x y n] w
   fun e w'=>∃ s,e=.returned s/\w'.ownsRow w.heap.size 5 1 s (gn a b c d f g h i j k x y n).length ((gn a b c d f g h i j k x y n).map (Value.int .u8))/\B7 w w':=by
 by_cases l:a=1
 ·subst l;exact jeo b c d f g h i j k x y n w B C D E
 by_cases m:a=2
 ·subst m;exact jep b c d f g h i j k x y n w z A
 by_cases o:a=3
 ·subst o;exact jeq b c d f g h i j k x y n w
 by_cases p:a=4
 ·subst p;exact jer b c d f g h i j k x y n w
 by_cases q:a=5
 ·subst q;exact jes b c d f g h i j k x y n w
 by_cases r:a=6
 ·subst r;exact jet b c d f g h i j k x y n w
 have u:aM a=0:=by simp [aM,l,m,o,p,q,r]
 have t:gn a b c d f g h i j k x y n=[]:=by simp [gn,l,m,o,p,q,r]
 rw [t];refine (jen a b c d f g h i j k x y n w u).mono ?_
 rintro e w' ⟨rfl,v⟩;exact⟨_,rfl,World.ownsRow_nil _ _ _ _,v⟩
theorem jeB (F g o a c:Nat)(b:Int)(w:World)(d:w.cell? ⟨F,0,none⟩=some (.slice (some ⟨g,o,none⟩) a c))(n:w.frozen? ⟨F,0,none⟩=false)(h:1<a)(j:a<=c)(f:w.cell? ⟨g,o,none⟩=some (.int .u8 b)) :
  Calls prog 105 #[pO F 0] w fun e w'=>e=.returned (.int .u8 b)/\w'=w.setCell ⟨F,0,none⟩ (.slice (some ⟨g,o+1,none⟩) (a - 1) (c - 1)):=by
 have m:0<a:=by omega
 have i:(0:Int)<a:=by omega
 have k:¬c=1:=by omega
 have l:¬a=1:=by omega
 go_enter func105,ntmps105
 go_wp2
 go_ret
 exact⟨rfl,rfl⟩
theorem jce (F g o b d:Nat)(c:Nat->Int)(w:World)(p:w.cell? ⟨F,0,none⟩=some (.slice (some ⟨g,o,none⟩) b d))(x:w.frozen? ⟨F,0,none⟩=false)(s:8<b)(t:b<=d)(l:∀ a,a<8->w.cell? ⟨g,o+a,none⟩=some (.int .u8 (c a)))(k:∀ a,0<=c a/\c a<=255) :
  Calls prog 108 #[pO F 0] w fun e w'=>e=.returned (.int .u64 (cu c 8))/\w'=w.setCell ⟨F,0,none⟩ (.slice (some ⟨g,o+8,none⟩) (b - 8) (d - 8)):=by
 go_enter func108,ntmps108
 go_wp2
 go_loop [3,12] (fun n f=>∃ a:Nat,a<=8/\f=.int .i64 a/\n=.int .u64 (cu c a)) (fun _ f=>8 - (intOf f).toNat)
 case atStart=>exact⟨0,by omega,rfl,rfl⟩
 case round=>
  obtain⟨a,r,rfl,rfl⟩:=hrel;by_cases j:a<8
  ·have q:=l a j;have m:=k a;have h:=aa (pJ c k a j);have i:=aa m;go_wp2
   go_round
   case rel=>exact⟨a+1,by omega,by go_num,pC (vS _ _ h.out.1 h.out.2 i.out.1 i.out.2)⟩
   case measure=>simp [intOf];omega
  ·obtain rfl:a=8:=by omega
   have u:¬d=8:=by omega
   have v:¬b=8:=by omega
   go_wp2
   go_ret
   exact⟨rfl,rfl⟩
theorem jfh (g o m c:Nat)(b d e f h i j k:Int)(w:World)(B:g<w.heap.size)(C:8<=m)
  (r:w.cell? ⟨g,o,none⟩=some (.int .u8 b))
  (s:w.cell? ⟨g,o+1,none⟩=some (.int .u8 d))
  (t:w.cell? ⟨g,o+2,none⟩=some (.int .u8 e))
  (u:w.cell? ⟨g,o+3,none⟩=some (.int .u8 f))
  (v:w.cell? ⟨g,o+4,none⟩=some (.int .u8 h))
  (x:w.cell? ⟨g,o+5,none⟩=some (.int .u8 i))
  (y:w.cell? ⟨g,o+6,none⟩=some (.int .u8 j))
  (z:w.cell? ⟨g,o+7,none⟩=some (.int .u8 k)) :
  (Builtin.copy_ #[76,76] 3 #[.slice (some ⟨w.heap.size+1,0,none⟩) 8 8,.slice (some ⟨g,o,none⟩) m c]).run prog (((w.alloc (ow)).alloc (ow)).drew)
   = .ok (.int .i64 8) (((w.alloc (ow)).alloc (uw b d e f h i j k)).drew):=by
 have A:(((w.alloc (ow)).alloc (ow)).drew).heap[w.heap.size+1]?=some (.cells #[.int .u8 0,.int .u8 0,.int .u8 0,.int .u8 0,.int .u8 0,.int .u8 0,.int .u8 0,.int .u8 0] 63 (0,0)):=by
  show ((w.heap.push _).push _)[w.heap.size+1]?=_;rw [Array.getElem?_push,if_pos (by simp)]
 have E:∀ l n,([.int .u8 b,.int .u8 d,.int .u8 e,.int .u8 f,.int .u8 h,.int .u8 i,.int .u8 j,.int .u8 k]:List Value)[l]?=some n->(((w.alloc (ow)).alloc (ow)).drew).cell? ((⟨g,o,none⟩:Addr).add l)=some n:=by
  intro l n a;rw [Addr.add_lit];show ((w.alloc (ow)).alloc (ow)).cell? ⟨g,o+l,none⟩=some n;rw [World.cell?_alloc_lt _ _ ⟨g,o+l,none⟩ (by simp;omega),World.cell?_alloc_lt _ _ ⟨g,o+l,none⟩ B];match l,a with
  | 0,a=>simp at a;subst a;exact r
  | 1,a=>simp at a;subst a;exact s
  | 2,a=>simp at a;subst a;exact t
  | 3,a=>simp at a;subst a;exact u
  | 4,a=>simp at a;subst a;exact v
  | 5,a=>simp at a;subst a;exact x
  | 6,a=>simp at a;subst a;exact y
  | 7,a=>simp at a;subst a;exact z
 have D:Nat.min m 8=8:=Nat.min_eq_right C;rw [run_copy_row (P:=prog) _ 76 76 3 5 (w.heap.size+1) 0 8 8 ⟨g,o,none⟩ m c _ 63 [.int .u8 b,.int .u8 d,.int .u8 e,.int .u8 f,.int .u8 h,.int .u8 i,.int .u8 j,.int .u8 k] underlying76 (by kernel_rfl) A (by rw [D];rfl) E (by simp) (by simp [Value.oneCell'])];have q:(((w.alloc (ow)).alloc (ow)).drew).setRow (w.heap.size+1) #[.int .u8 b,.int .u8 d,.int .u8 e,.int .u8 f,.int .u8 h,.int .u8 i,.int .u8 j,.int .u8 k]=((w.alloc (ow)).alloc (uw b d e f h i j k)).drew:=by
  show (((w.alloc (ow)).alloc (ow)).setRow (w.heap.size+1) #[.int .u8 b,.int .u8 d,.int .u8 e,.int .u8 f,.int .u8 h,.int .u8 i,.int .u8 j,.int .u8 k]).drew=_;have p:=World.setRow_alloc_new (w.alloc (ow)) #[.int .u8 0,.int .u8 0,.int .u8 0,.int .u8 0,.int .u8 0,.int .u8 0,.int .u8 0,.int .u8 0] #[.int .u8 b,.int .u8 d,.int .u8 e,.int .u8 f,.int .u8 h,.int .u8 i,.int .u8 j,.int .u8 k] 63;rw [World.size_alloc] at p;rw [p]
 simp only [List.take_zero,List.nil_append,List.length_cons,List.length_nil];exact congrArg _ q
theorem jge (F g o a c:Nat)(b d f h i j k l:Int)(w:World)(z:F<w.heap.size)(x:g<w.heap.size)(B:8<a)(D:a<=c)(y:w.cell? ⟨F,0,none⟩=some (.slice (some ⟨g,o,none⟩) a c))(H:w.frozen? ⟨F,0,none⟩=false)
  (m:w.cell? ⟨g,o,none⟩=some (.int .u8 b))
  (n:w.cell? ⟨g,o+1,none⟩=some (.int .u8 d))
  (p:w.cell? ⟨g,o+2,none⟩=some (.int .u8 f))
  (q:w.cell? ⟨g,o+3,none⟩=some (.int .u8 h))
  (r:w.cell? ⟨g,o+4,none⟩=some (.int .u8 i))
  (s:w.cell? ⟨g,o+5,none⟩=some (.int .u8 j))
  (t:w.cell? ⟨g,o+6,none⟩=some (.int .u8 k))
  (u:w.cell? ⟨g,o+7,none⟩=some (.int .u8 l)) :
  Calls prog 106 #[pO F 0] w fun e w'=>e=.returned (oE b d f h i j k l)/\Below w.heap.size (w.setCell ⟨F,0,none⟩ (.slice (some ⟨g,o+8,none⟩) (a - 8) (c - 8))) w':=by
 have A:=jfh g o a c b d f h i j k l w x (by omega) m n p q r s t u;have E:¬c=8:=by omega
 have G:¬a=8:=by omega
 have C:(8:Int)<=a:=by omega
 clear m n p q r s t u;go_enter func106,ntmps106
 go_wp2
 go_region
 go_wp2
 exact bodyPost_ret (v:=(oE b d f h i j k l)) (by simp [results,results106,go_sem]) rfl ⟨rfl,(((Below.refl _ _).alloc (by simp) _).alloc (by simp) _).drew⟩
end Go.Proofs.YtnlgndpcddngoaaGreatDoor
namespace Go.Proofs.YtnlgndpcddngoaaGreatDoor
open Go.Proofs.Tryz
open Go.ChangeShapes Go.WideShapes Go.ChangeAt Go.RowKit
variable [dK] [iK]
theorem Tryz.own:ownKnob prog.godebug=none:=by kernel_rfl
theorem Tryz.laidOut:laidOutB prog=true:=by kernel_rfl
theorem Tryz.et:prog.globalNamed "errors.errorType"=some 0:=by kernel_rfl
theorem Tryz.rt:(prog.cutTypes.find? (·.1== "internal/reflectlite.rtype")).map (·.2)=some 236:=by kernel_rfl
theorem Tryz.oneRow:((List.range 410).filter fun t=>prog.rowNamed t [101,114,114,111,114])=[97]:=by kernel_rfl
theorem Tryz.size:prog.types.size=410:=by kernel_rfl
abbrev jeW:List (String×DataW Unit):=[("math/bits.deBruijn32tab",Rows.laid_math_bits_deBruijn32tab),("math/bits.deBruijn64tab",Rows.laid_math_bits_deBruijn64tab),("internal/strconv.uint64pow10",Rows.laid_internal_strconv_uint64pow10),("errors.errorType",Rows.laid_errors_errorType)]
def jbH:List (DataW Unit)->List Value
 | []=>[]
 | .lit (.int k n) :: r=>.int k n :: jbH r
 | _ :: r=>jbH r
def sE:DataW Unit->Array Value
 | .agg l=>(jbH l).toArray
 | _=>#[]
def setc (c:Array Value):Obj->Obj
 | .cells _ t f=>.cells c t f
 | o=>o
def jgg (w:World):World:={ w with heap:=(((w.heap.modify 0 (setc #[.iface 236 (.agg #[.pointer (some ⟨5,97,none⟩)])])).modify 2 (setc (sE Rows.laid_internal_strconv_uint64pow10))).modify 3 (setc (sE Rows.laid_math_bits_deBruijn32tab))).modify 4 (setc (sE Rows.laid_math_bits_deBruijn64tab)) }
theorem kT {a:World}(j:laidMetH prog jeW a):a.cell? ⟨0,0,none⟩=some (.iface 236 (.agg #[.pointer (some ⟨5,97,none⟩)])):=by
 have k:laidMet prog [("math/bits.deBruijn32tab",Rows.laid_math_bits_deBruijn32tab),("math/bits.deBruijn64tab",Rows.laid_math_bits_deBruijn64tab),("internal/strconv.uint64pow10",Rows.laid_internal_strconv_uint64pow10)] a/\handlesMet prog [("errors.errorType",Rows.laid_errors_errorType)] a:=j;obtain⟨m,p,o,d,e,f,g,b⟩:=k.2 _ (List.mem_singleton.2 rfl);have i:m=[101,114,114,111,114]:=(Option.some.inj d).symm;subst i;obtain rfl:=Option.some.inj (Tryz.rt.symm.trans e);have c:o∈(List.range 410).filter fun n=>prog.rowNamed n [101,114,114,111,114]:=List.mem_filter.2 ⟨List.mem_range.2 (by rw [<-Tryz.size];exact f),g⟩;rw [Tryz.oneRow] at c;obtain rfl:=List.mem_singleton.1 c;have l:typeHandle prog 97=.pointer (some ⟨5,97,none⟩):=by kernel_rfl
 rw [l] at b;simpa using World.var?_cell Tryz.et b 0
section
variable {H:Type}{enc:TypeId×Value->H}{P:Program}{w:World}{base:Nat}{spare:Nat->Bool}{held:Bool}
theorem jeI {t q r s u:TypeId}{args:Array Value}{o:List (DataW H)}{ps:List MemPlace}(x:DataW.TrodAll enc P w base spare held [t,q,r,s,u] args.toList o ps) :
  ∃ v k l m n d a b c e p f g i j,args=#[v,k,l,m,n]/\o=[d,a,b,c,e]/\ps=p ++ f ++ g ++ i ++ j/\DataW.Trod enc P w base spare held t v d p/\DataW.Trod enc P w base spare held q k a f/\DataW.Trod enc P w base spare held r l b g/\DataW.Trod enc P w base spare held s m c i/\DataW.Trod enc P w base spare held u n e j:=by
 obtain⟨v,V,d,J,p,Q,O,rfl,rfl,y,D⟩:=trodAll_cons x;obtain⟨k,W,a,K,f,R,rfl,rfl,rfl,z,E⟩:=trodAll_cons D;obtain⟨l,X,b,L,g,S,rfl,rfl,rfl,A,F⟩:=trodAll_cons E;obtain⟨m,Y,c,M,i,T,rfl,rfl,rfl,B,G⟩:=trodAll_cons F;obtain⟨n,Z,e,N,j,U,rfl,rfl,rfl,C,I⟩:=trodAll_cons G;obtain⟨rfl,rfl,rfl⟩:=trodAll_nil I;exact⟨v,k,l,m,n,d,a,b,c,e,p,f,g,i,j,by cases args;simp_all,rfl,by simp,y,z,A,B,C⟩
theorem je3 {t k l m n:TypeId}{v o q r s:Value}{d f g i j:DataW H}{p a b c e:List MemPlace}(u:DataW.Trod enc P w base spare held t v d p)(x:DataW.Trod enc P w base spare held k o f a)
  (y:DataW.Trod enc P w base spare held l q g b) (z:DataW.Trod enc P w base spare held m r i c) (A:DataW.Trod enc P w base spare held n s j e):DataW.TrodAll enc P w base spare held [t,k,l,m,n] [v,o,q,r,s] [d,f,g,i,j] (p ++ (a ++ (b ++ (c ++ e)))):=⟨p,a ++ (b ++ (c ++ e)),u,trodAll_mk4 x y z A,rfl⟩
end
end Go.Proofs.YtnlgndpcddngoaaGreatDoor
