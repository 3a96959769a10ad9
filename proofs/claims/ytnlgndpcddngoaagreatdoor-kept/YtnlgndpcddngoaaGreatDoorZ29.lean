import Derived.Test.YtnlgndpcddngoaaGreatDoorZ08
import Derived.Deep.RegionHeld3
import Derived.Test.YtnlgndpcddngoaaGreatDoorZ32
import Derived.Test.YtnlgndpcddngoaaGreatDoorZ23
import Derived.Deep.DeepCutAuto
set_option linter.all false
set_option maxRecDepth 100000
set_option maxHeartbeats 4000000
namespace Go.Proofs.YtnlgndpcddngoaaGreatDoor
open Go.Proofs.Tryz Go.RowKit Go.Maps
variable [dK] [iK]
theorem bU {P:Program}{g:Region.Mode}{b:Array Oper}{e:Exit->Act->World->Prop}{S:World->Prop}{i:Nat}{j:Oper}{v:Value}{k:Nat}{f:Array Bool}{a:Act}{w:World}(d:Option Nat)(q:b[i]?=some j)(o:j.dst=d)
  (s:Region.noSelect b=true) (p:Region.free g b f i=true) (r:(Region.ready g b f).contains i=true)
  (m:∀ c a w,e (.panic c) (a.put j.dst v) w->e (.panic c) a w) (t:YieldsIf P b S j v a) (n:S w)
  (l:wpAnyH P g b e S k (f.setIfInBounds i true) (a.put d v) w):wpAnyH P g b e S (k+1) f a w:=
 wpAnyH_take q s p r m t n (o▸l)
theorem qd (z s:Nat)(cn cp cq adm:Value)(a4 blk:Int)(C:Es)(k:Ky)(w:World)(dd:w.heap[z]?=some (oF cn cp a4 blk s cq adm))(c8:aH w s C)(b8:k.ok)(u E:Qt)(c5:ar k C=some (u,E))(n:Int)(B:Qt)(ck cl:Int)
  (fm:Hid (∀ p,Calls prog 137 #[oD u,.int .u64 a4,.int .u64 n] p fun e w'=>e=.returned (.tuple #[oD B,Oi ck cl])/\B7 p w')) (fs:n≠0) (gF:C.length<=12)
  (fn:Hid (∀ p,Calls prog 138 #[oD E,oD B] p fun e w'=>e=.returned (.bool false)/\B7 p w'))
  (c3:Qt) (d9:Hid (∀ p,Calls prog 139 #[oD B,.int .u64 blk] p fun e w'=>e=.returned (oD c3)/\B7 p w')) (a7 a5 a6:Int) (d6:World->Prop) (b5:World->(NP)->Prop) (ei:PP b5) (H:NP) (ej:∀ w P,b5 w P->w.cell? ⟨z,3,none⟩=some (.int .u64 blk))
  (d3:Hid (∀ p,B7 w p->d6 p)) (F:∀ b,H b->b<w.heap.size)
  (d8:Hid (∀ p ci,d6 p->aH p ci (aJ k (B,c3) C)->¬H ci->Calls prog 134 #[pO z 2,.map (some ci),Oi ck cl] p fun e w'=>e=.returned (ot a7 a5 a6)/\∃ P,b5 w' P/\ae H p w'/\∀ b,P b->H b\/p.heap.size<=b\/b=ci)) :
  Calls prog 111 #[pO z 2,om k,.int .u64 n] w fun e w'=>e=.returned (ot a7 a5 a6)/\cB w H w' b5:=by
 go_enter func111,ntmps111
 go_upto_region 1 with fail
 obtain⟨m,a1⟩:∃ m,m=(w.alloc (ol k)).alloc (og):=⟨_,rfl⟩;rw [<-a1];have bv:B7 w m:=a1▸(ba w).alloc (by simp) _;have b9:m.heap[w.heap.size]?=some (ol k):=a1▸aB (af _ _) _;have en:m.heap[w.heap.size+1]?=some (og):=a1▸aC (by simp);have cc:m.heap[z]?=some (oF cn cp a4 blk s cq adm):=a1▸aB (aB dd _) _;have a2:aH m s C:=ap.kept c8 (bv.block s (ap.lt c8));have gN:=am dd;clear a1 dd c8;have ez:=ab b9;have eA:=ce b9 (od);have eB:=ab cc;have eD:=ce cc (od);have eE:=cZ (w:=m.drew) (ap.kept a2 rfl) b8 c5;have eF:=cZ (w:=(m.alloc (od)).drew) (ap.kept a2 (ah _ _ (ap.lt a2))) b8 c5;go_cut [7,8] (fun f3 f4 dl=>f3=.pointer (some ⟨m.heap.size,0,none⟩)/\f4=.bool true/\dl=(m.alloc (oe u E)).drew)
 case first=>
  go_region
  all_goals (go_wp2_with fail;go_meet)
  all_goals exact⟨rfl,rfl,rfl⟩
 case rest=>
  obtain⟨rfl,rfl,rfl⟩:=hcut;have et:(m.alloc (oe u E)).heap[m.heap.size]?=some (oe u E):=af _ _;have ek:=aB b9 (oe u E);have eo:=aB en (oe u E);have er:=aB cc (oe u E);have el:aH (m.alloc (oe u E)) s C:=ap.kept a2 (ah _ _ (ap.lt a2));have eb:=bv.alloc bv.size (oe u E);have fo:=bv.size;clear ez eA eB eD eE eF b9 en cc a2;obtain⟨d,Q⟩:∃ d,d=(m.alloc (oe u E)).drew:=⟨_,rfl⟩;rw [<-Q];have J:d.heap[m.heap.size]?=some (oe u E):=Q▸et;have G:d.heap[w.heap.size]?=some (ol k):=Q▸ek;have b1:d.heap[w.heap.size+1]?=some (og):=Q▸eo;have A:d.heap[z]?=some (oF cn cp a4 blk s cq adm):=Q▸er;have cb:aH d s C:=Q▸ap.kept el rfl;have bw:B7 w d:=Q▸eb.drew;clear Q et ek eo er el eb;have g4:=am J;have g2:=am b1;have g3:=am A;go_upto_region 4 with fail
  go_cut [9,10] (fun f5 f2 dl=>∃ (T:World) (L K:Nat),T=dl/\f5=.pointer (some ⟨L,0,none⟩)/\f2=.pointer (some ⟨K,0,none⟩)/\T.heap[L]?=some (oH B)/\T.heap[K]?=some (.cells #[.int .u8 2,.int .u64 ck,.int .u64 cl] 40)/\d.heap.size<=L/\d.heap.size<=K/\B7 d T)
  case first=>
   have eS:=ab J 0;have eV:=ab J 1;have eX:=ab J 2;have e0:=ab J 3;have e1:=ab J 4;have e2:=ab A 2;simp at eS eV eX e0 e1 e2;have fV:d.heap.size≠m.heap.size:=by omega
   have f0:d.heap.size+1≠m.heap.size:=by omega
   have f1:d.heap.size≠z:=by omega
   have ha:d.heap.size+1≠z:=by omega
   have cy:=aa J;have N:=aa A;clear J G b1 A cb bw bv b8 c5 fo;go_region_held3 (fun w'=>w'.cell? ⟨m.heap.size,0,none⟩=some (.int .u8 u.kd)/\w'.cell? ⟨m.heap.size,1,none⟩=some (.int .u64 u.x)/\w'.cell? ⟨m.heap.size,2,none⟩=some (.int .u64 u.y)/\w'.cell? ⟨m.heap.size,3,none⟩=some (.int .u64 u.lv)/\w'.cell? ⟨m.heap.size,4,none⟩=some (.int .u64 u.wn)/\w'.cell? ⟨z,2,none⟩=some (.int .u64 a4)) (first | go_keep) (first
     | (go_at_call 137;refine (fm.out _).mono ?_;rintro e l ⟨rfl,c⟩
        have f6:=c.size;have a3:=(by first | exact car2 cy.out c | exact car1 cy.out c | exact eZ cy.out c:l.heap[m.heap.size]?=some (oe u E));have es:=(by first | exact car2 N.out c | exact car1 N.out c | exact eZ N.out c:l.heap[z]?=some (oF cn cp a4 blk s cq adm));have e3:=ab a3 0;have bo:=ab a3 1;have cG:=ab a3 2;have e4:=ab a3 3;have e5:=ab a3 4;have e6:=ab es 2;simp at e3 bo cG e4 e5 e6 f6;have g5:l.heap.size≠m.heap.size:=by omega
        have g6:l.heap.size+1≠m.heap.size:=by omega
        have g7:l.heap.size≠z:=by omega
        have g9:l.heap.size+1≠z:=by omega
        first
          | (have t:Below d.drew.heap.size d.drew l:=c;have q:=aa ((Below.refl d.heap.size d).drew.trans t);clear t)
          | (have t:Below (d.alloc (oq)).drew.heap.size (d.alloc (oq)).drew l:=c;have f:=carC t;have q:=aa (bel1 t);have dm:=ab f;have dn:=ag f;have f8:=ce f (oq);have f9:=jG f (oq);have gb:=ce f (og);have gc:=jG f (og);have gd:=ce f (oH B);have f7:=jG f (oH B);have ev:¬d.heap.size=l.heap.size:=(by omega);have ey:¬l.heap.size=d.heap.size:=(by omega);have R:=aa f;clear f t)
          | (have t:Below (d.alloc (og)).drew.heap.size (d.alloc (og)).drew l:=c;have f:=carC t;have q:=aa (bel1 t);have dm:=ab f;have dn:=ag f;have f8:=ce f (oq);have f9:=jG f (oq);have gb:=ce f (og);have gc:=jG f (og);have gd:=ce f (oH B);have f7:=jG f (oH B);have ev:¬d.heap.size=l.heap.size:=(by omega);have ey:¬l.heap.size=d.heap.size:=(by omega);have R:=aa f;clear f t)
          | (have t:Below ((d.alloc (oq)).alloc (og)).drew.heap.size ((d.alloc (oq)).alloc (og)).drew l:=c;obtain⟨f,O⟩:=carD t;have q:=aa (bel2 t);have dm:=ab f;have dn:=ag f;have gg:=ab O;have gl:=ag O;have R:=aa f;have cx:=aa O;clear f O t)
          | (have t:Below ((d.alloc (og)).alloc (oq)).drew.heap.size ((d.alloc (og)).alloc (oq)).drew l:=c;obtain⟨f,O⟩:=carD t;have q:=aa (bel2 t);have dm:=ab f;have dn:=ag f;have gg:=ab O;have gl:=ag O;have R:=aa f;have cx:=aa O;clear f O t)
        have hc:=ab (aB (af l (oq)) (og));have hd:=ag (aB (af l (oq)) (og));have he:=ab (aB (af l (og)) (oq));have hf:=ag (aB (af l (og)) (oq));have hg:=ab (af l (og));have hh:=ag (af l (og));have hi:=ab (af l (oq));have hj:=ag (af l (oq));have a0:=aa c;clear c a3 es))
   all_goals (go_wp2_with fail;go_meet)
   ·exact⟨_,_,_,rfl,rfl,rfl,aB (af _ _) _,aC (by simp),q.out.size,Nat.le_succ_of_le q.out.size,(q.out.alloc q.out.size _).alloc (by have:=q.out.size;simp;omega) _⟩
   ·exact⟨_,_,_,rfl,rfl,rfl,aC (by simp),aB (af _ _) _,Nat.le_succ_of_le q.out.size,q.out.size,(q.out.alloc q.out.size _).alloc (by have:=q.out.size;simp;omega) _⟩
   ·exact⟨_,_,_,rfl,rfl,rfl,pN (aB R.out _) (af _ _) ev lz q.out.size (q.out.alloc q.out.size _)⟩
   ·exact⟨_,_,_,rfl,rfl,rfl,pN R.out cx.out (by omega) (by omega) (by omega) q.out⟩
   ·exact⟨_,_,_,rfl,rfl,rfl,set3 (af _ _) (aB R.out _) ey q.out.size lz (q.out.alloc q.out.size _)⟩
   ·exact⟨_,_,_,rfl,rfl,rfl,pN cx.out R.out (by omega) (by omega) (by omega) q.out⟩
  case rest=>
   obtain⟨T,L,K,rfl,rfl,rfl,b7,b6,gV,gR,Z⟩:=hcut;have c6:=(Z.block _ (am G)).trans G;have db:=(Z.block _ (am b1)).trans b1;have ch:=(Z.block _ (am J)).trans J;have df:=(Z.block _ (am A)).trans A;have c9:aH T s C:=ap.kept cb (Z.block s (ap.lt cb));have cV:B7 w T:=bw.trans (Z.mono bw.size);have gt:=bw.size;have fv:=cV.size;have fU:=am db;have fD:=am b6;have fN:=am b7;have g0:¬w.heap.size+1=K:=by omega
   have g1:¬K=w.heap.size+1:=by omega
   clear G b1 J A cb Z bw;have eL:=ab b6;have eN:=ab b7;have eQ:=ab ch;have d1:=aa cV;have fl:(n==0)=false:=by simp [fs]
   go_upto_region 10 with (go_at_call 138;refine (fn.out _).mono ?_;rintro e d7 ⟨rfl,M⟩)
   have c7:=(M.block _ (am c6)).trans c6;have eq:=(M.block _ fU).trans db;have fz:=(M.block _ (am ch)).trans ch;have di:=(M.block _ (am df)).trans df;have cU:=(M.block _ fN).trans b7;have cR:=(M.block _ fD).trans b6;have em:aH d7 s C:=ap.kept c9 (M.block s (ap.lt c9));have ef:B7 w d7:=d1.out.trans (M.mono fv);have gv:=M.size;clear eL eN eQ c6 db ch df b7 b6 c9 M d1 cV;have dR:=aa ef;have b4:=aa em;have d2:=aa c7;have d4:=aa eq;have d5:=aa di;have dN:=aa cU;have dt:=aa cR;have dv:=aa (fun p (a:aH p s C)=>wt s C k (B,c3) p a (by omega) b8);have d0:=aa ej;have gp:=ab c7;have gq:=ab cU;have gr:=ab cR;have gs:=ab di;have fV:w.heap.size+1≠L:=by omega
   have f0:w.heap.size+1≠K:=by omega
   have f1:w.heap.size+1≠z:=by omega
   have hb:w.heap.size+1≠w.heap.size:=by omega
   clear c7 eq fz di cU cR em ef ej fl;refine wp_region_noPanic ?_
   refine wp_region_held_drew (S:=fun w'=>w'.cell? ⟨w.heap.size,0,none⟩=some (.int .u8 k.k0)/\w'.cell? ⟨w.heap.size,1,none⟩=some (.int .u8 k.k1)/\w'.cell? ⟨w.heap.size,2,none⟩=some (.int .u8 k.k2)/\w'.cell? ⟨w.heap.size,3,none⟩=some (.int .u8 k.k3)/\w'.cell? ⟨w.heap.size,4,none⟩=some (.int .u8 k.k4)/\w'.cell? ⟨w.heap.size,5,none⟩=some (.int .u8 k.k5)/\w'.cell? ⟨w.heap.size,6,none⟩=some (.int .u8 k.k6)/\w'.cell? ⟨w.heap.size,7,none⟩=some (.int .u8 k.k7)/\w'.cell? ⟨L,0,none⟩=some (.int .u8 B.kd)/\w'.cell? ⟨L,1,none⟩=some (.int .u64 B.x)/\w'.cell? ⟨L,2,none⟩=some (.int .u64 B.y)/\w'.cell? ⟨L,3,none⟩=some (.int .u64 B.lv)/\w'.cell? ⟨L,4,none⟩=some (.int .u64 B.wn)/\w'.cell? ⟨z,3,none⟩=some (.int .u64 blk)/\w'.cell? ⟨K,0,none⟩=some (.int .u8 2)/\w'.cell? ⟨K,1,none⟩=some (.int .u64 ck)/\w'.cell? ⟨K,2,none⟩=some (.int .u64 cl)) (by kernel_rfl) ?_ (fun eg=>?_)
   ·(try dsimp only)
    go_keep
   refine bU (i:=0) (v:=?_) (some 56) rfl rfl (by kernel_rfl) (by kernel_rfl) (by kernel_rfl) (fun _ _ _ a=>a) (il ⟨by rfl,?_⟩) (by assumption) ?_
   rotate_left
   ·intro w j;(try dsimp only at j)
    go_simp
    try with_reducible rfl
   simp only [Act.put,List.setIfInBounds_toArray,List.set_cons_zero,List.set_cons_succ];refine bU (i:=1) (v:=?_) (some 57) rfl rfl (by kernel_rfl) (by kernel_rfl) (by kernel_rfl) (fun _ _ _ a=>a) (il ⟨by rfl,?_⟩) (by assumption) ?_
   rotate_left
   ·intro w j;(try dsimp only at j)
    go_simp
    try with_reducible rfl
   simp only [Act.put,List.setIfInBounds_toArray,List.set_cons_zero,List.set_cons_succ];refine bU (i:=2) (v:=?_) (some 58) rfl rfl (by kernel_rfl) (by kernel_rfl) (by kernel_rfl) (fun _ _ _ a=>a) (il ⟨by rfl,?_⟩) (by assumption) ?_
   rotate_left
   ·intro w j;(try dsimp only at j)
    go_simp
    try with_reducible rfl
   simp only [Act.put,List.setIfInBounds_toArray,List.set_cons_zero,List.set_cons_succ];refine bU (i:=3) (v:=?_) (some 59) rfl rfl (by kernel_rfl) (by kernel_rfl) (by kernel_rfl) (fun _ _ _ a=>a) (il ⟨by rfl,?_⟩) (by assumption) ?_
   rotate_left
   ·intro w j;(try dsimp only at j)
    go_simp
    try with_reducible rfl
   simp only [Act.put,List.setIfInBounds_toArray,List.set_cons_zero,List.set_cons_succ];refine bU (i:=5) (v:=?_) (some 61) rfl rfl (by kernel_rfl) (by kernel_rfl) (by kernel_rfl) (fun _ _ _ a=>a) (il ⟨by rfl,?_⟩) (by assumption) ?_
   rotate_left
   ·intro w j;(try dsimp only at j)
    go_simp
    try with_reducible rfl
   simp only [Act.put,List.setIfInBounds_toArray,List.set_cons_zero,List.set_cons_succ];refine bU (i:=6) (v:=?_) (some 62) rfl rfl (by kernel_rfl) (by kernel_rfl) (by kernel_rfl) (fun _ _ _ a=>a) (il ⟨by rfl,?_⟩) (by assumption) ?_
   rotate_left
   ·intro w j;(try dsimp only at j)
    go_simp
    try with_reducible rfl
   simp only [Act.put,List.setIfInBounds_toArray,List.set_cons_zero,List.set_cons_succ];refine bU (i:=7) (v:=?_) (some 63) rfl rfl (by kernel_rfl) (by kernel_rfl) (by kernel_rfl) (fun _ _ _ a=>a) (il ⟨by rfl,?_⟩) (by assumption) ?_
   rotate_left
   ·intro w j;(try dsimp only at j)
    go_simp
    try with_reducible rfl
   simp only [Act.put,List.setIfInBounds_toArray,List.set_cons_zero,List.set_cons_succ];refine bU (i:=8) (v:=?_) (some 64) rfl rfl (by kernel_rfl) (by kernel_rfl) (by kernel_rfl) (fun _ _ _ a=>a) (il ⟨by rfl,?_⟩) (by assumption) ?_
   rotate_left
   ·intro w j;(try dsimp only at j)
    go_simp
    try with_reducible rfl
   simp only [Act.put,List.setIfInBounds_toArray,List.set_cons_zero,List.set_cons_succ];refine bU (i:=9) (v:=?_) (some 65) rfl rfl (by kernel_rfl) (by kernel_rfl) (by kernel_rfl) (fun _ _ _ a=>a) (il ⟨by rfl,?_⟩) (by assumption) ?_
   rotate_left
   ·intro w j;(try dsimp only at j)
    go_simp
    try with_reducible rfl
   simp only [Act.put,List.setIfInBounds_toArray,List.set_cons_zero,List.set_cons_succ];refine bU (i:=10) (v:=?_) (some 66) rfl rfl (by kernel_rfl) (by kernel_rfl) (by kernel_rfl) (fun _ _ _ a=>a) (il ⟨by rfl,?_⟩) (by assumption) ?_
   rotate_left
   ·intro w j;(try dsimp only at j)
    go_simp
    try with_reducible rfl
   simp only [Act.put,List.setIfInBounds_toArray,List.set_cons_zero,List.set_cons_succ];refine bU (i:=11) (v:=?_) (some 67) rfl rfl (by kernel_rfl) (by kernel_rfl) (by kernel_rfl) (fun _ _ _ a=>a) (il ⟨by rfl,?_⟩) (by assumption) ?_
   rotate_left
   ·intro w j;(try dsimp only at j)
    go_simp
    try with_reducible rfl
   simp only [Act.put,List.setIfInBounds_toArray,List.set_cons_zero,List.set_cons_succ];refine bU (i:=15) (v:=?_) (some 71) rfl rfl (by kernel_rfl) (by kernel_rfl) (by kernel_rfl) (fun _ _ _ a=>a) (il ⟨by rfl,?_⟩) (by assumption) ?_
   rotate_left
   ·intro w j;(try dsimp only at j)
    go_simp
    try with_reducible rfl
   simp only [Act.put,List.setIfInBounds_toArray,List.set_cons_zero,List.set_cons_succ];refine wpAnyH_ready (rs:=[4,12]) (by kernel_rfl) (by simp) ?_
   refine AllReadyH.cons (o:={ dst:=some 60,op:=Op.load 121 (Operand.tmp 59),type:=121,pos:= "book.go:73",after:=#[{ on:=3,ground:=Ground.data }],guard:=none }) rfl (fun r g=>?_) ?_
   ·go_simp
    refine g.out _ _ ?_ (fun cX=>?_)
    ·(try dsimp only)
     go_keep
    clear g r eg;(try simp only [Act.put,List.setIfInBounds_toArray,List.set_cons_zero,List.set_cons_succ])
    refine wpAnyH_ready (rs:=[12]) (by kernel_rfl) (by simp) ?_
    refine AllReadyH.cons (o:={ dst:=some 68,op:=Op.call { callee:=Callee.value (Operand.func 139),args:=#[Operand.tmp 63,Operand.tmp 67],argTypes:=#[173,23] },type:=173,pos:= "book.go:73",after:=#[{ on:=7,ground:=Ground.data },{ on:=11,ground:=Ground.data }],guard:=none }) rfl (fun r g=>?_) ?_
    ·go_simp
     go_at_call 139
     refine (d9.out _).mono ?_
     rintro e l ⟨rfl,c⟩;have ds:=c.size;simp at ds;have cr:=aa (dR.out.drew.trans (c.mono (by simp;omega)));have G:=eZ d2.out c;have X:=eZ dN.out c;have V:=eZ dt.out c;have A:=eZ d5.out c;have bk:=aa (eZ d4.out c);have cv:Hid (aH l s C):=aa (ap.kept b4.out (c.block s (ap.lt b4.out)));have bg:=aa G;have N:=aa A;have bb:=aa X;have a8:=aa V;have e7:=ab G;have e8:=ab X;have e9:=ab V;have fa:=ab A;clear c G X V A;go_wp2_with fail
     refine g.out _ _ ?_ (fun c0=>?_)
     ·(try dsimp only)
      go_keep
     clear g r cX;(try simp only [Act.put,List.setIfInBounds_toArray,List.set_cons_zero,List.set_cons_succ])
     refine bU (i:=13) (v:=?_) (some 69) rfl rfl (by kernel_rfl) (by kernel_rfl) (by kernel_rfl) (fun _ _ _ a=>a) (il ⟨by rfl,?_⟩) (by assumption) ?_
     rotate_left
     ·intro w j;(try dsimp only at j)
      go_simp
      try with_reducible rfl
     simp only [Act.put,List.setIfInBounds_toArray,List.set_cons_zero,List.set_cons_succ];refine wpAnyH_ready (rs:=[14]) (by kernel_rfl) (by simp) ?_
     refine AllReadyH.cons (o:={ dst:=some 70,op:=Op.call { callee:=Callee.value (Operand.func 135),args:=#[Operand.tmp 60,Operand.tmp 61,Operand.tmp 69],argTypes:=#[121,63,177] },type:=121,pos:= "book.go:73",after:=#[{ on:=4,ground:=Ground.data },{ on:=5,ground:=Ground.data },{ on:=13,ground:=Ground.data },{ on:=12,ground:=Ground.chain }],guard:=none }) rfl (fun r g=>?_) ?_
     ·go_simp
      go_at_call 135
      refine (dv.out _ cv.out).mono ?_
      rintro e dk ⟨nb,rfl,b0,bF,y⟩;have go:=y.size;have a0:=aa (cr.out.trans (y.mono (by omega)));have ao:=(y.block _ (am bg.out)).trans bg.out;have Y:=(y.block _ (am bb.out)).trans bb.out;have W:=(y.block _ (am a8.out)).trans a8.out;have b2:=(y.block _ (am N.out)).trans N.out;have bl:=aa ((y.block _ (am bk.out)).trans bk.out);have cw:=aa bF;have bj:=aa b0;have bi:=aa ao;have bd:=aa Y;have a9:=aa W;have fb:=ab ao;have fd:=ab Y;have ff:=ab W;have fi:=ab b2;clear y ao Y W b2 bF b0;go_wp2_with fail
      refine g.out _ _ ?_ (fun c1=>?_)
      ·(try dsimp only)
       go_keep
      clear g r c0;(try simp only [Act.put,List.setIfInBounds_toArray,List.set_cons_zero,List.set_cons_succ])
      refine wpAnyH_ready (rs:=[16]) (by kernel_rfl) (by simp) ?_
      refine AllReadyH.cons (o:={ dst:=some 72,op:=Op.call { callee:=Callee.value (Operand.func 134),args:=#[Operand.tmp 56,Operand.tmp 70,Operand.tmp 71],argTypes:=#[161,121,40] },type:=40,pos:= "book.go:73",after:=#[{ on:=0,ground:=Ground.data },{ on:=14,ground:=Ground.data },{ on:=15,ground:=Ground.data },{ on:=14,ground:=Ground.chain }],guard:=none }) rfl (fun r g=>?_) ?_
      ·go_simp
       go_at_call 134
       skip
       refine (d8.out dk nb (d3.out _ a0.out) cw.out (fun e=>by have:=F _ e;have:=bj.out;omega)).mono ?_
       rintro e b3 ⟨rfl,P,ad,D,bz⟩;have bK:=(D.block _ (am bi.out) (fun e=>by have:=F _ e;omega)).trans bi.out;have bu:=(D.block _ (am bd.out) (fun e=>by have:=F _ e;omega)).trans bd.out;have bs:=(D.block _ (am a9.out) (fun e=>by have:=F _ e;omega)).trans a9.out;have av:=(D.block _ (am bl.out) (fun e=>by have:=F _ e;omega)).trans bl.out;have cF:b3.cell? ⟨z,3,none⟩=some (.int .u64 blk):=d0.out _ _ ad;have x:=ab bK;have I:=ab bu;have U:=ab bs;have bo:=ab av;have cG:=ag av;have cs:Hid (∀ b,P b->H b\/w.heap.size+1<b):=aa (fun b c4=>(bz b c4).imp_right (fun a=>by have:=bj.out;omega));have ct:=aa ad;have cz:Hid (ae H w b3):=aa (ae.then (S:=H) (ae.of_below a0.out) D (fun _ _ a=>a));clear bK bu bs av ad D bz;go_wp2_with fail
       refine g.out _ _ ?_ (fun c2=>?_)
       ·(try dsimp only)
        exact⟨x 0,x 1,x 2,x 3,x 4,x 5,x 6,x 7,I 0,I 1,I 2,I 3,I 4,cF,U 0,U 1,U 2⟩
       clear g r c1;(try simp only [Act.put,List.setIfInBounds_toArray,List.set_cons_zero,List.set_cons_succ])
       refine wpAnyH_ready (rs:=[17]) (by kernel_rfl) (by simp) ?_
       refine AllReadyH.cons (o:={ dst:=none,op:=Op.store 40 (Operand.tmp 6) (Operand.tmp 72),type:=0,pos:= "book.go:73",after:=#[{ on:=16,ground:=Ground.data },{ on:=16,ground:=Ground.chain },{ on:=0,ground:=Ground.phase },{ on:=1,ground:=Ground.phase },{ on:=2,ground:=Ground.phase },{ on:=3,ground:=Ground.phase },{ on:=4,ground:=Ground.phase },{ on:=5,ground:=Ground.phase },{ on:=6,ground:=Ground.phase },{ on:=7,ground:=Ground.phase },{ on:=8,ground:=Ground.phase },{ on:=9,ground:=Ground.phase },{ on:=10,ground:=Ground.phase },{ on:=11,ground:=Ground.phase },{ on:=12,ground:=Ground.phase },{ on:=13,ground:=Ground.phase },{ on:=14,ground:=Ground.phase },{ on:=15,ground:=Ground.phase },{ on:=16,ground:=Ground.phase }],guard:=none }) rfl (fun r g=>?_) ?_
       ·go_simp
        refine g.out _ _ ?_ (fun fr=>?_)
        ·(try dsimp only)
         go_keep
        clear g r c2;(try simp only [Act.put,List.setIfInBounds_toArray,List.set_cons_zero,List.set_cons_succ])
        refine wpAnyH_done (by kernel_rfl) ?_ _
        refine NoPanic.normal ?_
        go_wp2
        refine bodyPost_ret (v:=(ot a7 a5 a6)) (by simp [results,results111,go_sem,bo]) rfl ⟨rfl,?_⟩
        exact fF ei a7 a5 a6 ct.out cz.out F (by omega) cs.out
       exact AllReadyH.nil
      exact AllReadyH.nil
     exact AllReadyH.nil
    exact AllReadyH.nil
   refine AllReadyH.cons (o:={ dst:=some 68,op:=Op.call { callee:=Callee.value (Operand.func 139),args:=#[Operand.tmp 63,Operand.tmp 67],argTypes:=#[173,23] },type:=173,pos:= "book.go:73",after:=#[{ on:=7,ground:=Ground.data },{ on:=11,ground:=Ground.data }],guard:=none }) rfl (fun r g=>?_) ?_
   ·go_simp
    go_at_call 139
    refine (d9.out _).mono ?_
    rintro e l ⟨rfl,c⟩;have ds:=c.size;simp at ds;have cr:=aa (dR.out.drew.trans (c.mono (by simp;omega)));have G:=eZ d2.out c;have X:=eZ dN.out c;have V:=eZ dt.out c;have A:=eZ d5.out c;have bk:=aa (eZ d4.out c);have cv:Hid (aH l s C):=aa (ap.kept b4.out (c.block s (ap.lt b4.out)));have bg:=aa G;have N:=aa A;have bb:=aa X;have a8:=aa V;have e7:=ab G;have e8:=ab X;have e9:=ab V;have fa:=ab A;clear c G X V A;go_wp2_with fail
    refine g.out _ _ ?_ (fun cX=>?_)
    ·(try dsimp only)
     go_keep
    clear g r eg;(try simp only [Act.put,List.setIfInBounds_toArray,List.set_cons_zero,List.set_cons_succ])
    refine bU (i:=13) (v:=?_) (some 69) rfl rfl (by kernel_rfl) (by kernel_rfl) (by kernel_rfl) (fun _ _ _ a=>a) (il ⟨by rfl,?_⟩) (by assumption) ?_
    rotate_left
    ·intro w j;(try dsimp only at j)
     go_simp
     try with_reducible rfl
    simp only [Act.put,List.setIfInBounds_toArray,List.set_cons_zero,List.set_cons_succ];refine wpAnyH_ready (rs:=[4]) (by kernel_rfl) (by simp) ?_
    refine AllReadyH.cons (o:={ dst:=some 60,op:=Op.load 121 (Operand.tmp 59),type:=121,pos:= "book.go:73",after:=#[{ on:=3,ground:=Ground.data }],guard:=none }) rfl (fun r g=>?_) ?_
    ·go_simp
     refine g.out _ _ ?_ (fun c0=>?_)
     ·(try dsimp only)
      go_keep
     clear g r cX;(try simp only [Act.put,List.setIfInBounds_toArray,List.set_cons_zero,List.set_cons_succ])
     refine wpAnyH_ready (rs:=[14]) (by kernel_rfl) (by simp) ?_
     refine AllReadyH.cons (o:={ dst:=some 70,op:=Op.call { callee:=Callee.value (Operand.func 135),args:=#[Operand.tmp 60,Operand.tmp 61,Operand.tmp 69],argTypes:=#[121,63,177] },type:=121,pos:= "book.go:73",after:=#[{ on:=4,ground:=Ground.data },{ on:=5,ground:=Ground.data },{ on:=13,ground:=Ground.data },{ on:=12,ground:=Ground.chain }],guard:=none }) rfl (fun r g=>?_) ?_
     ·go_simp
      go_at_call 135
      refine (dv.out _ cv.out).mono ?_
      rintro e dk ⟨nb,rfl,b0,bF,y⟩;have go:=y.size;have a0:=aa (cr.out.trans (y.mono (by omega)));have ao:=(y.block _ (am bg.out)).trans bg.out;have Y:=(y.block _ (am bb.out)).trans bb.out;have W:=(y.block _ (am a8.out)).trans a8.out;have b2:=(y.block _ (am N.out)).trans N.out;have bl:=aa ((y.block _ (am bk.out)).trans bk.out);have cw:=aa bF;have bj:=aa b0;have bi:=aa ao;have bd:=aa Y;have a9:=aa W;have fb:=ab ao;have fd:=ab Y;have ff:=ab W;have fi:=ab b2;clear y ao Y W b2 bF b0;go_wp2_with fail
      refine g.out _ _ ?_ (fun c1=>?_)
      ·(try dsimp only)
       go_keep
      clear g r c0;(try simp only [Act.put,List.setIfInBounds_toArray,List.set_cons_zero,List.set_cons_succ])
      refine wpAnyH_ready (rs:=[16]) (by kernel_rfl) (by simp) ?_
      refine AllReadyH.cons (o:={ dst:=some 72,op:=Op.call { callee:=Callee.value (Operand.func 134),args:=#[Operand.tmp 56,Operand.tmp 70,Operand.tmp 71],argTypes:=#[161,121,40] },type:=40,pos:= "book.go:73",after:=#[{ on:=0,ground:=Ground.data },{ on:=14,ground:=Ground.data },{ on:=15,ground:=Ground.data },{ on:=14,ground:=Ground.chain }],guard:=none }) rfl (fun r g=>?_) ?_
      ·go_simp
       go_at_call 134
       skip
       refine (d8.out dk nb (d3.out _ a0.out) cw.out (fun e=>by have:=F _ e;have:=bj.out;omega)).mono ?_
       rintro e b3 ⟨rfl,P,ad,D,bz⟩;have bK:=(D.block _ (am bi.out) (fun e=>by have:=F _ e;omega)).trans bi.out;have bu:=(D.block _ (am bd.out) (fun e=>by have:=F _ e;omega)).trans bd.out;have bs:=(D.block _ (am a9.out) (fun e=>by have:=F _ e;omega)).trans a9.out;have av:=(D.block _ (am bl.out) (fun e=>by have:=F _ e;omega)).trans bl.out;have cF:b3.cell? ⟨z,3,none⟩=some (.int .u64 blk):=d0.out _ _ ad;have x:=ab bK;have I:=ab bu;have U:=ab bs;have bo:=ab av;have cG:=ag av;have cs:Hid (∀ b,P b->H b\/w.heap.size+1<b):=aa (fun b c4=>(bz b c4).imp_right (fun a=>by have:=bj.out;omega));have ct:=aa ad;have cz:Hid (ae H w b3):=aa (ae.then (S:=H) (ae.of_below a0.out) D (fun _ _ a=>a));clear bK bu bs av ad D bz;go_wp2_with fail
       refine g.out _ _ ?_ (fun c2=>?_)
       ·(try dsimp only)
        exact⟨x 0,x 1,x 2,x 3,x 4,x 5,x 6,x 7,I 0,I 1,I 2,I 3,I 4,cF,U 0,U 1,U 2⟩
       clear g r c1;(try simp only [Act.put,List.setIfInBounds_toArray,List.set_cons_zero,List.set_cons_succ])
       refine wpAnyH_ready (rs:=[17]) (by kernel_rfl) (by simp) ?_
       refine AllReadyH.cons (o:={ dst:=none,op:=Op.store 40 (Operand.tmp 6) (Operand.tmp 72),type:=0,pos:= "book.go:73",after:=#[{ on:=16,ground:=Ground.data },{ on:=16,ground:=Ground.chain },{ on:=0,ground:=Ground.phase },{ on:=1,ground:=Ground.phase },{ on:=2,ground:=Ground.phase },{ on:=3,ground:=Ground.phase },{ on:=4,ground:=Ground.phase },{ on:=5,ground:=Ground.phase },{ on:=6,ground:=Ground.phase },{ on:=7,ground:=Ground.phase },{ on:=8,ground:=Ground.phase },{ on:=9,ground:=Ground.phase },{ on:=10,ground:=Ground.phase },{ on:=11,ground:=Ground.phase },{ on:=12,ground:=Ground.phase },{ on:=13,ground:=Ground.phase },{ on:=14,ground:=Ground.phase },{ on:=15,ground:=Ground.phase },{ on:=16,ground:=Ground.phase }],guard:=none }) rfl (fun r g=>?_) ?_
       ·go_simp
        refine g.out _ _ ?_ (fun fr=>?_)
        ·(try dsimp only)
         go_keep
        clear g r c2;(try simp only [Act.put,List.setIfInBounds_toArray,List.set_cons_zero,List.set_cons_succ])
        refine wpAnyH_done (by kernel_rfl) ?_ _
        refine NoPanic.normal ?_
        go_wp2
        refine bodyPost_ret (v:=(ot a7 a5 a6)) (by simp [results,results111,go_sem,bo]) rfl ⟨rfl,?_⟩
        exact fF ei a7 a5 a6 ct.out cz.out F (by omega) cs.out
       exact AllReadyH.nil
      exact AllReadyH.nil
     exact AllReadyH.nil
    exact AllReadyH.nil
   exact AllReadyH.nil
def gW (fs:Fs)(d:Bool->Option Ig):Prop:=∀ a,(∀ c,d a=some c->(∃ b,ar a fs=some b/\b.2=strOfNums c.bytes)/\c.ok/\(c.turn % 2==1)=a)/\(d a=none->∀ b,ar a fs=some b->ky b.2)
def fJ (a:Bool->Option Ig):Nat->List Ig
 | 0=>[]
 | 1=>(a false).toList
 | _=>(a false).toList ++ (a true).toList
theorem gy (c:Bool->Option Ig)(a:Nat)(e:a<2)(b:Bool)(d:b=((a:Int) % 2==1)):fJ c (a+1)=fJ c a ++ (c b).toList:=by
 match a,e with
 | 0,_=>subst d;rfl
 | 1,_=>subst d;rfl
theorem sX (a:Bool->Option Ig)(c:Nat):(fJ a c).length<=2:=by
 match c with
 | 0=>simp [fJ]
 | 1=>cases b:a false <;> simp [fJ,b]
 | n+2=>cases b:a false <;> cases d:a true <;> simp [fJ,b,d]
def irow (l:List (Ig×Value)):List Value:=l.flatMap fun a=>[.int .u64 a.1.turn,.int .u64 a.1.time,a.2]
theorem jar (l:List (Ig×Value))(p:Ig×Value):irow (l ++ [p])=irow l ++ [.int .u64 p.1.turn,.int .u64 p.1.time,p.2]:=by
 unfold irow;rw [List.flatMap_append];simp
theorem Tryz.infoImg:(prog.info? 169).map (fun i=>(i.zero,i.size,i.bytes))=some (some (Og),3,40):=by kernel_rfl
theorem qp (w:World)(a b c:Value)(t:TypeId):∀ e u,([a,b,c]:List Value)[e]?=some u->(w.alloc (.cells #[a,b,c] t)).cell? ((⟨w.heap.size,0,none⟩:Addr).add e)=some u:=by
 intro e u d;rw [Addr.add_lit,Nat.zero_add,World.cell?_alloc_at _ _ _ _ rfl];match e,d with
 | 0,d=>exact d
 | 1,d=>exact d
 | 2,d=>exact d
 | e+3,d=>simp at d
theorem ig.kept {w w':World}{v:Value}{bs:List Bool}(a:ig w v bs)(f:∀ g,v.ownBlock=some g->w'.heap[g]?=w.heap[g]?):ig w' v bs:=by
 obtain⟨b,c,rfl,a⟩:=a;refine⟨b,c,rfl,a.imp id ?_⟩
 rintro ⟨g,rfl,d⟩;exact⟨g,rfl,fun i e=>(World.cell?_of_block (w:=w) (f g rfl)).trans (d i e)⟩
structure LsI (w w1 wr:World)(g:Nat)(im:Bool->Option Ig)(j:Nat)(vW:Value)(l:List (Ig×Value)):Prop where
 lst:l.map Prod.fst=fJ im j
 own:wr.ownsRow w1.heap.size 169 3 vW l.length (irow l)
 rcs:∀ p∈l,∃ a c,p.2=.slice a p.1.ks.length c/\wr.ownsRow w.heap.size 175 13 p.2 p.1.ks.length (fx p.1.es p.1.ks)
 tab:bJ w1 wr g 1
theorem o7 (bs:List Bool)(b:Bool):(bs.any fun y=>b==y)=true↔b∈bs:=by
 rw [List.any_eq_true];constructor
 ·rintro ⟨y,c,a⟩;have:b=y:=by simpa using a
  exact this▸c
 ·intro a;exact⟨b,a,by simp⟩
theorem iU (v:Value)(bs:List Bool)(w:World)(f:ig w v bs)(j:bs.length<=2)(n:bs≠[]):Calls prog 145 #[v] w fun e w'=>e=.returned (.bool true)/\w'=w:=by
 have m:=aa (cK 0 w (by omega) (by omega));have q:=aa (cK 1 w (by omega) (by omega));have c:=eO v bs false w f j;have d:=eO v bs true w f j;obtain⟨o,b⟩:∃ a,a=bs.any (fun k=>false==k):=⟨_,rfl⟩;obtain⟨r,i⟩:∃ a,a=bs.any (fun k=>true==k):=⟨_,rfl⟩;have g:o=false->r=true:=fun e=>by
  rw [i,o7];rw [e] at b;cases bs with
  | nil=>exact absurd rfl n
  | cons s a=>
   cases s
   ·exact absurd ((o7 (false :: a) false).2 (by simp)) (by rw [<-b];simp)
   ·simp
 rw [<-b] at c;rw [<-i] at d;have l:=aa c;have p:=aa d;obtain⟨t,u,rfl,_⟩:=f;clear c d b i j n;cases o
 ·obtain rfl:=g rfl;clear g;go_enter func145,ntmps145
  go_wp2
  refine wp_loop_rounds 3 ?_
  rw [rounds_succ];go_wp2_with fail
  refine m.out.mono ?_
  rintro e w' ⟨rfl,rfl⟩;go_wp2_with fail
  refine l.out.mono ?_
  rintro e w' ⟨rfl,rfl⟩;go_wp2_with fail
  rw [rounds_succ];go_wp2_with fail
  refine q.out.mono ?_
  rintro e w' ⟨rfl,rfl⟩;go_wp2_with fail
  refine p.out.mono ?_
  rintro e w' ⟨rfl,rfl⟩;go_wp2
  go_ret
  exact⟨rfl,rfl⟩
 ·clear g;go_enter func145,ntmps145
  go_wp2
  refine wp_loop_rounds 3 ?_
  rw [rounds_succ];go_wp2_with fail
  refine m.out.mono ?_
  rintro e w' ⟨rfl,rfl⟩;go_wp2_with fail
  refine l.out.mono ?_
  rintro e w' ⟨rfl,rfl⟩;go_wp2
  go_ret
  exact⟨rfl,rfl⟩
theorem te (a:Value)(w:World):(Go.method 510 78 a "Read").run prog w=.ok (256,a) w:=by kernel_rfl
theorem jbo (a:Array Value)(w:World):Sem.run prog (callFunc 256 a) w=.ok (.enter 256 a) w:=by simp [go_sem]
def ve (b:Bool->Option Ig)(i:Ig):Prop:=(b (i.turn % 2==1)=some i)/\∀ a,b (!(i.turn % 2==1))=some a->i.turn=au a.turn
def nW (a:Bool->Option Ig)(i:Ig):Prop:=ve a i\/((∀ b,a b=none)/\i=⟨0,0,[],[]⟩)
theorem ig.ne {w:World}{v:Value}{bs:List Bool}(a:ig w v bs)(c:bs≠[]){x:Nat}{u:Value}(f:w.cell? ⟨x,0,none⟩=some u)(e:∀ s,u≠.string s):v.ownBlock≠some x:=by
 obtain⟨g,i,rfl,a⟩:=a;rcases a with a | ⟨j,rfl,d⟩
 ·exact absurd a c
 ·intro b;simp [Value.ownBlock] at b;subst b;have:=d 0 (List.length_pos_iff.2 c);rw [f] at this;injection this with this;exact e _ this
theorem ig.lt {w:World}{v:Value}{bs:List Bool}(a:ig w v bs)(b:bs≠[]){x:Nat}(c:v.ownBlock=some x):x<w.heap.size:=by
 obtain⟨e,f,rfl,a⟩:=a;rcases a with a | ⟨g,rfl,d⟩
 ·exact absurd a b
 ·simp [Value.ownBlock] at c;subst c;exact bT (d 0 (List.length_pos_iff.2 b))
theorem bJ.then {a b c:World}{g o:Nat}(d:bJ a b g o)(e:bJ b c g o):bJ a c g o:=
 ⟨e.tab,fun i f=>⟨(e.cel i f).1.trans (d.cel i f).1,(e.cel i f).2.trans (d.cel i f).2⟩,d.keep.then e.keep (fun _ _ d=>d)⟩
theorem bJ.of {w w':World}{g o:Nat}(a:cC w g o)(c:g<w.heap.size)(b:ae (fun _=>False) w w'):bJ w w' g o:=
 ⟨a.block (b.block g c (fun a=>a)),fun _ _=>⟨World.cell?_of_block (w:=w) (b.block g c (fun a=>a)),World.frozen?_of_block (w:=w) (b.block g c (fun a=>a))⟩,b.mono (fun _ a _=>a.elim)⟩
theorem jcm {w:World}{i j d e q r:Nat}{f g:Value}{o p:Nat}{s t:List Value}(k:w.ownsRow i d q f o s)(l:w.ownsRow j e r g p t)(n:d≠e){x:Nat}(b:f.ownBlock=some x)(c:g.ownBlock=some x):False:=by
 rcases k.2 with ⟨rfl,_⟩ | ⟨A,u,y,rfl,_,m,_⟩
 ·simp [Value.ownBlock] at b
 ·simp [Value.ownBlock] at b;subst b;rcases l.2 with ⟨rfl,_⟩ | ⟨B,v,z,rfl,_,a,_⟩
  ·simp [Value.ownBlock] at c
  ·simp [Value.ownBlock] at c;subst c;rw [m] at a;injection a with a;injection a with _ a _;exact n a
theorem jas (base:Nat)(f:Bool->Option Ig)(L:List (Ig×Value))(I:Value)(w:World)(v:w.ownsRow base 169 3 I L.length (irow L))(j:L.map Prod.fst=fJ f 2)(z:∀ p∈L,∃ a n c,p.2=.slice a n c)(y:∀ b i,f b=some i->i.ok/\(i.turn % 2==1)=b)(S:∃ b,f b≠none)(hrel:∀ a b,f false=some a->f true=some b->b.turn=au a.turn\/a.turn=au b.turn) :
  Calls prog 149 #[I] w fun e w'=>∃ p∈L,ve f p.1/\e=.returned (OS p.1.turn p.1.time (p.2))/\B7 w w':=by
 have M:∀ (i:Ig) (m:Value),L=[(i,m)]->ve f i->Calls prog 149 #[I] w fun e w'=>∃ p∈L,ve f p.1/\e=.returned (OS p.1.turn p.1.time (p.2))/\B7 w w':=fun i m e Q=>by
  subst e;obtain⟨r,t,s,rfl⟩:∃ a n c,m=.slice a n c:=z (i,m) (by simp);obtain⟨u,A,rfl,_,B⟩:=v.form (by simp);have d:∀ l,l<3->w.cell? ⟨u,l,none⟩=([.int .u64 i.turn,.int .u64 i.time,.slice r t s]:List Value)[l]?:=fun l H=>v.cellAt l (by simpa using H);refine (tc u A i.turn i.time r t s w B (d 0 (by omega)) (d 1 (by omega)) (d 2 (by omega))).mono ?_
  rintro e w' ⟨rfl,q⟩;exact⟨(i,.slice r t s),by simp,Q,rfl,q⟩
 have R:fJ f 2=(f false).toList ++ (f true).toList:=rfl;rw [R] at j;cases k:f false with
 | none=>
  cases g:f true with
  | none=>
   obtain⟨b,q⟩:=S;cases b
   ·exact absurd k q
   ·exact absurd g q
  | some b=>
   rw [k,g] at j;have J:=(y true b g).2;match L,j with
   | [(i,m)],j=>
    have e:i=b:=by simpa using j
    subst e;exact M i m rfl ⟨by rw [J];exact g,fun a G=>by rw [J] at G;rw [show (!true)=false from rfl,k] at G;cases G⟩
 | some a=>
  have C:=(y false a k).2;cases g:f true with
  | none=>
   rw [k,g] at j;match L,j with
   | [(i,m)],j=>
    have e:i=a:=by simpa using j
    subst e;exact M i m rfl ⟨by rw [C];exact k,fun N o=>by rw [C] at o;rw [show (!false)=true from rfl,g] at o;cases o⟩
  | some b=>
   have K:=(y true b g).2;rw [k,g] at j;match L,j,v,z with
   | [(i,m),(i',v')],j,v,z=>
    obtain⟨O,P⟩:i=a/\i'=b:=by simpa using j
    subst O P;obtain⟨r,t,s,rfl⟩:∃ a n c,m=.slice a n c:=z (i,m) (by simp);obtain⟨D,F,E,rfl⟩:∃ a n c,v'=.slice a n c:=z (i',v') (by simp);obtain⟨u,A,rfl,_,B⟩:=v.form (by simp);have d:∀ l,l<6->w.cell? ⟨u,l,none⟩=([.int .u64 i.turn,.int .u64 i.time,.slice r t s,.int .u64 i'.turn,.int .u64 i'.time,.slice D F E]:List Value)[l]?:=fun l H=>v.cellAt l (by simpa using H);rcases hrel i i' k g with x | x
    ·refine (li u A i.turn i.time i'.turn i'.time r D t s F E true w B (d 0 (by omega)) (d 1 (by omega)) (d 2 (by omega)) (d 3 (by omega)) (d 4 (by omega)) (d 5 (by omega)) (fun w=>by rw [x];exact wL i.turn w (y false i k).1.turn)).mono ?_
     rintro e w' ⟨rfl,q⟩;refine⟨(i',.slice D F E),by simp,⟨by rw [K];exact g,fun N o=>?_⟩,rfl,q⟩
     rw [K,show (!true)=false from rfl,k] at o;cases o
     exact x
    ·refine (li u A i.turn i.time i'.turn i'.time r D t s F E false w B (d 0 (by omega)) (d 1 (by omega)) (d 2 (by omega)) (d 3 (by omega)) (d 4 (by omega)) (d 5 (by omega)) (fun w=>by rw [x];exact wK i'.turn w (y true i' g).1.turn)).mono ?_
     rintro e w' ⟨rfl,q⟩;refine⟨(i,.slice r t s),by simp,⟨by rw [C];exact k,fun N o=>?_⟩,rfl,q⟩
     rw [C,show (!false)=true from rfl,g] at o;cases o
     exact x
theorem jdU (a:Option Addr)(c:Nat)(w:World) :
  Calls prog 149 #[.slice a 0 c] w fun e w'=>e=.returned (Og)/\B7 w w':=by
 go_enter func149,ntmps149
 go_wp2
 refine wp_loop_rounds 1 ?_
 rw [rounds_succ];go_wp2
 refine bodyPost_ret (v:=Og) (by simp [results,results149,go_sem]) rfl ⟨rfl,?_⟩
 exact (ba w).alloc (by simp) _
structure OpF (w:World)(db mb nb:Nat)(fs:Fs)(im:Bool->Option Ig)(l f:Int):Prop where
 hd:w.heap[db]?=some (ox mb nb l f)
 hl:l≠0
 hf:f≠0
 hD:ak w nb fs
 hI:gW fs im
 some_:fs≠[]
 rel:∀ a b,im false=some a->im true=some b->b.turn=au a.turn\/a.turn=au b.turn
def eC (b:Es)(ks:List Ky):Es:=ks.map fun a=>(a,(aL b a,aL b a))
theorem jcg (a:Es)(ks:List Ky)(k:Ky)(b:k ∉ ks):aJ k (aL a k,aL a k) (eC a ks)=eC a (ks ++ [k]):=by
 have c:ar k (eC a ks)=none:=dy (by unfold eC;rw [List.map_map];simpa using b);unfold aJ;rw [c];unfold eC;simp
theorem we (b:Es):∀ (ks:List Ky) (a:Nat) (k:Ky),ks[a]?=some k->∀ x,x<13->(fx b ks)[a * 13+x]?=(ft k ++ fw (aL b k))[x]?
 | [],a,k,h,_,_=>by simp at h
 | k0 :: r,0,k,h,x,hx=>by
  have d:k0=k:=by simpa using h
  subst d;unfold fx;rw [List.flatMap_cons,Nat.zero_mul,Nat.zero_add,List.getElem?_append_left (by simpa [ft,fw] using hx)]
 | k0 :: r,a+1,k,h,x,hx=>by
  have e:r[a]?=some k:=by simpa using h
  have c:=we b r a k e x hx;unfold fx at c ⊢;rw [List.flatMap_cons,List.getElem?_append_right (by simp [ft,fw];omega)];rw [show (a+1) * 13+x - (ft k0 ++ fw (aL b k0)).length=a * 13+x by simp [ft,fw];omega];exact c
theorem jaz {w:World}{base e i:Nat}{v:Value}{n:Nat}{j:List Value}(d:w.ownsRow base e i v n j){x:Nat}(a:v.ownBlock=some x){g:Array MapEntry}{c:Nat}(f:w.heap[x]?=some (.map g c)):False:=by
 rcases d.2 with ⟨rfl,_⟩ | ⟨m,k,l,rfl,_,b,_⟩
 ·simp [Value.ownBlock] at a
 ·simp [Value.ownBlock] at a;subst a;rw [f] at b;cases b
theorem jgh (g db P nb:Nat)(fs:Fs)(l f m l' u:Int)(dn:Bool)(w:World)(z:w.cell? ⟨g,0,none⟩=some (.iface 78 (.pointer (some ⟨db,0,none⟩))))
  (x:w.heap[db]?=some (ox P nb l f)) (n:ak w nb fs) (a2:fs≠[]) (F:fQ l f m l' u dn) :
  Calls prog 118 #[pO g 0] w fun e w'=>e=.returned (.tuple #[Og,.iface 53 (.int .i64 m)])/\w'.heap[db]?=some (OK P nb l' u dn)/\ae (fun c=>c=db) w w':=by
 obtain⟨a,j⟩:∃ a,a=w.alloc (oG):=⟨_,rfl⟩;have a1:=bT z;have ao:=am x;have G:a.heap[w.heap.size]?=some (oG):=j▸af _ _;have i:B7 w a:=j▸ba w;have L:a.cell? ⟨g,0,none⟩=some (.iface 78 (.pointer (some ⟨db,0,none⟩))):=(i.cell (p:=⟨g,0,none⟩) a1).trans z;have y:a.heap[db]?=_:=(i.block db ao).trans x;have H:ak a nb fs:=n.kept (i.block nb n.map.lt) (fun d a4=>i.block _ (am (n.str d a4)));have a9:=eT (.pointer (some ⟨db,0,none⟩));have bb:=ex (.pointer (some ⟨db,0,none⟩));have V:=aa (iX db nb _ _ _ _ fs a y H);have r:a.heap.size=w.heap.size+1:=by rw [j];simp
 have W:=aa r;have B:=aa i;have T:=aa y;have Y:=aa F;clear n H x y i r z F;go_enter func118,ntmps118
 go_upto_region 1 with fail
 rw [<-j];clear j;go_wp2_with fail
 refine V.out.mono ?_
 rintro e s ⟨Q,t,rfl,I,a3,o,k⟩;have ad:t≠[]:=by
  intro e;obtain⟨d,q,a0⟩:∃ d q,fs=d :: q:=by
   cases fs with
   | nil=>exact absurd rfl a2
   | cons d q=>exact⟨d,q,rfl⟩
  have:=(I d.1).2 (by rw [a0];simp [ar]);rw [e] at this;cases this
 have r:=W.out;have a8:s.cell? ⟨g,0,none⟩=some (.iface 78 (.pointer (some ⟨db,0,none⟩))):=(k.cell (p:=⟨g,0,none⟩) (by show g<a.heap.size;omega)).trans L;have E:=(k.block db (by omega)).trans T.out;have O:=(k.block w.heap.size (by omega)).trans G;obtain⟨a5,a6,N,_⟩:=o;have o:ig s Q t:=⟨a5,a6,N,by assumption⟩;have U:=aa (iU Q t s o a3 ad);have X:=aa (jc0 db _ _ _ l f m l' u dn s E Y.out);have R:=aa (B.out.trans (k.mono B.out.size));have C:=aa O;subst N;clear o k E I L r O G;go_wp2_with fail
 refine U.out.mono ?_
 rintro e bg ⟨rfl,K⟩;have av:=K.symm;clear K;subst av;go_wp2_with fail
 refine X.out.mono ?_
 rintro e bd ⟨rfl,J,A⟩;have M:=(A.block w.heap.size (am C.out) (fun e=>by omega)).trans C.out;have Z:=ab M;have a7:=ag M;have D:=aa (aN J ((ae.of_below (S:=fun c=>c=db) R.out).trans A));clear J A;go_wp2_with fail
 refine bodyPost_ret (v:=.tuple #[Og,.iface 53 (.int .i64 m)]) (by simp [results,results118,go_sem,Z]) rfl ⟨rfl,?_,?_⟩
 ·rw [ac (by omega),ac (by omega),ac (by omega)];exact D.out.1
 ·exact ae.set (b:=w.heap.size) (ae.set (b:=w.heap.size) (ae.set (b:=w.heap.size) D.out.2 (ir lz) _ _) (ir lz) _ _) (ir lz) _ _
structure OpE (w:World)(db mb nb:Nat)(fs:Fs)(l f er l' f':Int)(dn:Bool):Prop where
 hd:w.heap[db]?=some (ox mb nb l f)
 hD:ak w nb fs
 ne:fs≠[]
 wf:fQ l f er l' f' dn
theorem OpE.kept {w w':World}{db e nb:Nat}{fs:Fs}{l f c l' d:Int}{dn:Bool}(a:OpE w db e nb fs l f c l' d dn)(b:B7 w w'):OpE w' db e nb fs l f c l' d dn:=
 ⟨(b.block db (am a.hd)).trans a.hd,a.hD.kept (b.block nb a.hD.map.lt) (fun i g=>b.block _ (am (a.hD.str i g))),a.ne,a.wf⟩
theorem jcl (o B g db n nb:Nat)(fs:Fs)(l f k l' m:Int)(dn:Bool)(w:World)(v:w.heap[o]?=some (oW g))(q:w.heap[B]?=some (oG))(r:w.cell? ⟨g,0,none⟩=some (.iface 78 (.pointer (some ⟨db,0,none⟩))))(i:B≠db)(a:OpE w db n nb fs l f k l' m dn) :
  Calls prog 117 #[pO o 0,.pointer (some ⟨B,0,none⟩)] w fun e w'=>e=.returned (.iface 53 (.int .i64 k))/\w'.heap[db]?=some (OK n nb l' m dn)/\ae (fun c=>c=B\/c=db) w w':=by
 have s:=aa (jgh g db n nb fs l f k l' m dn w r a.hd a.hD a.ne a.wf);have u:=ab v;have x:=am q;clear r a;go_enter func117,ntmps117
 go_wp2_with fail
 refine s.out.mono ?_
 rintro e A ⟨rfl,j,d⟩;have p:=(d.block B x i).trans q;have y:=ab p;have z:=ag p;have t:=aa (aN j d);clear j d u;go_wp2
 go_ret
 obtain⟨j,d⟩:=t.out;refine⟨rfl,?_,?_⟩
 ·rw [ac (fun e=>i e.symm),ac (fun e=>i e.symm),ac (fun e=>i e.symm)];exact j
 ·exact ae.set (S:=fun c=>c=B\/c=db) (b:=B) (ae.set (S:=fun c=>c=B\/c=db) (b:=B) (ae.set (S:=fun c=>c=B\/c=db) (b:=B) (d.mono (fun C a _=>ir a)) (il (il rfl)) _ _) (il (il rfl)) _ _) (il (il rfl)) _ _
theorem tZ (db q nb:Nat)(fs:Fs)(l f k l' n:Int)(dn:Bool)(w:World)(j:OpE w db q nb fs l f k l' n dn) :
  Calls prog 76 #[.iface 78 (.pointer (some ⟨db,0,none⟩))] w fun e w'=>e=.returned (.tuple #[.pointer none,Og,.iface 53 (.int .i64 k)])/\w'.heap[db]?=some (OK q nb l' n dn)/\ae (fun c=>c=db) w w':=by
 have a4:∀ (C:Fn) (first B:Array Value) (w:World),(Instr.makeFunc C first B).run prog w=.ok (.func C first B) w:=fun _ _ _ _=>rfl;obtain⟨y,H,M,Y,Z,ad,ao,av⟩:=jC db;obtain⟨a,i⟩:∃ a,a=(((w.alloc (oG)).alloc (.cells y 230)).alloc (.cells #[.pointer (some ⟨w.heap.size+1,0,none⟩)] 122)).alloc (oG):=⟨_,rfl⟩;have R:a.heap[w.heap.size]?=some (oG):=i▸aB (aB (aB (af _ _) _) _) _;have S:a.heap[w.heap.size+1]?=some (.cells y 230):=i▸aB (aB (aC (by simp)) _) _;have T:a.heap[w.heap.size+2]?=some (.cells #[.pointer (some ⟨w.heap.size+1,0,none⟩)] 122):=i▸aB (aC (by simp)) _;have U:a.heap[w.heap.size+3]?=some (oG):=i▸aC (by simp);have G:a.heap.size=w.heap.size+4:=by rw [i];simp
 have o:B7 w a:=i▸(((ba w).alloc (by simp) _).alloc (by simp;omega) _).alloc (by simp;omega) _;have a2:=am j.hd;obtain⟨g,d⟩:∃ g,g=a.alloc (OD):=⟨_,rfl⟩;have s:B7 w g:=d▸o.alloc o.size _;have F:g.heap.size=w.heap.size+5:=by rw [d];simp;omega
 have L:g.heap[w.heap.size+1]?=some (.cells y 230):=d▸aB S _;have A:=ab L;have HG:=jan 117 #[.pointer (some ⟨w.heap.size+2,0,none⟩),.pointer (some ⟨w.heap.size+3,0,none⟩)] gj a k (fun m=>m.heap[db]?=some (OK q nb l' n dn)/\ae (fun c=>c=w.heap.size+3\/c=db) g m) (by
   rw [<-d];refine (jcl (w.heap.size+2) (w.heap.size+3) (w.heap.size+1) db q nb fs l f k l' n dn g (d▸aB T _) (d▸aB U _) ((A 0).trans M) (by omega) (j.kept s)).mono ?_
   rintro e m ⟨rfl,X,K⟩;refine⟨rfl,?_,X,K⟩
   exact (K.block a.heap.size (by omega) (fun j=>by omega)).trans (d▸af _ _))
 have HG:=aa HG;have a0:=aa o;have N:=aa s;have O:=aa (aN G F);have P:=aa d;clear j o s G F M Y Z ad ao av L A d;go_enter func76,ntmps76
 go_upto_region 3 with fail
 rw [<-H,<-i];clear i H;go_wp2_with fail
 refine HG.out.mono ?_
 rintro e x ⟨rfl,m,⟨J,u⟩,V,t⟩;obtain⟨a7,a6⟩:=O.out;have r:∀ p,p≠a.heap.size->x.heap[p]?=m.heap[p]?:=fun p W=>by rw [t,ac W]
 have D:x.heap[w.heap.size]?=_:=(r w.heap.size (by omega)).trans ((u.block w.heap.size (by omega) (fun j=>by omega)).trans ((by rw [P.out];exact ah _ _ (by omega):g.heap[w.heap.size]?=a.heap[w.heap.size]?).trans R));have E:=(r db (by omega)).trans J;have I:ae (fun c=>c=db) w x:=by
  rw [t];refine ae.set (b:=a.heap.size) ?_ (ir (by omega)) _ _
  exact (ae.of_below N.out).then u (fun a5 a3 j=>by omega)
 have Q:=ab D;have a1:=ag D;have z:=aa (aN E I);clear E I r t J u V;go_wp2_with fail
 refine bodyPost_ret (v:=.tuple #[.pointer none,Og,.iface 53 (.int .i64 k)]) (by simp [results,results76,go_sem,Q]) rfl ⟨rfl,?_,?_⟩
 ·rw [ac (by omega),ac (by omega),ac (by omega)];exact z.out.1
 ·exact ae.set (b:=w.heap.size) (ae.set (b:=w.heap.size) (ae.set (b:=w.heap.size) z.out.2 (ir lz) _ _) (ir lz) _ _) (ir lz) _ _
theorem jax (db s nb:Nat)(fs:Fs)(l f j l' n:Int)(dn:Bool)(blk:Int)(w:World)(o:OpE w db s nb fs l f j l' n dn) :
  Calls prog 50 #[.iface 78 (.pointer (some ⟨db,0,none⟩)),.int .u64 blk] w fun e w'=>e=.returned (.tuple #[Ui,.iface 53 (.int .i64 j)])/\w'.heap[db]?=some (OK s nb l' n dn)/\ae (fun c=>c=db) w w':=by
 obtain⟨a,d⟩:∃ a,a=w.alloc (OG):=⟨_,rfl⟩;have D:a.heap[w.heap.size]?=some (OG):=d▸af _ _;have p:B7 w a:=d▸ba w;have u:a.heap.size=w.heap.size+1:=by rw [d];simp
 have F:=am o.hd;have z:=aa (tZ db s nb fs l f j l' n dn a (o.kept p));have y:=aa p;have A:=aa u;clear o p u;go_enter func50,ntmps50
 go_upto_region 1 with fail
 rw [<-d];clear d;go_wp2_with fail
 refine z.out.mono ?_
 rintro e g ⟨rfl,r,m⟩;have H:=A.out;have C:g.heap[w.heap.size]?=_:=(m.block w.heap.size (by omega) (by omega)).trans D;obtain⟨i,k⟩:∃ i,i=g.alloc (oG):=⟨_,rfl⟩;have x:i.heap[w.heap.size]?=_:=k▸aB C _;have q:B7 g i:=k▸ba g;have G:=m.size;have t:=aa (aN ((q.block db (am r)).trans r) (((ae.of_below (S:=fun c=>c=db) y.out).trans m).trans (ae.of_below q)));clear r m q;go_upto_region 3 with fail
 rw [<-k];clear k;have B:=ab x;have E:=ag x;go_wp2_with fail
 refine bodyPost_ret (v:=.tuple #[Ui,.iface 53 (.int .i64 j)]) (by simp [results,results50,go_sem,B]) rfl ⟨rfl,?_,?_⟩
 ·rw [ac (by omega),ac (by omega),ac (by omega),ac (by omega)];exact t.out.1
 ·exact ae.set (b:=w.heap.size) (ae.set (b:=w.heap.size) (ae.set (b:=w.heap.size) (ae.set (b:=w.heap.size) t.out.2 (ir lz) _ _) (ir lz) _ _) (ir lz) _ _) (ir lz) _ _
theorem jgj (db j nb:Nat)(fs:Fs)(l f b l' d:Int)(dn:Bool)(blk:Int)(w:World)(k:OpE w db j nb fs l f b l' d dn) :
  Calls prog 34 #[.iface 78 (.pointer (some ⟨db,0,none⟩)),.int .u64 blk] w fun e w'=>e=.returned (.tuple #[.pointer none,.iface 53 (.int .i64 b)])/\w'.heap[db]?=some (OK j nb l' d dn)/\ae (fun c=>c=db) w w':=by
 have n:=aa (jax db j nb fs l f b l' d dn blk w k);clear k;go_enter func34,ntmps34
 go_wp2_with fail
 refine n.out.mono ?_
 rintro e a ⟨rfl,i,m⟩;have g:B7 a (a.alloc (OG)):=ba a;have o:=aa (aN ((g.block db (am i)).trans i) (m.trans (ae.of_below g)));clear i m g;go_wp2
 go_ret2
 exact⟨rfl,o.out⟩
def QSt (d:World->Prop):Prop:=∀ a c,d a->a.heap.size<=c.heap.size->(∀ b,b<a.heap.size->(∀ e,a.cell? ⟨b,0,none⟩=some e->∃ f,e=.string f)->c.heap[b]?=a.heap[b]?)->d c
theorem QSt.keep {c:World->Prop}(g:QSt c){P:NP}{a d:World}(n:c a)(f:ae P a d)(l:∀ b,P b->b<a.heap.size->∃ v,a.cell? ⟨b,0,none⟩=some v/\∀ s,v≠.string s):c d:=
 g a d n f.size (fun b e o=>f.block b e (fun m=>by
   obtain⟨v,i,j⟩:=l b m e;obtain⟨s,k⟩:=o v i;exact j s k))
theorem QSt.below {b:World->Prop}(f:QSt b){a c:World}(i:b a)(d:B7 a c):b c:=f a c i d.size (fun e g _=>d.block e g)
theorem QSt.set {c:World->Prop}(f:QSt c){a:World}(i:c a){b:Nat}{v:Value}(k:a.cell? ⟨b,0,none⟩=some v)(j:∀ s,v≠.string s)(l:Nat)(u:Value):c (a.setCell ⟨b,l,none⟩ u):=f a _ i (by simp) (fun m _ g=>ac (fun d=>by
    obtain⟨s,e⟩:=g v (d▸k);exact j s e) _ _)
structure SyG (w:World)(db mb nb:Nat)(S:NP)(Q:World->Prop)(l f:Int):Prop where
 sy:∀ W,B7 w W->Calls prog 258 #[pO db 0] W fun e W'=>e=.returned .nilIface/\W'.heap[db]?=some (ox mb nb (aK l) (aK f))/\Q W'/\ae (fun c=>c=db\/S c) W W'
 sm:∀ b,S b->b<w.heap.size/\w.cell? ⟨b,0,none⟩=none
 nb_:¬S nb
 qs:QSt Q
theorem SyG.kept {w w':World}{db g nb:Nat}{S:NP}{e:World->Prop}{l f:Int}(a:SyG w db g nb S e l f)(c:B7 w w'):SyG w' db g nb S e l f:=
 ⟨fun i j=>a.sy i (c.trans (j.mono c.size)),fun b d=>⟨ll (a.sm b d).1 c.size,(c.cell (p:=⟨b,0,none⟩) (a.sm b d).1).trans (a.sm b d).2⟩,a.nb_,a.qs⟩
theorem jb6 (g db c4 nb:Nat)(hq:Value)(S:NP)(d1:World->Prop)(fs:Fs)(s:Bool->Option Ig)(l f:Int)(w:World)(cr:w.cell? ⟨g,0,none⟩=some (.iface 78 (.pointer (some ⟨db,0,none⟩))))(e4:cC w g 1)(eg:g≠db)(hb:g≠nb)(c0:∀ p∈fs,p.2.1≠g)
  (cq:w.heap[db]?=some (OR c4 nb hq l f)) (eq:SyG w db c4 nb S d1 l f) (b1:ak w nb fs) (e2:gW fs s) (D:fs≠[]) (hrel:∀ a b,s false=some a->s true=some b->b.turn=au a.turn\/a.turn=au b.turn) :
  Calls prog 118 #[pO g 0] w fun e w'=>∃ (i:Ig) (a:Option Addr) (c:Nat),nW s i/\e=.returned (.tuple #[OS i.turn i.time (.slice a i.ks.length c),.nilIface])/\w'.ownsRow w.heap.size 175 13 (.slice a i.ks.length c) i.ks.length (fx i.es i.ks)/\w'.heap[db]?=some (ox c4 nb (aK l) (aK f))/\cC w' g 1/\(∀ o,(o<1\/260<=o)->w'.cell? ⟨g,o,none⟩=w.cell? ⟨g,o,none⟩/\w'.frozen? ⟨g,o,none⟩=w.frozen? ⟨g,o,none⟩)/\d1 w'/\ae (fun c=>c=g\/c=db\/S c) w w':=by
 obtain⟨bj,hc,hn,ho,hp⟩:=info_parts Tryz.infoImg;obtain⟨L,cn⟩:∃ L,L=w.alloc (oG):=⟨_,rfl⟩;have ei:=bT cr;have e8:=am cq;have hf:nb≠db:=b1.map.ne cq;have g3:L.heap[w.heap.size]?=some (oG):=cn▸af _ _;have b0:B7 w L:=cn▸ba w;have e9:L.cell? ⟨g,0,none⟩=some (.iface 78 (.pointer (some ⟨db,0,none⟩))):=(b0.cell (p:=⟨g,0,none⟩) ei).trans cr;have d9:L.heap[db]?=_:=(b0.block db e8).trans cq;have d4:ak L nb fs:=b1.kept (b0.block nb b1.map.lt) (fun p m=>b0.block _ (am (b1.str p m)));have hI:=eT (.pointer (some ⟨db,0,none⟩));have hJ:=ex (.pointer (some ⟨db,0,none⟩));have fd:=te (.pointer (some ⟨db,0,none⟩));have eL:=aa (iX db nb _ _ _ _ fs L d9 d4);have b7:L.heap.size=w.heap.size+1:=by rw [cn];simp
 have eQ:=aa b7;have cG:=aa b0;have f2:=aa d9;have cb:=aa d4;have gr:=aa e4;have ch:=aa e2;have HG:=aa cr;have R:=aa eq;have g9:¬S g:=fun d=>by
  have:=(eq.sm g d).2;rw [cr] at this;cases this
 have f3:=aa c0;have f9:Hid (∀ p∈fs,p.2.1≠db):=aa (fun p m e=>by have:=b1.str p m;rw [e,cq] at this;simp at this);have gg:=aa hrel;clear b1 d4 cq d9 b0 b7 cr e4 e2 eq hrel c0;go_enter func118,ntmps118
 go_upto_region 1 with fail
 rw [<-cn];clear cn;go_wp2_with fail
 refine eL.out.mono ?_
 rintro e b9 ⟨fD,V,rfl,d7,ff,cv,cp⟩;have bd:V≠[]:=by
  intro e;obtain⟨p,m⟩:=List.exists_mem_of_ne_nil fs D;have W:=(d7 p.1).2 (by rw [aV cb.out.nd m];rfl);rw [e] at W;cases W
 have b7:=eQ.out;have hD:b9.cell? ⟨g,0,none⟩=some (.iface 78 (.pointer (some ⟨db,0,none⟩))):=(cp.cell (p:=⟨g,0,none⟩) (by show g<L.heap.size;omega)).trans e9;have e0:=(cp.block db (by omega)).trans f2.out;obtain⟨c5,c6,fi,_⟩:=cv;have cv:ig b9 fD V:=⟨c5,c6,fi,by assumption⟩;have eD:=aa (iU fD V b9 cv ff bd);have d8:B7 w b9:=cG.out.trans (cp.mono (by omega));have bK:=aa (R.out.sy b9 d8);have eN:Hid (∀ b,S b->b<w.heap.size/\b9.cell? ⟨b,0,none⟩=none):=aa (fun b d=>⟨(R.out.sm b d).1,(d8.cell (p:=⟨b,0,none⟩) (R.out.sm b d).1).trans (R.out.sm b d).2⟩);have gp:Hid (∀ p∈fs,¬S p.2.1):=aa (fun p m d=>by
   have W:=(R.out.sm _ d).2;have cV:w.cell? ⟨p.2.1,0,none⟩=L.cell? ⟨p.2.1,0,none⟩:=(cG.out.cell (p:=⟨p.2.1,0,none⟩) (R.out.sm _ d).1).symm;rw [cV,ab (cb.out.str p m) 0] at W;cases W)
 have ci:=aa cv;have bF:=aa cp;have f1:=aa e0;have f0:=aa d7;subst fi;clear cv cp e0 d7 e9 b7 d8;go_wp2_with fail
 refine eD.out.mono ?_
 rintro e J ⟨rfl,q⟩;have z:=q.symm;clear q;subst z;go_wp2_with fail
 refine bK.out.mono ?_
 rintro e t ⟨rfl,a1,eS,bk⟩;have gb:=aa eS;clear eS;have b7:=eQ.out;have ht:=bF.out.size;have hr:=bk.size;have bi:t.heap[g]?=w.heap[g]?:=(bk.block g (by omega) (fun d=>d.elim eg g9)).trans ((bF.out.block g (by omega)).trans (cG.out.block g ei));have a6:t.cell? ⟨g,0,none⟩=some (.iface 78 (.pointer (some ⟨db,0,none⟩))):=(World.cell?_of_block (w:=w) bi).trans HG.out;have b8:cC t g 1:=gr.out.block bi;have a7:ig t (.slice c5 V.length c6) V:=ci.out.kept (fun j n=>bk.block j (ci.out.lt bd n) (fun d=>by
   rcases d with e | d
   · have:=ci.out.ne bd (x:=j) (u:=.map (some c4)) (by rw [e];exact ab f1.out 0) (fun bl d=>by cases d);exact this n
   · obtain⟨hy,hA,g1,cl⟩:=ci.out;rcases cl with cl | ⟨g2,cl,g6⟩
     · exact bd cl
     · rw [g1,cl] at n;have g0:g2=j:=by simpa [Value.ownBlock] using n
       have e1:=g6 0 (List.length_pos_iff.2 bd);rw [g0,(eN.out j d).2] at e1;cases e1))
 have bz:ak t nb fs:=(cb.out.kept (bF.out.block nb cb.out.map.lt) (fun p m=>bF.out.block _ (am (cb.out.str p m)))).keep bk (fun d=>d.elim hf R.out.nb_) (fun p m d=>d.elim (f9.out p m) (gp.out p m));have b6:t.heap[w.heap.size]?=some (oG):=(bk.block _ (by omega) (fun d=>d.elim (by omega) (fun d=>by have:=(eN.out _ d).1;omega))).trans ((bF.out.block _ (by omega)).trans g3);have b2:ae (fun c=>c=g\/c=db\/S c) w t:=((ae.of_below (cG.out.trans (bF.out.mono (by omega)))).then bk (fun _ _ d=>ir d));have ad:w.heap.size<t.heap.size:=by omega
 have gt:=aa (aN a6 (aN b8 (aN a7 (aN bz (aN b6 (aN b2 a1))))));have cR:=aa ad;have gv:=aa bi;have gq:Hid (LsI w t t g s 0 (.slice none 0 0) []):=aa ⟨rfl,World.ownsRow_nil _ _ _ _,fun p m=>(by cases m),bJ.of b8 (by omega) (ae.refl _ _)⟩;clear bk b7 ht hr bi a6 b8 a7 bz b6 b2 a1 ad eL eD bK ci;go_wp2_with fail
 go_loopw [7,39] (fun hu bl wr=>∃ (o:Nat) (y:List (Ig×Value)),o<=2/\bl=.int .u64 o/\LsI w t wr g s o hu y) (fun _ bl _=>2 - (intOf bl).toNat)
 case atStart=>exact⟨0,[],Nat.zero_le _,rfl,gq.out⟩
 case round=>
  obtain⟨o,y,hd,rfl,k⟩:=hrel;obtain⟨bv,bw,hm⟩:=aw k.own;subst hm;obtain⟨a6,b8,a7,bz,b6,b2,a1⟩:=gt.out;have ad:=cR.out;have bo:=k.tab.keep.size;by_cases fa:o<2
  ·obtain⟨b,X⟩:∃ b,b=((o:Int) % 2==1):=⟨_,rfl⟩;have hE:wr.cell? ⟨g,0,none⟩=some (.iface 78 (.pointer (some ⟨db,0,none⟩))):=(k.tab.cel 0 (il (by omega))).1.trans a6;have fv:ig wr (.slice c5 V.length c6) V:=a7.kept (fun j n=>k.tab.keep.block j (a7.lt bd n) (fun e=>by
     have:=a7.ne bd (x:=j) (by rw [e];exact a6) (fun bl d=>by cases d);exact this n))
   have M:=(k.tab.keep.block db (am a1) (fun e=>eg e.symm)).trans a1;have a5:ak wr nb fs:=bz.keep k.tab.keep (fun e=>hb e.symm) (fun p m=>f3.out p m);have dt:=cK (o:Int) wr (by omega) (by omega);have dv:=cK (o:Int) wr.drew (by omega) (by omega);rw [<-X] at dt dv;have dm:=aa dt;have eF:=aa dv;have d0:=eO (.slice c5 V.length c6) V b wr fv ff;obtain⟨c7,eo⟩:∃ c7,c7=V.any (fun F=>b==F):=⟨_,rfl⟩;rw [<-eo] at d0;have dl:=aa d0;have fb:c7=true↔(ar b fs).isSome=true:=by rw [eo,o7];exact f0.out b
   have eE:=aa fb;have A:=aa k;have cF:=aa X;have a0:=aa fa;have cc:=aa (aN M a5);have hH:(o:Int)<2:=by omega
   clear a6 b8 a7 bz b6 b2 a1 ad bo k X fa fv M a5 dt dv d0 eo fb hd;cases c7
   ·go_wp2_with fail
    refine dm.out.mono ?_
    rintro e J ⟨rfl,q⟩;have z:=q.symm;clear q;subst z;go_wp2_with fail
    refine dl.out.mono ?_
    rintro e J ⟨rfl,q⟩;have z:=q.symm;clear q;subst z;go_wp2
    go_roundw
    case rel=>
     have hg:s b=none:=by
      cases d:s b with
      | none=>rfl
      | some i=>
       obtain⟨⟨p,m,_⟩,_⟩:=(ch.out b).1 i d;have:=eE.out.2 (by rw [m];rfl);cases this
     refine⟨o+1,y,by have:=a0.out;omega,by go_num,?_,A.out.own,A.out.rcs,A.out.tab⟩
     rw [gy s o a0.out b cF.out,hg,A.out.lst];simp
    case measure=>have:=a0.out;simp [intOf];omega
   ·obtain⟨p,m⟩:∃ p,ar b fs=some p:=Option.isSome_iff_exists.1 (eE.out.1 rfl);have g7:(s b=none/\ky p.2)\/∃ i,s b=some i/\p.2=strOfNums i.bytes:=by
     cases d:s b with
     | none=>exact il ⟨rfl,(ch.out b).2 d p m⟩
     | some i=>
      obtain⟨⟨hL,fm,e⟩,_⟩:=(ch.out b).1 i d;rw [m] at fm;cases fm
      exact ir ⟨i,rfl,e⟩
    rcases g7 with ⟨Y,bj,ao,em,b4,cx⟩ | ⟨i,Y,cx⟩
    ·have e6:Bytes (bj.bytes.take ao):=fun j n=>em.byt j (List.mem_of_mem_take n);have bg:aD p.2=bj.bytes.take ao:=by rw [cx];exact dh _ e6
     have ej:(bj.bytes.take ao).length=ao:=by rw [List.length_take];omega
     have cy:p.2.size=ao:=by rw [<-bN,bg,ej]
     obtain⟨M,a5⟩:=cc.out;have U:=vZ db nb _ _ _ _ fs b p wr.drew M (a5.kept rfl (fun _ _=>rfl)) m;rw [cy,bg] at U;have ck:=aa U;have av:=aa (aN Y (aN em (aN b4 ej)));clear U M a5 m cx bg cy Y em b4 ej e6;go_wp2_with fail
     refine dm.out.mono ?_
     rintro e J ⟨rfl,q⟩;have z:=q.symm;clear q;subst z;go_wp2_with fail
     refine dl.out.mono ?_
     rintro e J ⟨rfl,q⟩;have z:=q.symm;clear q;subst z;go_wp2_with fail
     go_cut [9,10] from 47 to 84 (fun et es J=>∃ (B:World) (C:Nat),B=J/\et=.slice (some ⟨wr.heap.size,0,none⟩) ao C/\es=.nilIface/\Sl B (.slice (some ⟨wr.heap.size,0,none⟩) ao C) (bj.bytes.take ao)/\ao<=C/\wr.heap.size<B.heap.size/\B7 wr B)
     case first=>
      go_region_law (first
        | (refine aO (by rfl) 147 gi _ _ (by rfl) #[.int .u64 o] (by simp only [List.map_toArray,List.map_cons,List.map_nil];rfl) eF.out ?_;rintro e Q ⟨rfl,rfl⟩;refine⟨_,rfl,?_⟩)
        | (refine gI (by rfl) 256 "Read" 78 (.pointer (some ⟨db,0,none⟩)) fd jbo _ _ _ (by rfl) (by rfl) #[.string (ay b)] (by simp only [List.map_toArray,List.map_cons,List.map_nil];rfl) ck.out ?_;rintro e Q ⟨C,rfl,N,O,P,E⟩;refine⟨_,rfl,?_⟩;have df:=aa N;have di:=aa O;have dk:=aa P;have K:=aa E;clear N O P E))
      all_goals (go_wp2_with fail;go_meet)
      all_goals exact⟨Q,C,rfl,rfl,rfl,df.out,di.out,dk.out,⟨K.out.os,K.out.tape,K.out.output,K.out.size,K.out.block⟩⟩
     case rest=>
      obtain⟨B,C,rfl,rfl,rfl,N,O,P,E⟩:=hcut;have gl:=aa (jaG g 1 wr.heap.size ao C bj B av.out.2.1 av.out.2.2.1 O P N);have a8:=aa E;clear N O P E ck;go_wp2_with fail
      refine gl.out.mono ?_
      rintro e Q ⟨rfl,e5⟩;have eB:=aa e5;clear e5;go_wp2
      go_roundw
      case rel=>
       have bo:=A.out.tab.keep.size;have ad:=cR.out;have d6:B7 wr (Q.alloc (oG)):=(a8.out.trans (eB.out.mono a8.out.size)).alloc (by have:=a8.out.size;have:=eB.out.size;omega) _;refine⟨o+1,y,by have:=a0.out;omega,by go_num,?_,aq A.out.own (fun j n=>d6.block j (aj A.out.own n).2),fun p m=>?_,A.out.tab.then (bJ.of A.out.tab.tab (by omega) (ae.of_below d6))⟩
       ·rw [gy s o a0.out b cF.out,av.out.1,A.out.lst];simp
       ·obtain⟨a,c,e,G⟩:=A.out.rcs p m;exact⟨a,c,e,aq G (fun j n=>d6.block j (aj G n).2)⟩
      case measure=>have:=a0.out;simp [intOf];omega
    obtain⟨_,Z,ct⟩:=(ch.out b).1 i Y;have bg:aD p.2=i.bytes:=by rw [cx];exact dh _ Z.byt
    have cy:p.2.size=i.bytes.length:=by rw [<-bg,bN]
    obtain⟨H,a2⟩:∃ H,H=i.bytes.length:=⟨_,rfl⟩;obtain⟨M,a5⟩:=cc.out;have U:=vZ db nb _ _ _ _ fs b p wr.drew M (a5.kept rfl (fun _ _=>rfl)) m;rw [cy,<-a2,bg] at U;have ck:=aa U;have av:=aa (aN Y (aN Z (aN ct a2)));clear U M a5 m cx bg cy Y Z ct a2;go_wp2_with fail
    refine dm.out.mono ?_
    rintro e J ⟨rfl,q⟩;have z:=q.symm;clear q;subst z;go_wp2_with fail
    refine dl.out.mono ?_
    rintro e J ⟨rfl,q⟩;have z:=q.symm;clear q;subst z;go_wp2_with fail
    go_cut [9,10] from 47 to 84 (fun et es J=>∃ (B:World) (C:Nat),B=J/\et=.slice (some ⟨wr.heap.size,0,none⟩) H C/\es=.nilIface/\Sl B (.slice (some ⟨wr.heap.size,0,none⟩) H C) i.bytes/\H<=C/\wr.heap.size<B.heap.size/\B7 wr B)
    case first=>
     go_region_law (first
       | (refine aO (by rfl) 147 gi _ _ (by rfl) #[.int .u64 o] (by simp only [List.map_toArray,List.map_cons,List.map_nil];rfl) eF.out ?_;rintro e Q ⟨rfl,rfl⟩;refine⟨_,rfl,?_⟩)
       | (refine gI (by rfl) 256 "Read" 78 (.pointer (some ⟨db,0,none⟩)) fd jbo _ _ _ (by rfl) (by rfl) #[.string (ay b)] (by simp only [List.map_toArray,List.map_cons,List.map_nil];rfl) ck.out ?_;rintro e Q ⟨C,rfl,N,O,P,E⟩;refine⟨_,rfl,?_⟩;have df:=aa N;have di:=aa O;have dk:=aa P;have K:=aa E;clear N O P E))
     all_goals (go_wp2_with fail;go_meet)
     all_goals exact⟨Q,C,rfl,rfl,rfl,df.out,di.out,dk.out,⟨K.out.os,K.out.tape,K.out.output,K.out.size,K.out.block⟩⟩
    case rest=>
     obtain⟨B,C,rfl,rfl,rfl,N,O,P,E⟩:=hcut;obtain⟨Y,Z,ct,a2⟩:=av.out;have k:=A.out;have ev:=E.size;have ad:=cR.out;have bo:=k.tab.keep.size;have d5:y.length<=2:=by have:=sX s o;rw [<-k.lst,List.length_map] at this;exact this
     have ey:cC B g 1:=k.tab.tab.block (E.block g (by omega));have b4:0<H:=by rw [a2,i.blen];omega
     have e7:∀ F,F<H->B.cell? ⟨wr.heap.size,0+F,none⟩=some (.int .u8 (i.bytes.getD F 0)):=by
      rcases N with ⟨d,_⟩ | ⟨_,hF,hK,hB,e,_,_,g5⟩
      ·rw [a2,d] at b4;simp at b4
      ·injection e with e _ _;injection e with e;injection e with d2 cU;subst d2 cU;exact fun F b5=>g5 F (by omega)
     have U:=jei g 1 wr.heap.size H C i.turn i.time i.es i.ks B ey Z.len Z.rec_ Z.turn Z.time a2.symm O P (by omega) (by omega) e7;have gd:=aa U;have a8:=aa E;have f6:=aa d5;have hw:=aa ey;clear U N O P E e7 ey Y Z ct a2 b4 k ev ad bo d5 ck;go_wp2_with fail
     refine gd.out.mono ?_
     rintro e Q ⟨c8,rfl,el,cz⟩;obtain⟨bs,bu,hk⟩:=aw el;subst hk;obtain⟨r,b3⟩:∃ r,r=Q.alloc (uv i.turn i.time (.slice bs i.ks.length bu)):=⟨_,rfl⟩;obtain⟨dd,d3⟩:∃ dd,dd=Q.heap.size:=⟨_,rfl⟩;have hv:r.heap[dd]?=some (uv i.turn i.time (.slice bs i.ks.length bu)):=by rw [d3,b3];exact af _ _
     have ev:=a8.out.size;have hs:=cz.keep.size;have ad:=cR.out;have k:=A.out;have bo:=k.tab.keep.size;have c3:ae (fun c=>c=g) wr r:=by rw [b3];exact ((ae.of_below a8.out).then cz.keep (fun _ _ d=>d)).alloc _
     have I:bJ t r g 1:=(k.tab.then ((bJ.of k.tab.tab (by omega) (ae.of_below a8.out)).then cz)).then (bJ.of cz.tab (by omega) (b3▸(ae.refl _ Q).alloc _));have en:r.ownsRow t.heap.size 169 3 (.slice bv y.length bw) y.length (irow y):=aq k.own (fun j n=>c3.block j (aj k.own n).2 (fun e=>by have:=(aj k.own n).1;omega));have c1:r.ownsRow w.heap.size 175 13 (.slice bs i.ks.length bu) i.ks.length (fx i.es i.ks):=by
      have cV:r.ownsRow B.heap.size 175 13 (.slice bs i.ks.length bu) i.ks.length (fx i.es i.ks):=b3▸el.alloc _;refine⟨cV.1,?_⟩
      rcases cV.2 with d | ⟨j,gN,gR,d2,cU,gV⟩
      ·exact il d
      ·exact ir ⟨j,gN,gR,d2,by omega,gV⟩
     have c2:∀ p∈y,∃ a c,p.2=.slice a p.1.ks.length c/\r.ownsRow w.heap.size 175 13 p.2 p.1.ks.length (fx p.1.es p.1.ks):=fun p m=>by
      obtain⟨a,c,e,G⟩:=k.rcs p m;exact⟨a,c,e,aq G (fun j n=>c3.block j (aj G n).2 (fun e=>by have:=(aj G n).1;omega))⟩
     have dN:=cK i.turn r (av.out.2.1.turn.1) (av.out.2.1.turn.2);rw [av.out.2.2.1] at dN;have dR:=cK (o:Int) r (by omega) (by omega);rw [<-cF.out] at dR;have f7:=aa dN;have f8:=aa dR;have gs:=aa I;have go:=aa (aN c1 c2);have bK:Hid (t.heap.size<=r.heap.size/\w.heap.size<t.heap.size):=aa (by have:=c3.size;omega);have d5:=f6.out;clear el cz dN dR I c1 c2 c3 ev hs ad bo k;go_upto_region 16 with fail
     rw [<-b3,<-d3];clear b3 d3;have eX:=ab hv;go_wp2_with fail
     refine f7.out.mono ?_
     rintro e J ⟨rfl,q⟩;have z:=q.symm;clear q;subst z;go_wp2_with fail
     refine f8.out.mono ?_
     rintro e J ⟨rfl,q⟩;have z:=q.symm;clear q;subst z;go_wp2_with (first
       | (at_builtin;refine wpList_append_own_at (w:=_) rfl _ _ 283 rfl t.heap.size 169 bj (Og) 3 40 underlying283 hc hn ho hp rfl (by decide) (.slice bv y.length bw) y.length _ rfl (en.alloc _) ⟨r.heap.size,0,none⟩ 1 1 [.int .u64 i.turn,.int .u64 i.time,.slice bs i.ks.length bu] rfl rfl (qp _ _ _ _ _) (by simp [Value.oneCell']) (by unfold maxLen;omega) (by omega) (by have:=bK.out.1;simp;omega) ?_;intro hM c9 fl cs _ hG;obtain⟨hx,hC,cU⟩:=aw fl;subst cU)
       | go_in)
     go_roundw
     case rel=>
      obtain⟨Y,Z,ct,a2⟩:=av.out;obtain⟨c1,c2⟩:=go.out;have I:=gs.out;have fr:∀ j,(Value.slice bv y.length bw).ownBlock=some j->t.heap.size<=j:=fun j n=>(aj en n).1;have a9:∀ j,j<r.heap.size->(Value.slice bv y.length bw).ownBlock≠some j->c9.heap[j]?=r.heap[j]?:=fun j n D=>(cs.block j (by simp;omega) (fun e=>D e.symm)).trans (ah _ _ n);have fn:∀ (c8:Value) (H:Nat) (eA:List Value),r.ownsRow w.heap.size 175 13 c8 H eA->c9.ownsRow w.heap.size 175 13 c8 H eA:=fun c8 H eA G=>aq G (fun j n=>a9 j (aj G n).2 (fun e=>jcm en G (by decide) e n));refine⟨o+1,y ++ [(i,.slice bs i.ks.length bu)],by have:=a0.out;omega,by go_num,?_,?_,fun p m=>?_,?_⟩
      ·rw [gy s o a0.out b cF.out,Y,List.map_append,A.out.lst];rfl
      ·rw [jar,List.length_append];exact fl
      ·rcases List.mem_append.1 m with d | d
       ·obtain⟨a,c,e,G⟩:=c2 p d;exact⟨a,c,e,fn _ _ _ G⟩
       ·obtain rfl:=List.mem_singleton.1 d;exact⟨bs,bu,rfl,fn _ _ _ c1⟩
      ·have ha:g<r.heap.size:=by have:=bK.out;omega
       have eb:c9.heap[g]?=r.heap[g]?:=a9 g ha (fun e=>by have:=fr g e;have:=bK.out;omega);refine⟨I.tab.block eb,fun F b5=>⟨(World.cell?_of_block (w:=r) eb).trans (I.cel F b5).1,(World.frozen?_of_block (w:=r) eb).trans (I.cel F b5).2⟩,?_⟩
       have hj:r.heap.size<=c9.heap.size:=lq (by simp) cs.size;exact⟨cs.os.trans I.keep.os,cs.tape.trans I.keep.tape,cs.output.trans I.keep.output,lq I.keep.size hj,fun j n D=>by
         have W:=I.keep.block j n D;have hl:j<r.heap.size:=ll n I.keep.size;rw [<-W];exact a9 j hl (fun e=>by have:=fr j e;omega)⟩
     case measure=>have:=a0.out;simp [intOf];omega
  ·obtain rfl:o=2:=by omega
   have e3:Calls prog 149 #[.slice bv y.length bw] wr fun e w'=>∃ (i:Ig) (a3:Option Addr) (a4:Nat),nW s i/\e=.returned (OS i.turn i.time (.slice a3 i.ks.length a4))/\wr.ownsRow w.heap.size 175 13 (.slice a3 i.ks.length a4) i.ks.length (fx i.es i.ks)/\B7 wr w':=by
    by_cases fo:∃ b,s b≠none
    ·refine (jas t.heap.size s y (.slice bv y.length bw) wr k.own k.lst (fun p m=>by obtain⟨a,c,e,_⟩:=k.rcs p m;exact⟨a,_,c,e⟩) (fun b i d=>((ch.out b).1 i d).2) fo gg.out).mono ?_
     rintro e w' ⟨p,m,cX,rfl,X⟩;obtain⟨a3,a4,hh,cw⟩:=k.rcs p m;rw [hh] at cw ⊢;exact⟨p.1,a3,a4,il cX,rfl,cw,X⟩
    ·have ek:∀ b,s b=none:=fun b=>Decidable.byContradiction fun d=>fo ⟨b,d⟩;have he:y.length=0:=by
      have W:=congrArg List.length k.lst;rw [List.length_map] at W;rw [W];show ((s false).toList ++ (s true).toList).length=0;rw [ek,ek];rfl
     rw [he];refine (jdU bv bw wr).mono ?_
     rintro e w' ⟨rfl,X⟩;exact⟨⟨0,0,[],[]⟩,none,0,ir ⟨ek,rfl⟩,rfl,World.ownsRow_nil _ _ _ _,X⟩
   have fN:=(k.tab.keep.block w.heap.size ad (fun e=>by omega)).trans b6;have M:=(k.tab.keep.block db (am a1) (fun e=>eg e.symm)).trans a1;have f5:=aa e3;have eV:d1 wr:=R.out.qs.keep gb.out k.tab.keep (fun b X _=>⟨_,X▸a6,fun bl d=>by cases d⟩);have gc:=aa eV;clear eV;have A:=aa k;have ds:=aa fN;have cc:=aa M;have f4:=aa b2;have c0:g<wr.heap.size:=by omega
   clear e3 a6 b8 a7 bz b6 b2 a1 k fN M bo;go_wp2_with fail
   refine f5.out.mono ?_
   rintro e ez ⟨i,a3,a4,cX,rfl,cw,bb⟩;have er:=(bb.block w.heap.size (am ds.out)).trans ds.out;have eX:=ab er;have hz:=ag er;have fU:=aa bb;have dn:=aa cw;have fV:=aa cX;clear bb cw cX;go_wp2
   refine bodyPost_ret (v:=.tuple #[OS i.turn i.time (.slice a3 i.ks.length a4),.nilIface]) (by simp [results,results118,go_sem,eX]) rfl ⟨i,a3,a4,fV.out,rfl,?_⟩
   have bb:=fU.out;have k:=A.out;have fz:∀ j,j<w.heap.size->j≠w.heap.size:=fun j n=>by omega
   have a9:∀ j,j<wr.heap.size->j≠w.heap.size->(((ez.setCell ⟨w.heap.size,0,none⟩ (.int .u64 i.turn)).setCell ⟨w.heap.size,1,none⟩ (.int .u64 i.time)).setCell ⟨w.heap.size,2,none⟩ (.slice a3 i.ks.length a4)).heap[j]?=wr.heap[j]?:=fun j n D=>((ac D _ _).trans ((ac D _ _).trans (ac D _ _))).trans (bb.block j n);have g4:ae (fun c=>c=g\/c=db\/S c) w (((ez.setCell ⟨w.heap.size,0,none⟩ (.int .u64 i.turn)).setCell ⟨w.heap.size,1,none⟩ (.int .u64 i.time)).setCell ⟨w.heap.size,2,none⟩ (.slice a3 i.ks.length a4)):=by
    refine ae.set (b:=w.heap.size) (ae.set (b:=w.heap.size) (ae.set (b:=w.heap.size) ?_ (ir lz) _ _) (ir lz) _ _) (ir lz) _ _
    exact (f4.out.then k.tab.keep (fun _ _ d=>il d)).then (T:=fun _=>False) (ae.of_below bb) (fun _ _ d=>d.elim)
   have ef:=a9 g c0 (fz g ei);refine⟨?_,(a9 db (am cc.out) (fz db e8)).trans cc.out,k.tab.tab.block ef,fun F b5=>?_,?_,g4⟩
   ·refine aq dn.out (fun j n=>a9 j (aj dn.out n).2 (fun e=>?_))
    have:=ax dn.out n ds.out (by decide);exact this e
   ·have bi:t.heap[g]?=w.heap[g]?:=gv.out;exact⟨(World.cell?_of_block (w:=wr) ef).trans ((k.tab.cel F b5).1.trans (World.cell?_of_block (w:=w) bi)),(World.frozen?_of_block (w:=wr) ef).trans ((k.tab.cel F b5).2.trans (World.frozen?_of_block (w:=w) bi))⟩
   ·have gF:=R.out.qs.below gc.out bb;exact R.out.qs ez _ gF (by simp) (fun b X hi=>by
      have D:b≠w.heap.size:=fun e=>by
        obtain⟨bl,d⟩:=hi _ (by rw [e];exact ab er 0);cases d
      rw [ac D,ac D,ac D])
end Go.Proofs.YtnlgndpcddngoaaGreatDoor
