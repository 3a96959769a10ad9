import Derived.Test.YtnlgndpcddngoaaGreatDoorZ02
set_option linter.all false
set_option maxRecDepth 100000
set_option maxHeartbeats 4000000
namespace Go.Proofs.YtnlgndpcddngoaaGreatDoor
open Go.Proofs.Tryz Go.RowKit Go.Extern.Stop Go.Stop Go.Extern
variable [dK] [iK]
theorem Tryz.comparable36' (w:World):(ReflectliteType.method (fun t=>do Rtype.noPackHeld "Comparable" t;Functor.map (fun a=>Value.bool a.comparable) (typeInfo t)) #[.agg #[.pointer (some ⟨5,53,none⟩)]]).run prog w=.ok (.bool true) w:=by kernel_rfl
theorem Tryz.info36:(prog.info? 53).map (fun i=>i.comparable)=some true:=by kernel_rfl
theorem Tryz.eql36 (a b:Int)(w:World):(binOp .eql 97 (.iface 53 (.int .i64 a)) (.iface 53 (.int .i64 b))).run prog w=.ok (.bool (a==b)) w:=by
 obtain⟨h,g,f⟩:=Option.map_eq_some_iff.1 Tryz.info36;have d:∀ c:Nat,(Op.equalIn (c+2) 97 (.iface 53 (.int .i64 a)) (.iface 53 (.int .i64 b))).run prog w=.ok (a==b) w:=fun c=>by
  simp [Op.equalIn,run_underlying underlying97,run_underlying underlying53,typeInfo,g,f]
 have e:=d 9998;unfold binOp;simp only [Op.equal,Op.maxDepth,Sem.run_bind];simp [e]
theorem Tryz.noIs (v:Value)(a:TypeId)(w:World):(Instr.typeAssert (.iface 53 v) a 247 true).run prog w=.ok (.tuple #[.nilIface,.bool false]) w:=run_typeAssert_lacksB underlying247 (by kernel_rfl) (by kernel_rfl) v a w
theorem Tryz.noUn (v:Value)(a:TypeId)(w:World):(Instr.typeAssert (.iface 53 v) a 243 true).run prog w=.ok (.tuple #[.nilIface,.bool false]) w:=run_typeAssert_lacksB underlying243 (by kernel_rfl) (by kernel_rfl) v a w
theorem Tryz.noUns (v:Value)(a:TypeId)(w:World):(Instr.typeAssert (.iface 53 v) a 244 true).run prog w=.ok (.tuple #[.nilIface,.bool false]) w:=run_typeAssert_lacksB underlying244 (by kernel_rfl) (by kernel_rfl) v a w
theorem pD (n:Int)(w:World) :
  Calls prog 52 #[.nilIface,.iface 53 (.int .i64 n)] w fun e w'=>e=.returned (.bool false)/\w'=w:=by
 have a:=fun w=>run_eql_iface_nil_left (P:=prog) w 53 (.int .i64 n) underlying97;go_enter func52,ntmps52
 go_wp2
 go_ret
 exact⟨rfl,rfl⟩
theorem kf (n:Int)(w:World) :
  Calls prog 52 #[.iface 53 (.int .i64 n),.iface 53 (.int .i64 n)] w fun e w'=>e=.returned (.bool true)/\w'=w:=by
 have d:=@run_callFunc_extern prog 81 _ ReflectliteType.typeOf func81 (by kernel_rfl) (by kernel_rfl) (by kernel_rfl) (by kernel_rfl);have f:=@run_callFunc_extern prog 285 _ (ReflectliteType.method (fun a=>do Rtype.noPackHeld "Comparable" a;pure (.bool (<-typeInfo a).comparable))) func285 (by kernel_rfl) (by kernel_rfl) (by kernel_rfl) (by kernel_rfl);have h:=Tryz.typeOf36;have g:=Tryz.methodComparable;have b:=Tryz.comparable36';have c:=Tryz.eql36;go_enter func52,ntmps52
 go_wp2
 refine wp_loop_rounds 1 ?_
 rw [rounds_succ];go_wp2
 go_ret
 exact⟨rfl,rfl⟩
theorem qG (n a:Int)(w:World)(h:(n==a)=false) :
  Calls prog 52 #[.iface 53 (.int .i64 n),.iface 53 (.int .i64 a)] w fun e w'=>e=.returned (.bool false)/\w'=w:=by
 have f:=@run_callFunc_extern prog 81 _ ReflectliteType.typeOf func81 (by kernel_rfl) (by kernel_rfl) (by kernel_rfl) (by kernel_rfl);have g:=@run_callFunc_extern prog 285 _ (ReflectliteType.method (fun b=>do Rtype.noPackHeld "Comparable" b;pure (.bool (<-typeInfo b).comparable))) func285 (by kernel_rfl) (by kernel_rfl) (by kernel_rfl) (by kernel_rfl);have m:=Tryz.typeOf36;have i:=Tryz.methodComparable;have c:=Tryz.comparable36';have d:=Tryz.eql36;have j:=Tryz.noIs;have k:=Tryz.noUn;have l:=Tryz.noUns;go_enter func52,ntmps52
 go_wp2
 refine wp_loop_rounds 1 ?_
 rw [rounds_succ];go_wp2
 go_ret
 exact⟨rfl,rfl⟩
theorem je8 (n:Int)(t:Addr)(e:Value)(w:World)(b:w.cell? ⟨0,0,none⟩=some (.iface 236 (.agg #[.pointer (some ⟨5,97,none⟩)])))(c:w.cell? t=some e)(h:w.frozen? t=false) :
  Calls prog 51 #[.iface 53 (.int .i64 n),.iface 139 (.pointer (some t))] w fun ev w'=>ev=.returned (.bool true)/\w'=((((w.alloc (.cells #[.pointer (some t)] 139)).alloc (.cells #[.pointer (some ⟨5,139,none⟩),.pointer (some ⟨w.heap.size,0,none⟩),.int .u64 150] 181)).alloc (.cells #[.pointer (some ⟨5,139,none⟩),.pointer (some ⟨w.heap.size,0,none⟩),.int .u64 150] 181)).alloc (.cells #[.int .i64 n] 53)).setCell t (.int .i64 n):=by
 have y:=@run_callFunc_extern prog 77 _ (fun f=>ReflectliteValue.unpack (f.getD 0 (.tuple #[]))) func77 (by kernel_rfl) (by kernel_rfl) (by kernel_rfl) (by kernel_rfl);have z:=@run_callFunc_extern prog 78 _ (ReflectliteValue.methodAny (ReflectliteValue.valueError "reflectlite.Value.Type" 0) (fun t _ _ _=>ReflectliteType.toType t)) func78 (by kernel_rfl) (by kernel_rfl) (by kernel_rfl) (by kernel_rfl);have A:=@run_callFunc_extern prog 79 _ (ReflectliteValue.method (ReflectliteValue.valueError "reflectlite.Value.IsNil" 0) ReflectliteValue.isNil) func79 (by kernel_rfl) (by kernel_rfl) (by kernel_rfl) (by kernel_rfl);have s:=@run_callFunc_extern prog 251 _ (ReflectliteType.abiMethod fun t=>do pure (.int .u8 (<-Rtype.kind t))) func251 (by kernel_rfl) (by kernel_rfl) (by kernel_rfl) (by kernel_rfl);have v:=@run_callFunc_extern prog 286 _ (ReflectliteType.method ReflectliteType.elem) func286 (by kernel_rfl) (by kernel_rfl) (by kernel_rfl) (by kernel_rfl);have x:=@run_callFunc_extern prog 287 _ (ReflectliteType.relation "Implements" ReflectliteType.implements_) func287 (by kernel_rfl) (by kernel_rfl) (by kernel_rfl) (by kernel_rfl);have p:=@run_callFunc_extern prog 81 _ ReflectliteType.typeOf func81 (by kernel_rfl) (by kernel_rfl) (by kernel_rfl) (by kernel_rfl);have u:=@run_callFunc_extern prog 284 _ (ReflectliteType.relation "AssignableTo" ReflectliteType.assignableTo) func284 (by kernel_rfl) (by kernel_rfl) (by kernel_rfl) (by kernel_rfl);have q:=@run_callFunc_extern prog 119 _ (ReflectliteValue.method (ReflectliteValue.valueError "reflectlite.Value.Elem" 0) ReflectliteValue.elem) func119 (by kernel_rfl) (by kernel_rfl) (by kernel_rfl) (by kernel_rfl);have r:=@run_callFunc_extern prog 120 _ ReflectliteValue.set func120 (by kernel_rfl) (by kernel_rfl) (by kernel_rfl) (by kernel_rfl);have L:=Tryz.typeOf36;have F:=Tryz.methodAssignableTo;have j:=Tryz.assignable36;have M:=Tryz.valueOf36;have m:=Tryz.valueOf55;have o:=Tryz.type55;have I:=Tryz.methodKind;have G:=Tryz.methodElem;have H:=Tryz.methodImplements;have E:=Tryz.kind55;have D:=Tryz.kind36;have k:=Tryz.elem55;have C:=Tryz.implements36;have J:=Tryz.isNil55 ⟨w.heap.size,0,none⟩ t ((w.alloc (.cells #[.pointer (some t)] 139)).alloc (.cells #[.pointer (some ⟨5,139,none⟩),.pointer (some ⟨w.heap.size,0,none⟩),.int .u64 150] 181)) (by simp);have i:0<w.heap.size:=by
  rcases Nat.eq_zero_or_pos w.heap.size with g | a
  ·simp [World.cell?,g] at b
  ·exact a
 have B:((w.alloc (.cells #[.pointer (some t)] 139)).alloc (.cells #[.pointer (some ⟨5,139,none⟩),.pointer (some ⟨w.heap.size,0,none⟩),.int .u64 150] 181)).cell? ⟨0,0,none⟩=some (.iface 236 (.agg #[.pointer (some ⟨5,97,none⟩)])):=by
  rw [World.cell?_alloc_lt _ _ ⟨0,0,none⟩ (by simp),World.cell?_alloc_lt _ _ ⟨0,0,none⟩ i];exact b
 have d:t.block<w.heap.size:=by
  rcases Nat.lt_or_ge t.block w.heap.size with a | a
  ·exact a
  ·simp [World.cell?,Array.getElem?_eq_none a] at c
 have l:=Tryz.elemV55 ⟨w.heap.size,0,none⟩ t (((w.alloc (.cells #[.pointer (some t)] 139)).alloc (.cells #[.pointer (some ⟨5,139,none⟩),.pointer (some ⟨w.heap.size,0,none⟩),.int .u64 150] 181)).alloc (.cells #[.pointer (some ⟨5,139,none⟩),.pointer (some ⟨w.heap.size,0,none⟩),.int .u64 150] 181)) (by rw [World.cell?_alloc_lt _ _ ⟨w.heap.size,0,none⟩ (by simp;omega)];simp);have K:=Tryz.set36 t ⟨w.heap.size+1+1+1,0,none⟩ n e ((((w.alloc (.cells #[.pointer (some t)] 139)).alloc (.cells #[.pointer (some ⟨5,139,none⟩),.pointer (some ⟨w.heap.size,0,none⟩),.int .u64 150] 181)).alloc (.cells #[.pointer (some ⟨5,139,none⟩),.pointer (some ⟨w.heap.size,0,none⟩),.int .u64 150] 181)).alloc (.cells #[.int .i64 n] 53))
  (by rw [World.cell?_alloc_at _ _ _ _ (by simp)];rfl)
  (by rw [World.cell?_alloc_lt _ _ t (by simp;omega),World.cell?_alloc_lt _ _ t (by simp;omega),World.cell?_alloc_lt _ _ t (by simp;omega),World.cell?_alloc_lt _ _ t d];exact c)
  (by rw [World.frozen?_alloc_old _ _ t (by simp;omega),World.frozen?_alloc_old _ _ t (by simp;omega),World.frozen?_alloc_old _ _ t (by simp;omega),World.frozen?_alloc_old _ _ t (Nat.ne_of_lt d)];exact h)
 go_enter func51,ntmps51
 go_wp2
 refine wp_loop_rounds 1 ?_
 rw [rounds_succ];go_wp2
 go_ret
 exact⟨rfl,rfl⟩
end Go.Proofs.YtnlgndpcddngoaaGreatDoor
namespace Go.Proofs.YtnlgndpcddngoaaGreatDoor
open Go.Proofs.Tryz Go.RowKit
variable [dK] [iK]
theorem ik (c b:Int)(f:Nat)(v:Value)(w:World)
  (g:Hid (∀ a,B7 w a->Calls prog 132 #[uJ c b (.func (.func f) #[] #[]),v] a fun e w'=>e=.returned (.iface 53 (.int .i64 2))/\B7 a w')) :
  Calls prog 103 #[uJ c b (.func (.func f) #[] #[]),v] w fun e w'=>e=.returned (.tuple #[.slice none 0 0,.iface 53 (.int .i64 2)])/\B7 w w':=by
 go_enter func103,ntmps103
 go_wp2_with fail
 refine (g.out _ (ba w)).mono ?_
 rintro e a ⟨rfl,d⟩;go_wp2_with fail
 refine (kf _ _).mono ?_
 rintro e h ⟨rfl,rfl⟩;go_wp2
 go_ret2
 exact⟨rfl,(ba w).trans (d.mono (by simp))⟩
theorem kG (c b:Int)(f:Nat)(v:Value)(w:World)
  (g:Hid (∀ a,B7 w a->Calls prog 132 #[uJ c b (.func (.func f) #[] #[]),v] a fun e w'=>e=.returned (.iface 53 (.int .i64 1))/\B7 a w')) :
  Calls prog 103 #[uJ c b (.func (.func f) #[] #[]),v] w fun e w'=>e=.returned (.tuple #[.slice none 0 0,.iface 53 (.int .i64 1)])/\B7 w w':=by
 go_enter func103,ntmps103
 go_wp2_with fail
 refine (g.out _ (ba w)).mono ?_
 rintro e a ⟨rfl,d⟩;go_wp2_with fail
 refine (qG _ _ _ (by decide)).mono ?_
 rintro e h ⟨rfl,rfl⟩;go_wp2_with fail
 refine (kf _ _).mono ?_
 rintro e h ⟨rfl,rfl⟩;go_wp2
 go_ret2
 exact⟨rfl,(ba w).trans (d.mono (by simp))⟩
theorem qh (k j:Int)(f g c n d:Nat)(b:Int)(w:World)(v:0<n)(r:0<=b)(s:b<=255)(o:g<w.heap.size)(m:w.cell? ⟨g,c,none⟩=some (.int .u8 b))(u:(n:Int)<=b)
  (l:Hid (∀ a,B7 w a->Calls prog 132 #[uJ k j (.func (.func f) #[] #[]),.slice (some ⟨g,c,none⟩) n d] a fun e w'=>e=.returned .nilIface/\B7 a w')) :
  Calls prog 103 #[uJ k j (.func (.func f) #[] #[]),.slice (some ⟨g,c,none⟩) n d] w fun e w'=>e=.returned (.tuple #[.slice none 0 0,.iface 53 (.int .i64 1)])/\B7 w w':=by
 go_enter func103,ntmps103
 go_wp2_with fail
 refine (l.out _ (ba w)).mono ?_
 rintro e a ⟨rfl,i⟩;have h:B7 w a:=(ba w).trans (i.mono (by simp));have t:a.cell? ⟨g,c,none⟩=some (.int .u8 b):=(h.cell (p:=⟨g,c,none⟩) o).trans m;clear i;go_wp2_with fail
 refine (pD _ _).mono ?_
 rintro e q ⟨rfl,rfl⟩;go_wp2_with fail
 refine (pD _ _).mono ?_
 rintro e q ⟨rfl,rfl⟩;go_wp2
 go_ret2
 exact⟨rfl,h⟩
theorem jdn (k j:Int)(f g c n d a:Nat)(w:World)(v:a<n)(y:n<=d)(x:n<=1048576)(r:0<a)(s:a<=255)(o:g<w.heap.size)(m:w.cell? ⟨g,c,none⟩=some (.int .u8 a))
  (l:Hid (∀ b,B7 w b->Calls prog 132 #[uJ k j (.func (.func f) #[] #[]),.slice (some ⟨g,c,none⟩) n d] b fun e w'=>e=.returned .nilIface/\B7 b w')) :
  Calls prog 103 #[uJ k j (.func (.func f) #[] #[]),.slice (some ⟨g,c,none⟩) n d] w fun e w'=>e=.returned (.tuple #[.slice (some ⟨g,c+1,none⟩) a a,.nilIface])/\B7 w w':=by
 have z:0<n:=by omega
 have u:0<d:=by omega
 go_enter func103,ntmps103
 go_wp2_with fail
 refine (l.out _ (ba w)).mono ?_
 rintro e b ⟨rfl,i⟩;have h:B7 w b:=(ba w).trans (i.mono (by simp));have t:b.cell? ⟨g,c,none⟩=some (.int .u8 a):=(h.cell (p:=⟨g,c,none⟩) o).trans m;clear i;go_wp2_with fail
 refine (pD _ _).mono ?_
 rintro e q ⟨rfl,rfl⟩;go_wp2_with fail
 refine (pD _ _).mono ?_
 rintro e q ⟨rfl,rfl⟩;go_wp2
 go_ret2
 rw [Nat.add_sub_cancel_left];exact⟨rfl,h⟩
theorem fj (g b n c a:Nat)(f:Int)(w:World)(o:a<n)(r:n<=c)(q:n<=1048576)(k:0<a)(t:a<=26)(m:(a:Int)=aM f)(d:g<w.heap.size)(i:w.cell? ⟨g,b,none⟩=some (.int .u8 a))(l:w.cell? ⟨g,b+1,none⟩=some (.int .u8 f)) :
  Calls prog 103 #[OB,.slice (some ⟨g,b,none⟩) n c] w fun e w'=>e=.returned (.tuple #[.slice (some ⟨g,b+1,none⟩) a a,.nilIface])/\B7 w w':=by
 refine jdn 1 26 66 g b n c a w o r q k (by omega) d i ?_
 intro s h;refine (rX g b n c a f s (by omega) (ll d h.size) ((h.cell (p:=⟨g,b,none⟩) d).trans i) ((h.cell (p:=⟨g,b+1,none⟩) d).trans l) (by omega) (by omega)).mono ?_
 rintro e u ⟨rfl,j⟩;exact⟨by rw [if_pos m],j⟩
theorem aA {a:World}{g:Nat}(d e:Obj)(b:Nat)(c:g<a.heap.size):((a.alloc d).alloc e).cell? ⟨g,b,none⟩=a.cell? ⟨g,b,none⟩:=by
 rw [World.cell?_alloc_past _ _ _ (by simp;omega),World.cell?_alloc_past _ _ _ c]
theorem jgp (g a n z:Nat)(m o q r s t u x:Int)(w:World)(T:10<=n)(Q:n<=z)(P:n<=1048576)(b:g<w.heap.size)(B:w.cell? ⟨g,a,none⟩=some (.int .u8 9))(y:w.cell? ⟨g,a+1,none⟩=some (.int .u8 3))(C:w.cell? ⟨g,a+2,none⟩=some (.int .u8 m))(D:w.cell? ⟨g,a+3,none⟩=some (.int .u8 o))(E:w.cell? ⟨g,a+4,none⟩=some (.int .u8 q))(F:w.cell? ⟨g,a+5,none⟩=some (.int .u8 r))(G:w.cell? ⟨g,a+6,none⟩=some (.int .u8 s))(H:w.cell? ⟨g,a+7,none⟩=some (.int .u8 t))(I:w.cell? ⟨g,a+8,none⟩=some (.int .u8 u))(J:w.cell? ⟨g,a+9,none⟩=some (.int .u8 x)) :
  Calls prog 72 #[.slice (some ⟨g,a,none⟩) n z] w fun e w'=>e=.returned (.tuple #[OM m o q r s t u x,.int .i64 10,.nilIface])/\B7 w w':=by
 go_enter func72,ntmps72
 go_wp2_with fail
 refine (cE _).mono ?_
 rintro e A ⟨rfl,j⟩;have l:B7 w A:=(ba w).trans (j.mono (by simp));have N:w.heap.size<A.heap.size:=by have:=j.size;simp at this;omega
 go_wp2_with fail
 refine (fj g a n z 9 3 A (by omega) Q P (by omega) (by omega) (by decide) (by omega) ((l.cell (p:=⟨g,a,none⟩) b).trans B) ((l.cell (p:=⟨g,a+1,none⟩) b).trans y)).mono ?_
 rintro e f ⟨rfl,k⟩;have c:B7 w f:=l.trans (k.mono (by omega));have R:w.heap.size<f.heap.size:=by have:=k.size;omega
 have K:∀ d,f.cell? ⟨w.heap.size,d,none⟩=(#[.int .u8 0,.int .u8 0,.int .u8 0,.int .u8 0,.int .u8 0,.int .u8 0,.int .u8 0,.int .u8 0,.int .u8 0,.int .u8 0,.int .u64 0,.int .u64 0,.int .u64 0]:Array Value)[d]?:=fun d=>(k.cell (p:=⟨w.heap.size,d,none⟩) N).trans ((j.cell (p:=⟨w.heap.size,d,none⟩) (by simp)).trans (bR w _ _ d));have L:∀ d,f.frozen? ⟨w.heap.size,d,none⟩=false:=fun d=>(k.frozen (p:=⟨w.heap.size,d,none⟩) N).trans ((j.frozen (p:=⟨w.heap.size,d,none⟩) (by simp)).trans (by simp));clear j k;go_wp2_with fail
 refine (iy _ _ _ _).mono ?_
 rintro e ao ⟨rfl,rfl⟩;go_wp2_with fail
 have h:g<f.heap.size:=by omega
 refine (eG f.heap.size g (a+1) 9 3 _ (by simp) (by simp) (by omega) (by omega) (by rw [World.cell?_alloc_lt _ _ ⟨g,a+1,none⟩ h];exact (c.cell (p:=⟨g,a+1,none⟩) b).trans y)).mono ?_
 rintro e Z ⟨rfl,rfl⟩;go_wp2_with fail
 refine (qH f.heap.size g (a+2) m o q r s t u x _ (by simp;omega) (by simp;omega) (by simp) (by simp)
   (by rw [aA _ _ _ h];exact (c.cell (p:=⟨g,a+2,none⟩) b).trans C)
   (by rw [aA _ _ _ h];exact (c.cell (p:=⟨g,a+3,none⟩) b).trans D)
   (by rw [aA _ _ _ h];exact (c.cell (p:=⟨g,a+4,none⟩) b).trans E)
   (by rw [aA _ _ _ h];exact (c.cell (p:=⟨g,a+5,none⟩) b).trans F)
   (by rw [aA _ _ _ h];exact (c.cell (p:=⟨g,a+6,none⟩) b).trans G)
   (by rw [aA _ _ _ h];exact (c.cell (p:=⟨g,a+7,none⟩) b).trans H)
   (by rw [aA _ _ _ h];exact (c.cell (p:=⟨g,a+8,none⟩) b).trans I)
   (by rw [aA _ _ _ h];exact (c.cell (p:=⟨g,a+9,none⟩) b).trans J)).mono ?_
 rintro e ad ⟨rfl,Y,M⟩;have i:=St.of_key c b R K L M;clear M K L C D E F G H I J B y l c;have W:=i.r;have X:=i.rf;have O:=i.R;have S:=i.Rf;have U:¬w.heap.size=f.heap.size+1:=by omega
 have V:¬f.heap.size+1=w.heap.size:=by omega
 go_wp2
 refine bodyPost_ret (v:=.tuple #[OM m o q r s t u x,.int .i64 10,.nilIface]) (by simp [results,results72,go_sem,O]) rfl ⟨rfl,?_⟩
 repeat (refine Below.setCell ?_ (by first | exact lz | (show _<=f.heap.size+1;omega) | (show _<=f.heap.size;omega)) _)
 exact i.B
theorem jgq (g a n z:Nat)(m o q r s t u x:Int)(w:World)(T:10<=n)(Q:n<=z)(P:n<=1048576)(b:g<w.heap.size)(B:w.cell? ⟨g,a,none⟩=some (.int .u8 9))(y:w.cell? ⟨g,a+1,none⟩=some (.int .u8 4))(C:w.cell? ⟨g,a+2,none⟩=some (.int .u8 m))(D:w.cell? ⟨g,a+3,none⟩=some (.int .u8 o))(E:w.cell? ⟨g,a+4,none⟩=some (.int .u8 q))(F:w.cell? ⟨g,a+5,none⟩=some (.int .u8 r))(G:w.cell? ⟨g,a+6,none⟩=some (.int .u8 s))(H:w.cell? ⟨g,a+7,none⟩=some (.int .u8 t))(I:w.cell? ⟨g,a+8,none⟩=some (.int .u8 u))(J:w.cell? ⟨g,a+9,none⟩=some (.int .u8 x)) :
  Calls prog 72 #[.slice (some ⟨g,a,none⟩) n z] w fun e w'=>e=.returned (.tuple #[OL m o q r s t u x,.int .i64 10,.nilIface])/\B7 w w':=by
 go_enter func72,ntmps72
 go_wp2_with fail
 refine (cE _).mono ?_
 rintro e A ⟨rfl,j⟩;have l:B7 w A:=(ba w).trans (j.mono (by simp));have N:w.heap.size<A.heap.size:=by have:=j.size;simp at this;omega
 go_wp2_with fail
 refine (fj g a n z 9 4 A (by omega) Q P (by omega) (by omega) (by decide) (by omega) ((l.cell (p:=⟨g,a,none⟩) b).trans B) ((l.cell (p:=⟨g,a+1,none⟩) b).trans y)).mono ?_
 rintro e f ⟨rfl,k⟩;have c:B7 w f:=l.trans (k.mono (by omega));have R:w.heap.size<f.heap.size:=by have:=k.size;omega
 have K:∀ d,f.cell? ⟨w.heap.size,d,none⟩=(#[.int .u8 0,.int .u8 0,.int .u8 0,.int .u8 0,.int .u8 0,.int .u8 0,.int .u8 0,.int .u8 0,.int .u8 0,.int .u8 0,.int .u64 0,.int .u64 0,.int .u64 0]:Array Value)[d]?:=fun d=>(k.cell (p:=⟨w.heap.size,d,none⟩) N).trans ((j.cell (p:=⟨w.heap.size,d,none⟩) (by simp)).trans (bR w _ _ d));have L:∀ d,f.frozen? ⟨w.heap.size,d,none⟩=false:=fun d=>(k.frozen (p:=⟨w.heap.size,d,none⟩) N).trans ((j.frozen (p:=⟨w.heap.size,d,none⟩) (by simp)).trans (by simp));clear j k;go_wp2_with fail
 refine (iy _ _ _ _).mono ?_
 rintro e ao ⟨rfl,rfl⟩;go_wp2_with fail
 have h:g<f.heap.size:=by omega
 refine (eG f.heap.size g (a+1) 9 4 _ (by simp) (by simp) (by omega) (by omega) (by rw [World.cell?_alloc_lt _ _ ⟨g,a+1,none⟩ h];exact (c.cell (p:=⟨g,a+1,none⟩) b).trans y)).mono ?_
 rintro e Z ⟨rfl,rfl⟩;go_wp2_with fail
 refine (qH f.heap.size g (a+2) m o q r s t u x _ (by simp;omega) (by simp;omega) (by simp) (by simp)
   (by rw [aA _ _ _ h];exact (c.cell (p:=⟨g,a+2,none⟩) b).trans C)
   (by rw [aA _ _ _ h];exact (c.cell (p:=⟨g,a+3,none⟩) b).trans D)
   (by rw [aA _ _ _ h];exact (c.cell (p:=⟨g,a+4,none⟩) b).trans E)
   (by rw [aA _ _ _ h];exact (c.cell (p:=⟨g,a+5,none⟩) b).trans F)
   (by rw [aA _ _ _ h];exact (c.cell (p:=⟨g,a+6,none⟩) b).trans G)
   (by rw [aA _ _ _ h];exact (c.cell (p:=⟨g,a+7,none⟩) b).trans H)
   (by rw [aA _ _ _ h];exact (c.cell (p:=⟨g,a+8,none⟩) b).trans I)
   (by rw [aA _ _ _ h];exact (c.cell (p:=⟨g,a+9,none⟩) b).trans J)).mono ?_
 rintro e ad ⟨rfl,Y,M⟩;have i:=St.of_key c b R K L M;clear M K L C D E F G H I J B y l c;have W:=i.r;have X:=i.rf;have O:=i.R;have S:=i.Rf;have U:¬w.heap.size=f.heap.size+1:=by omega
 have V:¬f.heap.size+1=w.heap.size:=by omega
 go_wp2
 refine bodyPost_ret (v:=.tuple #[OL m o q r s t u x,.int .i64 10,.nilIface]) (by simp [results,results72,go_sem,O]) rfl ⟨rfl,?_⟩
 repeat (refine Below.setCell ?_ (by first | exact lz | (show _<=f.heap.size+1;omega) | (show _<=f.heap.size;omega)) _)
 exact i.B
theorem jh (w:World):Calls prog 35 #[.nilIface] w fun e w'=>e=.returned (.int .i64 0)/\B7 w w':=by
 go_enter func35,ntmps35
 go_wp2
 go_ret
 exact⟨rfl,ba w⟩
theorem jc3 (n:Int)(w:World)(a:w.cell? ⟨0,0,none⟩=some (.iface 236 (.agg #[.pointer (some ⟨5,97,none⟩)]))) :
  Calls prog 35 #[.iface 53 (.int .i64 n)] w fun e w'=>e=.returned (.int .i64 n)/\B7 w w':=by
 have g:0<w.heap.size:=by
  rcases Nat.eq_zero_or_pos w.heap.size with c | b
  ·simp [World.cell?,c] at a
  ·exact b
 have f:(w.alloc (Uk)).cell? ⟨0,0,none⟩=some (.iface 236 (.agg #[.pointer (some ⟨5,97,none⟩)])):=by
  rw [World.cell?_alloc_lt _ _ ⟨0,0,none⟩ g];exact a
 have h:(w.alloc (Uk)).cell? ⟨w.heap.size,0,none⟩=some (.int .i64 0):=by simp
 have d:(w.alloc (Uk)).frozen? ⟨w.heap.size,0,none⟩=false:=by simp
 go_enter func35,ntmps35
 go_wp2_with (first | (go_at_call 51;refine (je8 _ _ (.int .i64 0) _ f h d).mono ?_;rintro e w' ⟨rfl,rfl⟩) | (go_at_call 52;refine (kf _ _).mono ?_;rintro e w' ⟨rfl,rfl⟩))
 go_ret
 exact⟨rfl,((((ba w).alloc (by simp) _).alloc (by simp;omega) _).alloc (by simp;omega) _).alloc (by simp;omega) _⟩
end Go.Proofs.YtnlgndpcddngoaaGreatDoor
