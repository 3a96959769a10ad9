import Derived.Test.YtnlgndpcddngoaaGreatDoorZ00
import Derived.BigQuiet
import Derived.Laws.EntriesVeiled
import Derived.Deep.QuietTactic
import Derived.WalkKit
import Derived.LaidEql
import Derived.Stop.Asserts
import Derived.RowKitTokens
import Derived.Deep.RegionLaw
import Derived.Deep.DeepCutAuto
import Derived.Deep.RegionHeld3
import Derived.Maps.OwnSet
import Derived.Maps.Ext
import Derived.Maps.RangeWalk
import Derived.WideKeyArr
import Derived.OpenShut
set_option linter.all false
set_option maxRecDepth 100000
set_option maxHeartbeats 2000000
namespace Go.Proofs.YtnlgndpcddngoaaGreatDoor
open Go.Proofs.Tryz Go.RowKit Go.Maps
variable [dK] [iK]
theorem jfK (g c n f:Nat)(b:Nat->Int)(w:World)(a5:27<=n)(bi:n<=f)(a6:n<=1048576)(p:g<w.heap.size)(o:∀ a,a<n->w.cell? ⟨g,c+a,none⟩=some (.int .u8 (b a)))(B:∀ a,0<=b a/\b a<=255)(y:b 0=26)(z:b 1=1) :
  Calls prog 85 #[.slice (some ⟨g,c,none⟩) n f] w fun e w'=>e=.returned (.tuple #[OU (b 2) (b 3) (b 4) (b 5) (b 6) (b 7) (b 8) (b 9) (b 10) (cu (fun a=>b (11+a)) 8) (cu (fun a=>b (19+a)) 8),.int .i64 27,.int .i64 0])/\B7 w w':=by
 have S:(0:Int)<n:=by omega
 have bk:decide ((0:Int)<n)=true:=by simpa using S
 have a7:decide ((1:Int)<n)=true:=by simp;omega
 have a9:(1:Int)<n:=by omega
 have bl:((n:Int)==0)=false:=by simp;omega
 have a4:decide ((n:Int)<27)=false:=by simp;omega
 have a3:aM 1=26:=rfl;have N:=gX.start w g p #[.int .u8 0,.int .u8 0,.int .u8 0,.int .u8 0,.int .u8 0,.int .u8 0,.int .u8 0,.int .u8 0,.int .u8 0,.int .u8 0,.int .u64 0,.int .u64 0,.int .u64 0];have s:w.cell? ⟨g,c,none⟩=some (.int .u8 26):=(o 0 (by omega)).trans (by rw [y]);have P:w.cell? ⟨g,c+1,none⟩=some (.int .u8 1):=(o 1 (by omega)).trans (by rw [z]);have O:∀ k l,((w.alloc k).alloc l).cell? ⟨g,c,none⟩=some (.int .u8 26):=fun k l=>by rw [World.cell?_alloc_past _ _ _ (by simp;omega),World.cell?_alloc_past _ _ _ p];exact s
 have Q:∀ k l,((w.alloc k).alloc l).cell? ⟨g,c+1,none⟩=some (.int .u8 1):=fun k l=>by rw [World.cell?_alloc_past _ _ _ (by simp;omega),World.cell?_alloc_past _ _ _ p];exact P
 have m:=aa o;have u:=aa B;clear o B y z;have a8:decide ((2:Int)<n)=true:=by simp;omega
 have av:¬f=11:=by omega
 have a0:¬f=19:=by omega
 have bb:(10:Int)<n:=by omega
 have bd:(11:Int)<=n:=by omega
 have bg:(19:Int)<=n:=by omega
 have bj:(n:Int)<=f:=by omega
 go_enter func85,ntmps85
 go_wp2_with (go_at_call 83;refine (bS _ _).mono ?_;rintro e w' ⟨rfl,rfl⟩)
 have x:gX w ((w.alloc (oM)).alloc (.cells #[.int .u8 1,.int .u8 0,.int .u8 0,.int .u8 0,.int .u8 0,.int .u8 0,.int .u8 0,.int .u8 0,.int .u8 0,.int .u8 0,.int .u64 0,.int .u64 0,.int .u64 0] 65)) g (dA 1 b 0):=gX.start w g p _;clear N O Q;go_loopw [7] (fun t wr=>∃ a:Nat,a<=8/\t=.int .i64 a/\gX w wr g (dA 1 b a)) (fun t _=>8 - (intOf t).toNat)
 case atStart=>exact⟨0,by omega,rfl,x⟩
 case round=>
  obtain⟨a,A,rfl,h⟩:=hrel;clear x;by_cases R:a<8
  ·have ao:wr.cell? ⟨g,c+(2+a),none⟩=some (.int .u8 (b (2+a))):=(h.G (c+(2+a))).trans (m.out (2+a) (by omega));have C:1+a<(dA 1 b a).size:=by show _<13;omega
   obtain⟨F,bu⟩:∃ F,wr.cell? ⟨w.heap.size+1,1+a,none⟩=some F:=⟨_,(h.r (1+a)).trans (Array.getElem?_eq_getElem C)⟩;have a1:=h.rf (1+a);have a2:2+a<n:=by omega
   go_wp2
   go_roundw
   case rel=>exact⟨a+1,by omega,by go_num,by rw [<-eR 1 b a R];exact h.setr (1+a) C _⟩
   case measure=>simp [intOf];omega
  ·obtain rfl:a=8:=by omega
   have d:gX w wr g #[.int .u8 1,.int .u8 (b 2),.int .u8 (b 3),.int .u8 (b 4),.int .u8 (b 5),.int .u8 (b 6),.int .u8 (b 7),.int .u8 (b 8),.int .u8 (b 9),.int .u8 0,.int .u64 0,.int .u64 0,.int .u64 0]:=h;clear h;have T:=d.r;have V:=d.rf;have I:=d.R;have L:=d.Rf;have G:wr.cell? ⟨g,c,none⟩=some (.int .u8 26):=(d.G c).trans s;have H:wr.cell? ⟨g,c+10,none⟩=some (.int .u8 (b 10)):=(d.G (c+10)).trans (m.out 10 (by omega));go_wp2_with fail
   have r:=d.setr 9 (by simp) (.int .u8 (b 10));refine (je g (c+11) (n - 11) (f - 11) (fun a=>b (11+a)) _ (by omega) (by omega) (fun a A=>by rw [Nat.add_assoc];exact (r.G (c+(11+a))).trans (m.out (11+a) (by omega))) (fun a=>u.out (11+a))).mono ?_
   rintro e X ⟨rfl,D⟩;have j:gX w X g #[.int .u8 1,.int .u8 (b 2),.int .u8 (b 3),.int .u8 (b 4),.int .u8 (b 5),.int .u8 (b 6),.int .u8 (b 7),.int .u8 (b 8),.int .u8 (b 9),.int .u8 (b 10),.int .u64 0,.int .u64 0,.int .u64 0]:=by rw [D];exact r
   clear D r G H T V I L d;have U:=j.r;have W:=j.rf;have K:=j.R;have M:=j.Rf;go_wp2_with fail
   have q:=j.setr 10 (by simp) (.int .u64 (cu (fun a=>b (11+a)) 8));refine (je g (c+19) (n - 19) (f - 19) (fun a=>b (19+a)) _ (by omega) (by omega) (fun a A=>by rw [Nat.add_assoc];exact (q.G (c+(19+a))).trans (m.out (19+a) (by omega))) (fun a=>u.out (19+a))).mono ?_
   rintro e Y ⟨rfl,E⟩;have i:gX w Y g #[.int .u8 1,.int .u8 (b 2),.int .u8 (b 3),.int .u8 (b 4),.int .u8 (b 5),.int .u8 (b 6),.int .u8 (b 7),.int .u8 (b 8),.int .u8 (b 9),.int .u8 (b 10),.int .u64 (cu (fun a=>b (11+a)) 8),.int .u64 0,.int .u64 0]:=by rw [E];exact q
   clear E q U W K M j;have bo:=i.r;have bs:=i.rf;have J:=i.R;have ad:=i.Rf;go_wp2_with fail
   have Z:=(i.G c).trans s;go_region
   all_goals
    go_wp2
    refine bodyPost_ret (v:=.tuple #[OU (b 2) (b 3) (b 4) (b 5) (b 6) (b 7) (b 8) (b 9) (b 10) (cu (fun a=>b (11+a)) 8) (cu (fun a=>b (19+a)) 8),.int .i64 27,.int .i64 0]) (by simp [results,results85,go_sem,J]) rfl ⟨rfl,?_⟩
    refine Below.drew ?_
    repeat (refine Below.setCell ?_ (by first | exact lz | (show _<=w.heap.size+1;omega)) _)
    exact i.B
theorem cE (w:World):Calls prog 102 #[] w fun e w'=>e=.returned (OB)/\B7 w w':=by
 go_enter func102,ntmps102
 go_wp2
 exact bodyPost_ret (v:=OB) (by simp [results,results102,go_sem]) rfl ⟨rfl,ba w⟩
theorem jfb (a:Option Addr)(b:Nat)(w:World) :
  Calls prog 132 #[OB,.slice a 0 b] w fun e w'=>e=.returned (.iface 53 (.int .i64 1))/\B7 w w':=by
 go_enter func132,ntmps132
 go_wp2
 go_ret
 exact⟨rfl,ba w⟩
theorem jfc (g b n c:Nat)(a:Int)(w:World)(k:0<n)(f:g<w.heap.size)(d:w.cell? ⟨g,b,none⟩=some (.int .u8 a))(h:a<1) :
  Calls prog 132 #[OB,.slice (some ⟨g,b,none⟩) n c] w fun e w'=>e=.returned (.iface 53 (.int .i64 2))/\B7 w w':=by
 have j:decide (a<1)=true:=by simpa using h
 have l:((n:Int)==0)=false:=by simp;omega
 have i:(w.alloc (ue)).cell? ⟨g,b,none⟩=some (.int .u8 a):=by rw [World.cell?_alloc_lt _ _ ⟨g,b,none⟩ f];exact d
 go_enter func132,ntmps132
 go_wp2
 go_quiet (fail)
 go_wp2
 go_ret
 exact⟨rfl,below_drewN (ba w) _⟩
theorem jfd (g b n c:Nat)(a:Int)(w:World)(m:0<n)(f:g<w.heap.size)(d:w.cell? ⟨g,b,none⟩=some (.int .u8 a))(i:¬a<1)(h:26<a) :
  Calls prog 132 #[OB,.slice (some ⟨g,b,none⟩) n c] w fun e w'=>e=.returned (.iface 53 (.int .i64 2))/\B7 w w':=by
 have k:decide (a<1)=false:=by simpa using i
 have l:decide (26<a)=true:=by simpa using h
 have o:((n:Int)==0)=false:=by simp;omega
 have j:(w.alloc (ue)).cell? ⟨g,b,none⟩=some (.int .u8 a):=by rw [World.cell?_alloc_lt _ _ ⟨g,b,none⟩ f];exact d
 go_enter func132,ntmps132
 go_wp2
 go_quiet (fail)
 go_wp2
 go_ret
 exact⟨rfl,below_drewN (ba w) _⟩
theorem jfe (g b n c:Nat)(a:Int)(w:World)(m:0<n)(f:g<w.heap.size)(d:w.cell? ⟨g,b,none⟩=some (.int .u8 a))(i:¬a<1)(h:¬26<a)(p:((n:Int)==1)=true) :
  Calls prog 132 #[OB,.slice (some ⟨g,b,none⟩) n c] w fun e w'=>e=.returned (.iface 53 (.int .i64 1))/\B7 w w':=by
 have k:decide (a<1)=false:=by simpa using i
 have l:decide (26<a)=false:=by simpa using h
 have o:((n:Int)==0)=false:=by simp;omega
 have j:(w.alloc (ue)).cell? ⟨g,b,none⟩=some (.int .u8 a):=by rw [World.cell?_alloc_lt _ _ ⟨g,b,none⟩ f];exact d
 go_enter func132,ntmps132
 go_wp2
 go_quiet (fail)
 go_wp2
 go_ret
 exact⟨rfl,below_drewN (ba w) _⟩
theorem rX (g b n h:Nat)(a c:Int)(w:World)(u:1<n)(f:g<w.heap.size)(j:w.cell? ⟨g,b,none⟩=some (.int .u8 a))(k:w.cell? ⟨g,b+1,none⟩=some (.int .u8 c))(m:¬a<1)(l:¬26<a) :
  Calls prog 132 #[OB,.slice (some ⟨g,b,none⟩) n h] w fun e w'=>e=.returned (if a=aM c then .nilIface else .iface 53 (.int .i64 2))/\B7 w w':=by
 have s:decide (a<1)=false:=by simpa using m
 have t:decide (26<a)=false:=by simpa using l
 have v:((n:Int)==0)=false:=by simp;omega
 have x:((n:Int)==1)=false:=by simp;omega
 have z:0<n:=by omega
 have y:(1:Int)<(n:Int):=by omega
 have A:IntKind.i64.wrap a=a:=wrap_small a (by omega) (by omega);have q:(w.alloc (ue)).cell? ⟨g,b,none⟩=some (.int .u8 a):=by rw [World.cell?_alloc_lt _ _ ⟨g,b,none⟩ f];exact j
 have r:(w.alloc (ue)).cell? ⟨g,b+1,none⟩=some (.int .u8 c):=by rw [World.cell?_alloc_lt _ _ ⟨g,b+1,none⟩ f];exact k
 by_cases d:a=aM c
 ·rw [if_pos d];have i:(a != aM c)=false:=by simpa using d
  have p:=aa d;clear d;go_enter func132,ntmps132
  go_wp2
  go_quiet (fail)
  go_wp2
  go_quiet ((go_at_call 66;refine (vK _ _).mono ?_;rintro e o ⟨rfl,rfl⟩;exact⟨rfl,_,rfl⟩))
  go_wp2
  go_ret
  exact⟨rfl,below_drewN (below_drewN (ba w) _) _⟩
 ·rw [if_neg d];have i:(a != aM c)=true:=by simpa using d
  go_enter func132,ntmps132
  go_wp2
  go_quiet (fail)
  go_wp2
  go_quiet ((go_at_call 66;refine (vK _ _).mono ?_;rintro e o ⟨rfl,rfl⟩;exact⟨rfl,_,rfl⟩))
  go_wp2
  go_ret
  exact⟨rfl,below_drewN (ba w) _⟩
def gG (c:Int):Int:=if c<1\/9<c then 0 else 17
end Go.Proofs.YtnlgndpcddngoaaGreatDoor
namespace Go.Proofs.YtnlgndpcddngoaaGreatDoor
open Go.Proofs.Tryz Go.RowKit Go.Extern.Stop Go.Stop Go.Extern
variable [dK] [iK]
theorem Tryz.valueOf55 (t:Addr)(w:World):(ReflectliteValue.unpack (.iface 139 (.pointer (some t)))).run prog w
  = .ok (.agg #[.pointer (some ⟨5,139,none⟩),.pointer (some ⟨w.heap.size,0,none⟩),.int .u64 150]) (w.alloc (.cells #[.pointer (some t)] 139)):=by kernel_rfl
theorem Tryz.type55 (a:Addr)(w:World):(ReflectliteValue.methodAny (ReflectliteValue.valueError "reflectlite.Value.Type" 0) (fun t _ _ _=>ReflectliteType.toType t) #[.agg #[.pointer (some ⟨5,139,none⟩),.pointer (some a),.int .u64 150]]).run prog w
  = .ok (.iface 236 (.agg #[.pointer (some ⟨5,139,none⟩)])) w:=by kernel_rfl
theorem Tryz.methodKind (a:Value)(w:World):(Go.method 510 236 (.agg #[a]) "Kind").run prog w=.ok (251,a) w:=by kernel_rfl
theorem Tryz.kind55 (w:World):((ReflectliteType.abiMethod fun t=>Functor.map (fun a:Nat=>Value.int IntKind.u8 (a:Int)) (Rtype.kind t)) #[pO 5 139]).run prog w=.ok (.int .u8 22) w:=by kernel_rfl
theorem Tryz.kind36 (w:World):((ReflectliteType.abiMethod fun t=>Functor.map (fun a:Nat=>Value.int IntKind.u8 (a:Int)) (Rtype.kind t)) #[pO 5 53]).run prog w=.ok (.int .u8 2) w:=by kernel_rfl
theorem Tryz.parts55 (a:Addr)(w:World):(ReflectliteValue.parts (.agg #[.pointer (some ⟨5,139,none⟩),.pointer (some a),.int .u64 150])).run prog w=.ok (some (139,a,150)) w:=by kernel_rfl
theorem Tryz.isNil55 (a p:Addr)(b:World)(c:b.cell? a=some (.pointer (some p))) :
  (ReflectliteValue.method (ReflectliteValue.valueError "reflectlite.Value.IsNil" 0) ReflectliteValue.isNil #[.agg #[.pointer (some ⟨5,139,none⟩),.pointer (some a),.int .u64 150]]).run prog b=.ok (.bool false) b:=by
 show Sem.run prog (ReflectliteValue.parts (.agg #[.pointer (some ⟨5,139,none⟩),.pointer (some a),.int .u64 150]) >>= _) b=_;simp only [Sem.run_bind,Tryz.parts55,Result.andThen];simp [ReflectliteValue.isNil,loadVar,isAgg,underlying,underlying139,c,Result.andThen]
theorem Tryz.methodElem (a:Value)(w:World):(Go.method 510 236 (.agg #[a]) "Elem").run prog w=.ok (286,.agg #[a]) w:=by kernel_rfl
theorem Tryz.methodImplements (a:Value)(w:World):(Go.method 510 236 (.agg #[a]) "Implements").run prog w=.ok (287,.agg #[a]) w:=by kernel_rfl
theorem Tryz.methodAssignableTo (a:Value)(w:World):(Go.method 510 236 (.agg #[a]) "AssignableTo").run prog w=.ok (284,.agg #[a]) w:=by kernel_rfl
theorem Tryz.methodComparable (a:Value)(w:World):(Go.method 510 236 (.agg #[a]) "Comparable").run prog w=.ok (285,.agg #[a]) w:=by kernel_rfl
theorem Tryz.elem55 (w:World):(ReflectliteType.method ReflectliteType.elem #[.agg #[.pointer (some ⟨5,139,none⟩)]]).run prog w=.ok (.iface 236 (.agg #[.pointer (some ⟨5,53,none⟩)])) w:=by kernel_rfl
theorem Tryz.implements36 (w:World):(ReflectliteType.relation "Implements" ReflectliteType.implements_ #[.agg #[.pointer (some ⟨5,53,none⟩)],.iface 236 (.agg #[.pointer (some ⟨5,97,none⟩)])]).run prog w=.ok (.bool true) w:=by kernel_rfl
theorem Tryz.typeOf36 (v:Value)(w:World):(ReflectliteType.typeOf #[.iface 53 v]).run prog w=.ok (.iface 236 (.agg #[.pointer (some ⟨5,53,none⟩)])) w:=by kernel_rfl
theorem Tryz.assignable36 (w:World):(ReflectliteType.relation "AssignableTo" ReflectliteType.assignableTo #[.agg #[.pointer (some ⟨5,53,none⟩)],.iface 236 (.agg #[.pointer (some ⟨5,53,none⟩)])]).run prog w=.ok (.bool true) w:=by kernel_rfl
theorem Tryz.valueOf36 (n:Int)(w:World):(ReflectliteValue.unpack (.iface 53 (.int .i64 n))).run prog w
  = .ok (.agg #[.pointer (some ⟨5,53,none⟩),.pointer (some ⟨w.heap.size,0,none⟩),.int .u64 130]) (w.alloc (.cells #[.int .i64 n] 53)):=by kernel_rfl
theorem Tryz.elemOf55 (w:World):(Rtype.elem? 139).run prog w=.ok (some 53) w:=by kernel_rfl
theorem Tryz.mk36 (p:Addr)(w:World):(ReflectliteValue.mk 53 p ReflectliteValue.flagAddr).run prog w=.ok (.agg #[.pointer (some ⟨5,53,none⟩),.pointer (some p),.int .u64 386]) w:=by kernel_rfl
theorem Tryz.elemV55 (a p:Addr)(b:World)(c:b.cell? a=some (.pointer (some p))) :
  (ReflectliteValue.method (ReflectliteValue.valueError "reflectlite.Value.Elem" 0) ReflectliteValue.elem #[.agg #[.pointer (some ⟨5,139,none⟩),.pointer (some a),.int .u64 150]]).run prog b
   = .ok (.agg #[.pointer (some ⟨5,53,none⟩),.pointer (some p),.int .u64 386]) b:=by
 show Sem.run prog (ReflectliteValue.parts (.agg #[.pointer (some ⟨5,139,none⟩),.pointer (some a),.int .u64 150]) >>= _) b=_;simp only [Sem.run_bind,Tryz.parts55,Result.andThen];simp [ReflectliteValue.elem,loadVar,isAgg,underlying,underlying139,c,Result.andThen,Tryz.elemOf55,Tryz.mk36]
theorem Tryz.parts36a (a:Addr)(w:World):(ReflectliteValue.parts (.agg #[.pointer (some ⟨5,53,none⟩),.pointer (some a),.int .u64 386])).run prog w=.ok (some (53,a,386)) w:=by kernel_rfl
theorem Tryz.parts36 (a:Addr)(w:World):(ReflectliteValue.parts (.agg #[.pointer (some ⟨5,53,none⟩),.pointer (some a),.int .u64 130])).run prog w=.ok (some (53,a,130)) w:=by kernel_rfl
theorem Tryz.direct36 (w:World):(Rtype.directlyAssignable 53 53).run prog w=.ok true w:=by kernel_rfl
theorem Tryz.set36 (c b:Addr)(n:Int)(g:Value)(a:World)(d:a.cell? b=some (.int .i64 n))(f:a.cell? c=some g)(e:a.frozen? c=false) :
  (ReflectliteValue.set #[.agg #[.pointer (some ⟨5,53,none⟩),.pointer (some c),.int .u64 386],.agg #[.pointer (some ⟨5,53,none⟩),.pointer (some b),.int .u64 130]]).run prog a
   = .ok (.tuple #[]) (a.setCell c (.int .i64 n)):=by
 show Sem.run prog (ReflectliteValue.parts (.agg #[.pointer (some ⟨5,53,none⟩),.pointer (some c),.int .u64 386]) >>= fun h=>ReflectliteValue.parts (.agg #[.pointer (some ⟨5,53,none⟩),.pointer (some b),.int .u64 130]) >>= _) a=_;simp only [Sem.run_bind,Tryz.parts36a,Tryz.parts36,Result.andThen];simp [ReflectliteValue.flagAddr,loadVar,isAgg,underlying,underlying53,d,Result.andThen,Tryz.direct36,storeVar,Value.cells,storeCells,Addr.add];rw [run_store prog a c _ _ (by rfl)];simp [f,e]
end Go.Proofs.YtnlgndpcddngoaaGreatDoor
namespace Go.Proofs.YtnlgndpcddngoaaGreatDoor
open Go.Proofs.Tryz Go.RowKit Go.Maps
variable [dK] [iK]
theorem iS {k:Ky}{q:Qt}:∀ {ks:List (Ky×Qt)},(aZ k ks).isSome=true->aZ k (jH k q ks)=some q
 | [],h=>by simp [aZ] at h
 | (k',q') :: r,h=>by
  unfold jH;by_cases a:k'=k
  ·simp [a,aZ]
  ·rw [if_neg a];unfold aZ at h ⊢;rw [if_neg a] at h ⊢;exact iS h
theorem mz {k c:Ky}{q:Qt}(b:c≠k):∀ {ks:List (Ky×Qt)},aZ c (jH k q ks)=aZ c ks
 | []=>rfl
 | (k2,q2) :: r=>by
  unfold jH;by_cases d:k2=k
  ·subst d;rw [if_pos rfl];unfold aZ;rw [if_neg (fun a=>b a.symm),if_neg (fun a=>b a.symm)]
  ·rw [if_neg d];unfold aZ;rw [mz b]
theorem lp {k:Ky}{q:Qt}:∀ {ks:List (Ky×Qt)},(jH k q ks).length=ks.length
 | []=>rfl
 | (k2,q2) :: r=>by
  unfold jH;split
  ·rfl
  ·simp [lp]
theorem jL {k:Ky}:∀ {ks:List (Ky×Qt)},k ∉ ks.map Prod.fst->aZ k ks=none
 | [],_=>rfl
 | (k2,q2) :: r,h=>by
  simp at h;unfold aZ;rw [if_neg (fun a=>h.1 a.symm)];exact jL (by simpa using h.2)
theorem iP {k:Ky}:∀ {ks:List (Ky×Qt)},(ks.map Prod.fst).Nodup->aZ k (del k ks)=none
 | [],_=>rfl
 | (k2,q2) :: r,h=>by
  simp only [List.map_cons,List.nodup_cons] at h;unfold del;by_cases a:k2=k
  ·subst a;rw [if_pos rfl];exact jL h.1
  ·rw [if_neg a];unfold aZ;rw [if_neg a];exact iP h.2
structure Rp.ok (r:Rp):Prop where
 c:0<=r.c/\r.c<=255
 a:U7 r.a
 b:U7 r.b
structure Rq.ok (q:Rq):Prop where
 key:q.key.ok
 x:U7 q.x
 y:U7 q.y
 n:U7 q.n
def Bytes (bs:List Int):Prop:=∀ a∈bs,0<=a/\a<=255
theorem Bytes.getD {bs:List Int}(d:Bytes bs)(a:Nat):0<=bs.getD a 0/\bs.getD a 0<=255:=by
 by_cases c:a<bs.length
 ·have b:bs.getD a 0=bs[a]:=by simp [List.getD,List.getElem?_eq_getElem c]
  rw [b];exact d _ (List.getElem_mem c)
 ·have b:bs.getD a 0=0:=by simp [List.getD,List.getElem?_eq_none (Nat.le_of_not_lt c)]
  rw [b];omega
theorem Bytes.drop {bs:List Int}(b:Bytes bs)(n:Nat):Bytes (bs.drop n):=fun a c=>b a (List.mem_of_mem_drop c)
theorem Bytes.app {a b:List Int}(d:Bytes a)(e:Bytes b):Bytes (a ++ b):=fun c f=>(List.mem_append.1 f).elim (d c) (e c)
theorem pG (bs:List Int)(b:Bytes bs)(o:Nat):0<=gA bs o/\gA bs o<=18446744073709551615:=by
 have:=fM (fun a=>bs.getD (o+a) 0) (fun a=>b.getD (o+a)) 8;unfold gA;have c:(256:Int) ^ 8=18446744073709551616:=by decide
 omega
theorem jcC (bs:List Int)(a:Bytes bs):(rdQ bs).ok:=by
 have b:(0:Int)<=0/\(0:Int)<=255:=by omega
 have c:(0:Int)<=0/\(0:Int)<=18446744073709551615:=by omega
 unfold rdQ;split
 ·split
  ·exact⟨⟨a.getD 2,a.getD 3,a.getD 4,a.getD 5,a.getD 6,a.getD 7,a.getD 8,a.getD 9⟩,pG bs a 11,pG bs a 19,c⟩
  ·split
   ·exact⟨⟨a.getD 2,a.getD 3,a.getD 4,a.getD 5,a.getD 6,a.getD 7,a.getD 8,a.getD 9⟩,c,c,pG bs a 10⟩
   ·split
    ·exact⟨⟨a.getD 2,a.getD 3,a.getD 4,a.getD 5,a.getD 6,a.getD 7,a.getD 8,a.getD 9⟩,c,c,c⟩
    ·exact⟨⟨b,b,b,b,b,b,b,b⟩,c,c,c⟩
 ·exact⟨⟨b,b,b,b,b,b,b,b⟩,c,c,c⟩
theorem gE (bs:List Int):aF bs=0\/aF bs=1\/aF bs=2:=by
 unfold aF;split
 ·omega
 ·split
  ·omega
  ·split
   ·omega
   ·split
    ·split <;> omega
    ·omega
theorem tM {b:Int}:aM b=0\/1<=aM b/\aM b<=26:=by
 unfold aM;repeat' split <;> omega
theorem dG (bs:List Int)(a:aF bs=0):2<=(dT bs).toNat/\(dT bs).toNat<=bs.length/\dT bs=((dT bs).toNat:Int)/\(dT bs).toNat<=27:=by
 have e:dT bs=bs.getD 0 0+1:=by unfold dT;rw [if_pos a]
 cases bs with
 | nil=>simp [aF] at a
 | cons b g=>
  cases g with
  | nil=>
   simp only [aF] at a;split at a <;> omega
  | cons c f=>
   simp only [aF] at a;split at a
   ·omega
   ·split at a
    ·split at a
     ·omega
     ·rw [e];have d:(b :: c :: f).getD 0 0=b:=rfl;rw [d];simp only [List.length_cons] at *;omega
    ·omega
theorem lF (x:Int)(a:0<=x):0<=al x/\al x<=18446744073709551615:=by unfold al;split <;> omega
theorem ja4 (q:Qt)(a:Int)(b:q.ok)(c:0<=a):0<=bn q a:=by unfold bn;have:=b.lv;split <;> omega
theorem jE (q:Qt)(a:Int)(b:q.ok)(c:0<=a)(g:a<=18446744073709551615):(aG q a).ok:=by
 unfold aG;split
 ·exact b
 ·split
  ·exact b
  ·rcases b.kd with ⟨e,_⟩ | ⟨e,h⟩
   ·contradiction
   ·have d:0<=a / q.y:=Int.ediv_nonneg c (by omega);have f:a / q.y<=a:=Int.ediv_le_self q.y c;exact⟨b.kd,b.x,b.y,⟨by simp,by simp⟩,⟨d,by show a / q.y<=_;omega⟩⟩
theorem jZ (q:Qt)(a n:Int)(b:q.ok)(h:0<=a)(k:a<=18446744073709551615)(p:0<=n):(aI q a n).1.ok/\(aI q a n).2.ok/\((aI q a n).2.c=2\/(aI q a n).2.c=3):=by
 have m:=b.x;have o:=b.y;have l:=b.lv;have e:=b.wn;have w:=ja4 q a b h;unfold aI;split
 ·have s:1<=q.x:=by rcases b.kd with j | j <;> omega
  unfold mo;split
  ·exact⟨b,⟨by simp,l,e⟩,il rfl⟩
  ·have v:0<=n * q.x:=Int.mul_nonneg p (by omega);have t:0<=(n - 1) * q.x:=Int.mul_nonneg (by omega) (by omega);have u:n * q.x=(n - 1) * q.x+q.x:=by rw [Int.sub_mul];omega
   split
   ·exact⟨b,⟨by simp,by simp,by simp⟩,ir rfl⟩
   ·split
    ·exact⟨b,⟨by simp,by simp,by simp⟩,ir rfl⟩
    ·split
     ·rename_i g
      refine⟨b,⟨by simp,?_,by simp⟩,ir rfl⟩
      unfold al at g;show 0<=bn q a+(n - 1) * q.x - q.y/\bn q a+(n - 1) * q.x - q.y<=18446744073709551615;split at g <;> omega
     ·have d:0<=bn q a+n * q.x/\bn q a+n * q.x<=18446744073709551615:=by omega
      exact⟨⟨b.kd,m,o,d,e⟩,⟨by simp,d,e⟩,il rfl⟩
 ·have c:=jE q a b h k;have x:=c.lv;have r:=c.x;have i:=c.y;have f:=c.wn;unfold nZ;split
  ·have d:0<=(aG q a).lv+n/\(aG q a).lv+n<=18446744073709551615:=by omega
   exact⟨⟨c.kd,r,i,d,f⟩,⟨by simp,d,f⟩,il rfl⟩
  ·split
   ·exact⟨c,⟨by simp,by simp,by simp⟩,ir rfl⟩
   ·refine⟨c,⟨by simp,lF _ ?_,by simp⟩,ir rfl⟩
    have:=Int.mul_nonneg f.1 i.1;omega
theorem jda (q:Qt)(a n:Int)(b:q.ok)(f:0<=a)(g:a<=18446744073709551615)(h:0<=n):(eM q a n).1.ok/\(eM q a n).2.ok/\((eM q a n).2.c=2\/(eM q a n).2.c=3):=by
 obtain⟨c,d,e⟩:=jZ q a n b f g h;refine⟨?_,d,e⟩
 unfold eM;dsimp only;split
 ·exact c
 ·exact b
theorem mc {k:Ky}{q:Qt}:∀ {ks:List (Ky×Qt)},aZ k ks=some q->jH k q ks=ks
 | [],_=>rfl
 | (k2,q2) :: r,a=>by
  unfold aZ at a;unfold jH;split at a
  ·rename_i b
   injection a with a;rw [if_pos b,a]
  ·rename_i b
   rw [if_neg b,mc a]
theorem ke {k:Ky}{q:Qt}:∀ {ks:List (Ky×Qt)},aZ k ks=some q->(k,q)∈ks
 | [],a=>by simp [aZ] at a
 | (k2,q2) :: r,a=>by
  unfold aZ at a;split at a
  ·rename_i b
   subst b;injection a with a;subst a;exact List.mem_cons_self
  ·exact List.mem_cons_of_mem _ (ke a)
theorem pE {k:Ky}{q:Qt}{p:Ky×Qt}:∀ {ks:List (Ky×Qt)},p∈jH k q ks->p∈ks\/p=(k,q)
 | [],a=>by simp [jH] at a
 | (k2,q2) :: r,a=>by
  unfold jH at a;split at a
  ·rename_i b
   subst b;rcases List.mem_cons.1 a with a | a
   ·exact ir a
   ·exact il (List.mem_cons_of_mem _ a)
  ·rcases List.mem_cons.1 a with a | a
   ·exact il (a▸List.mem_cons_self)
   ·exact (pE a).imp (List.mem_cons_of_mem _) id
theorem vN {k:Ky}{q:Qt}:∀ {ks:List (Ky×Qt)},(jH k q ks).map Prod.fst=ks.map Prod.fst
 | []=>rfl
 | (k2,q2) :: r=>by
  unfold jH;split
  ·rfl
  ·simp [vN]
theorem iL {k:Ky}:∀ {ks:List (Ky×Qt)},(del k ks).Sublist ks
 | []=>List.Sublist.slnil
 | (k2,q2) :: r=>by
  unfold del;split
  ·exact List.sublist_cons_self _ _
  ·exact iL.cons_cons _
theorem iR {k:Ky}:∀ {ks:List (Ky×Qt)},aZ k ks=none->k ∉ ks.map Prod.fst
 | [],_=>by simp
 | (k2,q2) :: r,h=>by
  unfold aZ at h;split at h
  ·simp at h
  ·rename_i a
   simp only [List.map_cons,List.mem_cons,not_or];exact⟨fun b=>a b.symm,iR h⟩
theorem pm (L:Ld)(q:Rq)(a:L.ok)(h:q.ok):(aS L q).1.ok/\(aS L q).2.ok:=by
 have f:=a.time;have e:∀ i:Int,0<=i->i<=255->(⟨i,0,0⟩:Rp).ok:=fun i b r=>⟨⟨b,r⟩,by simp,by simp⟩;unfold aS;split
 ·split
  ·exact⟨a,e 8 (by omega) (by omega)⟩
  ·split
   ·exact⟨a,e 9 (by omega) (by omega)⟩
   ·split
    ·exact⟨a,e 5 (by omega) (by omega)⟩
    ·rename_i s g v
     refine⟨⟨f,a.adm,?_,?_,?_,?_⟩,e 1 (by omega) (by omega)⟩
     ·intro d c;rcases List.mem_append.1 c with b | b
      ·exact a.key d b
      ·simp at b;subst b;exact h.key
     ·intro d c;rcases List.mem_append.1 c with b | b
      ·exact a.qt d b
      ·simp at b;subst b;exact⟨Decidable.not_not.1 s,h.x,h.y,by simp,by simp⟩
     ·rw [List.map_append];refine List.nodup_append.2 ⟨a.nd,by simp,?_⟩
      intro t l u m n;simp at m;subst m n;exact iR (by simpa using g) l
     ·show (L.ks ++ [_]).length<=12;simp;omega
 ·split
  ·cases g:aZ q.key L.ks with
   | none=>exact⟨a,e 4 (by omega) (by omega)⟩
   | some k=>
    have j:=a.qt _ (ke g);obtain⟨o,p,_⟩:=jda k L.time q.n j f.1 f.2 h.n.1;refine⟨⟨f,?_,?_,?_,?_,?_⟩,p⟩
    ·have l:=a.adm;dsimp only;split <;> omega
    ·intro d c;rcases pE c with b | b
     ·exact a.key d b
     ·rw [b];exact h.key
    ·intro d c;rcases pE c with b | b
     ·exact a.qt d b
     ·rw [b];exact o
    ·show ((jH _ _ _).map Prod.fst).Nodup;rw [vN];exact a.nd
    ·show (jH _ _ _).length<=12;rw [lp];exact a.len
  ·split
   ·cases g:aZ q.key L.ks with
    | none=>exact⟨a,e 4 (by omega) (by omega)⟩
    | some k=>
     have j:=jE k L.time (a.qt _ (ke g)) f.1 f.2;exact⟨a,⟨by simp,j.lv,j.wn⟩⟩
   ·split
    ·cases g:aZ q.key L.ks with
     | none=>exact⟨a,e 4 (by omega) (by omega)⟩
     | some k=>
      refine⟨⟨f,a.adm,fun d c=>a.key d (iL.subset c),fun d c=>a.qt d (iL.subset c),(iL.map _).nodup a.nd,?_⟩,e 1 (by omega) (by omega)⟩
      exact lq iL.length_le a.len
    ·split
     ·exact⟨a,⟨by simp,f,by simp⟩⟩
     ·exact⟨a,e 1 (by omega) (by omega)⟩
theorem jaU:∀ (n:Nat) (L:Ld) (bs:List Int),bs.length<=n->gH n L bs=gH bs.length L bs:=by
 intro n;induction n using Nat.strongRecOn with
 | ind n b=>
  intro L bs g;cases n with
  | zero=>rw [show bs.length=0 by omega]
  | succ n=>
   cases e:bs.length with
   | zero=>
    have d:bs=[]:=List.length_eq_zero_iff.1 e;subst d;simp [gH,aF]
   | succ c=>
    unfold gH;by_cases a:aF bs=0
    ·rw [if_pos a,if_pos a];obtain⟨h,i,_,_⟩:=dG bs a;have f:(bs.drop (dT bs).toNat).length<=c:=by rw [List.length_drop];omega
     rw [b n (by omega) _ _ (by omega),b c (by omega) _ _ f]
    ·rw [if_neg a,if_neg a]
def fy (L:Ld)(bs:List Int):Ld×List Rp×List Int×Int:=gH bs.length L bs
theorem jA (L:Ld)(bs:List Int)(a:aF bs≠0):fy L bs=(L,[],bs,aF bs):=by
 unfold fy;cases b:bs.length with
 | zero=>rfl
 | succ c=>unfold gH;rw [if_neg a]
theorem nL (L:Ld)(bs:List Int)(a:aF bs=0):fy L bs=((fy (aS L (rdQ bs)).1 (bs.drop (dT bs).toNat)).1,(aS L (rdQ bs)).2 :: (fy (aS L (rdQ bs)).1 (bs.drop (dT bs).toNat)).2.1,(fy (aS L (rdQ bs)).1 (bs.drop (dT bs).toNat)).2.2):=by
 obtain⟨e,f,_,_⟩:=dG bs a;have b:fy L bs=gH bs.length L bs:=rfl;rw [b];cases d:bs.length with
 | zero=>omega
 | succ c=>
  unfold gH;rw [if_pos a,jaU c _ _ (by rw [List.length_drop];omega)];rfl
theorem wrep (c a b:Int)(w:World)(k:0<=a)(l:a<=18446744073709551615)(m:0<=b)(n:b<=18446744073709551615) :
  Calls prog 73 #[ot c a b] w
   fun e w'=>e=.returned (.slice (some ⟨w.heap.size+1,0,none⟩) 18 18)/\w'.ownsRow w.heap.size 5 1 (.slice (some ⟨w.heap.size+1,0,none⟩) 18 18) 18 ((bh c a b).map (Value.int .u8))/\B7 w w':=by
 go_enter func73,ntmps73
 go_wp2_with fail
 refine (jcW 17 _ _ (w.heap.size+1) (by simp) (by omega) (by omega)).mono ?_
 rintro e h ⟨rfl,i,f⟩;have u:w.heap.size+1<h.heap.size:=(i.lt (w.heap.size+1) rfl).2;have o:∀ d,h.cell? ⟨w.heap.size,d,none⟩=(#[.int .u8 c,.int .u64 a,.int .u64 b]:Array Value)[d]?:=fun d=>(f.cell (p:=⟨w.heap.size,d,none⟩) (by simp)).trans (bR w _ _ d);have j:B7 w h:=(ba w).trans (f.mono (by omega));clear f;go_wp2_with fail
 refine (vR (w.heap.size+1) 2 18 (w.heap.size+1) _ _ _ i (by omega) k l).mono ?_
 rintro e x ⟨rfl,r,g⟩;have v:=g.size;have t:=fun d=>(ss g (b:=w.heap.size) (by omega) (by omega) d).trans (o d);go_wp2_with fail
 refine (vR (w.heap.size+1) 10 18 (w.heap.size+1) _ _ _ r (by omega) m n).mono ?_
 rintro e y ⟨rfl,s,q⟩;go_wp2
 go_ret
 refine⟨rfl,dQ (b:=w.heap.size+1) (by omega) s,?_⟩
 exact (j.grown g (by omega) (by simp)).grown q (by omega) (by simp)
theorem aq {w w':World}{base e c:Nat}{v:Value}{n:Nat}{d:List Value}(i:w.ownsRow base e c v n d)(k:∀ g,v.ownBlock=some g->w'.heap[g]?=w.heap[g]?):w'.ownsRow base e c v n d:=by
 obtain⟨j,a⟩:=i;refine⟨j,?_⟩
 rcases a with a | ⟨g,f,h,b,l,m,o⟩
 ·exact il a
 ·exact ir ⟨g,f,h,b,l,(k g (by rw [b];rfl)).trans m,o⟩
theorem aw {w:World}{base e f:Nat}{v:Value}{n:Nat}{g:List Value}(b:w.ownsRow base e f v n g):∃ a c,v=.slice a n c:=by
 rcases b.2 with ⟨rfl,rfl⟩ | ⟨j,h,i,d,_⟩
 ·exact⟨_,_,rfl⟩
 ·exact⟨_,_,d⟩
theorem ax {w:World}{base e m:Nat}{v:Value}{n:Nat}{o:List Value}(h:w.ownsRow base e m v n o){g k:Nat}(b:v.ownBlock=some g){a:Array Value}{t:TypeId}{f:Nat×Nat}(c:w.heap[k]?=some (.cells a t f))(j:t≠e):g≠k:=by
 rcases h.2 with ⟨rfl,rfl⟩ | ⟨r,p,q,l,_,i,_⟩
 ·simp [Value.ownBlock] at b
 ·rw [l] at b;simp [Value.ownBlock] at b;subst b;intro d;subst d;rw [i] at c;simp at c;exact j c.2.1.symm
theorem aj {w:World}{base e h:Nat}{v:Value}{n:Nat}{i:List Value}(b:w.ownsRow base e h v n i){g:Nat}(a:v.ownBlock=some g):base<=g/\g<w.heap.size:=by
 rcases b.2 with ⟨rfl,rfl⟩ | ⟨l,j,k,f,c,d,_⟩
 ·simp [Value.ownBlock] at a
 ·rw [f] at a;simp [Value.ownBlock] at a;subst a;exact⟨c,am d⟩
theorem aT {l:Array Oper}{o:Oper}{a:Act}{w:World}{j:Act->World->Prop}{q:Exit->Act->World->Prop}{p:Prop}(G:o.guard=none)(s x:Operand)(t e:TypeId)(f:TypeInfo)(z:Value)(size i:Nat)
  (O:prog.underlying t=some (.slice e)) (H:prog.info? e=some f) (S:f.zero=some z) (T:f.size=size) (U:f.bytes=i) (V:z.cells.size=size) (N:0<size)
  (J:o.op=.call { callee:=.builtin .append,args:=#[s,x],argTypes:=#[t,t] }) (base:Nat) (v:Value) (n:Nat) (m:List Value) (M:a.eval s=v) (K:w.ownsRow base e size v n m)
  (h:Addr) (b c:Nat) (g:List Value) (R:a.eval x=.slice (some h) b c) (I:g.length=b * size) (F:∀ k u,g[k]?=some u->w.cell? (h.add k)=some u) (r:∀ u∈g,u.oneCell'=true) (X:n+b<=9223372036854775807) (E:(n+b) * i<=140737488355328) (D:base<=w.heap.size)
  (C:∀ d w',w'.ownsRow base e size d (n+b) (m ++ g)->w.grownBy w' v.ownBlock->(d.ownBlock=v.ownBlock\/d.ownBlock=some w.heap.size)->j (a.put o.dst d) w') :
  if Region.wanted o (yielded l a.tmps)=true then Oper.wp prog o a w j q else p:=by
 have Q:Region.wanted o (yielded l a.tmps)=true:=by simp [Region.wanted,G]
 rw [if_pos Q];obtain⟨d,w',L,y,A,W,B⟩:=run_append_own_at (P:=prog) (w:=w) base t o.type e f z size i O H S T U V N v n _ K h b c g I F r (by unfold maxLen;omega) E D;unfold Oper.wp execOp;simp only [J,resolve,invoke,builtin,Sem.run_bind,Sem.run_pure,Result.andThen_ok,List.map_toArray,List.map_cons,List.map_nil,M,R,L];exact C d w' y A B
structure Bk where
 time:Int
 ls:List Ln
def du (k:Ky):List Ln->Option Nat
 | []=>none
 | l :: r=>if l.k=k then some 0 else (du k r).map (·+1)
def aP (T:Int)(l:Ln):Int×Int:=if l.kd=1 then (l.at_,0) else if l.in_=T / l.y then (l.at_,T / l.y) else (0,T / l.y)
def cN (T:Int)(l:Ln)(n:Int):Int×Bool×Int:=
 if n=0 then (l.at_,true,0)
 else if 18446744073709551615<(if l.at_<T then T else l.at_)+n * l.x\/l.y<(n - 1) * l.x then (0,false,18446744073709551615)
 else if (if l.at_<T then T else l.at_)+(n - 1) * l.x<=al (T+l.y) then ((if l.at_<T then T else l.at_)+n * l.x,true,0)
 else (0,false,l.at_ - (l.y - (n - 1) * l.x))
def cW (T:Int)(l:Ln)(n:Int):Int×Bool×Int:=
 if (aP T l).1+n<=l.x then ((aP T l).1+n,true,0)
 else if l.x<n then (0,false,18446744073709551615)
 else (0,false,al ((T / l.y+1) * l.y))
def cm (T:Int)(l:Ln)(n:Int):Int×Bool×Int:=if l.kd=1 then cN T l n else cW T l n
def dO (T:Int)(l:Ln):Int:=if l.kd=1 then 0 else T / l.y
def bV (B:Bk)(i:Nat)(l:Ln)(n:Int):Bk×Rp:=
 if (cm B.time l n).2.1 then
  (if 0<n then ⟨B.time,B.ls.set i ⟨l.k,l.kd,l.x,l.y,(cm B.time l n).1,dO B.time l⟩⟩ else B,⟨2,(cm B.time l n).1,dO B.time l⟩)
 else (B,⟨3,(cm B.time l n).2.2,0⟩)
def bB (B:Bk)(q:Rq):Bk×Rp:=
 if q.op=1 then
  if ¬cM q.kd q.x q.y then (B,⟨8,0,0⟩)
  else if (du q.key B.ls).isSome then (B,⟨9,0,0⟩)
  else if B.ls.length=12 then (B,⟨5,0,0⟩)
  else (⟨B.time,B.ls ++ [⟨q.key,q.kd,q.x,q.y,0,0⟩]⟩,⟨1,0,0⟩)
 else if q.op=5 then (B,⟨1,0,0⟩)
 else if q.op=6 then (B,⟨1,B.time,0⟩)
 else match du q.key B.ls with
  | none=>(B,⟨4,0,0⟩)
  | some a=>
   if q.op=3 then (B,⟨1,(aP B.time (B.ls.getD a ⟨q.key,0,0,0,0,0⟩)).1,(aP B.time (B.ls.getD a ⟨q.key,0,0,0,0,0⟩)).2⟩)
   else if q.op=4 then (⟨B.time,B.ls.eraseIdx a⟩,⟨1,0,0⟩)
   else bV B a (B.ls.getD a ⟨q.key,0,0,0,0,0⟩) q.n
structure cd (T d:Int)(z:Qt)(l:Ln):Prop where
 kd:z.kd=l.kd
 x:z.x=l.x
 y:z.y=l.y
 s:z.kd=1->z.lv=l.at_/\z.wn=0
 w:z.kd≠1->(z.wn=l.in_/\z.lv=l.at_\/z.lv=0/\l.in_<z.wn\/l.at_=0/\z.wn<l.in_/\l.in_<=T / z.y/\l.in_<=d / z.y)/\z.wn<=T / z.y
def bq (T d:Int):List (Ky×Qt)->List Ln->Prop
 | [],[]=>True
 | (k,z) :: r,l :: s=>k=l.k/\cd T d z l/\bq T d r s
 | _,_=>False
theorem bq.len {T d:Int}:∀ {ks:List (Ky×Qt)}{a:List Ln},bq T d ks a->ks.length=a.length
 | [],[],_=>rfl
 | (_,_) :: r,l :: s,h=>by simp only [List.length_cons];rw [bq.len h.2.2]
 | [],_ :: _,h=>h.elim
 | _ :: _,[],h=>h.elim
theorem bq.mono {T b d:Int}(c:T<=b):∀ {ks:List (Ky×Qt)}{g:List Ln},(∀ p∈ks,p.2.ok)->bq T d ks g->bq b d ks g
 | [],[],_,_=>trivial
 | (k,z) :: r,l :: s,ho,a=>by
  have m:z.ok:=ho (k,z) List.mem_cons_self;refine⟨a.1,⟨a.2.1.kd,a.2.1.x,a.2.1.y,a.2.1.s,fun f=>?_⟩,bq.mono c (fun p j=>ho p (List.mem_cons_of_mem _ j)) a.2.2⟩
  have n:1<=z.y:=by rcases m.kd with a | a;exact absurd a.1 f;exact a.2
  have e:T / z.y<=b / z.y:=Int.ediv_le_ediv (by omega) c;obtain⟨h,i⟩:=a.2.1.w f;exact⟨h.imp id (fun a=>a.imp id (fun a=>⟨a.1,a.2.1,Int.le_trans a.2.2.1 e,a.2.2.2⟩)),Int.le_trans i e⟩
 | [],_ :: _,_,a=>a.elim
 | _ :: _,[],_,a=>a.elim
theorem lV (T d:Int)(z:Qt)(l:Ln)(e:cd T d z l):((aG z T).lv,(aG z T).wn)=aP T l:=by
 unfold aG aP;rw [<-e.kd];by_cases a:z.kd=1
 ·rw [if_pos a,if_pos a,(e.s a).1,(e.s a).2]
 ·rw [if_neg a,if_neg a,<-e.y];obtain⟨g,j⟩:=e.w a;by_cases f:T / z.y=z.wn
  ·rw [if_pos f];rcases g with ⟨b,c⟩ | ⟨b,c⟩ | ⟨_,c,i,_⟩
   ·rw [if_pos (by omega),c,f]
   ·rw [if_neg (by omega),b,f]
   ·omega
  ·rw [if_neg f];dsimp only;by_cases h:l.in_=T / z.y
   ·rw [if_pos h];rcases g with ⟨b,c⟩ | ⟨b,c⟩ | ⟨b,_,_,_⟩
    ·omega
    ·omega
    ·rw [b]
   ·rw [if_neg h]
theorem jc5 (T d:Int)(z:Qt)(l:Ln)(a:cd T d z l):cd T d (aG z T) l:=by
 unfold aG;split
 ·exact a
 ·rename_i f
  split
  ·exact a
  ·rename_i j
   refine⟨a.kd,a.x,a.y,fun c=>absurd c f,fun _=>⟨?_,Int.le_refl _⟩⟩
   obtain⟨c,i⟩:=a.w f;show (T / z.y=l.in_/\0=l.at_)\/((0:Int)=0/\l.in_<T / z.y)\/_;rcases c with ⟨b,e⟩ | ⟨b,e⟩ | ⟨b,e,h,_⟩
   ·exact ir (il ⟨rfl,by omega⟩)
   ·exact ir (il ⟨rfl,by omega⟩)
   ·by_cases g:l.in_=T / z.y
    ·exact il ⟨g.symm,b.symm⟩
    ·exact ir (il ⟨rfl,by omega⟩)
theorem jbf (T d n:Int)(z:Qt)(l:Ln)(a:cd T d z l)(k:z.ok)(u:0<=T)(v:T<=18446744073709551615)(G:0<=n) :
  (aI z T n).2=(if (cm T l n).2.1 then ⟨2,(cm T l n).1,dO T l⟩ else ⟨3,(cm T l n).2.2,0⟩)/\
  cd T d (aI z T n).1 (if (cm T l n).2.1/\0<n then ⟨l.k,l.kd,l.x,l.y,(cm T l n).1,dO T l⟩ else l):=by
 have J:=k.x;have K:=k.y;have F:=k.lv;by_cases b:z.kd=1
 ·have j:l.kd=1:=a.kd▸b;have D:1<=z.x:=by rcases k.kd with a | a <;> omega
  obtain⟨m,i⟩:=a.s b;have p:dO T l=0:=by unfold dO;rw [if_pos j]
  have y:bn z T=if l.at_<T then T else l.at_:=by unfold bn;rw [m]
  unfold aI cm;rw [if_pos b,if_pos j,p];unfold mo cN;rw [y,<-a.x,<-a.y];generalize hS:(if l.at_<T then T else l.at_)=S;have B:T<=S/\l.at_<=S/\(S=T\/S=l.at_):=by rw [<-hS];split <;> omega
  by_cases h:n=0
  ·rw [if_pos h,if_pos h];simp only [if_true,true_and];rw [if_neg (by omega)];refine⟨?_,a⟩
   rw [m,i]
  ·rw [if_neg h,if_neg h];have I:0<=(n - 1) * z.x:=Int.mul_nonneg (by omega) (by omega);have H:n * z.x=(n - 1) * z.x+z.x:=by rw [Int.sub_mul];omega
   by_cases e:18446744073709551615<S+n * z.x
   ·rw [if_pos e,if_pos (il e)];simp only [Bool.false_eq_true,if_false,false_and];exact⟨trivial,a⟩
   ·rw [if_neg e];by_cases f:z.y<(n - 1) * z.x
    ·rw [if_pos f,if_pos (ir f)];simp only [Bool.false_eq_true,if_false,false_and];exact⟨trivial,a⟩
    ·rw [if_neg f,if_neg (show ¬(18446744073709551615<S+n * z.x\/z.y<(n - 1) * z.x) by omega)];by_cases o:al (T+z.y)<S+(n - 1) * z.x
     ·rw [if_pos o,if_neg (show ¬S+(n - 1) * z.x<=al (T+z.y) by omega)];simp only [Bool.false_eq_true,if_false,false_and];refine⟨?_,a⟩
      have w:S=l.at_:=by
       unfold al at o;split at o <;> omega
      rw [w];congr 1
      omega
     ·rw [if_neg o,if_pos (show S+(n - 1) * z.x<=al (T+z.y) by omega)];simp only [if_true,true_and];rw [if_pos (show 0<n by omega),i];exact⟨rfl,⟨a.kd,rfl,rfl,fun _=>⟨rfl,rfl⟩,fun g=>absurd b g⟩⟩
 ·have j:¬l.kd=1:=fun t=>b (a.kd.trans t);have E:1<=z.y:=by rcases k.kd with a | a;exact absurd a.1 b;exact a.2
  have s:=lV T d z l a;have c:=jc5 T d z l a;have A:=jE z T k u v;have p:dO T l=T / l.y:=by unfold dO;rw [if_neg j]
  have x:(aP T l).2=T / l.y:=by unfold aP;rw [if_neg j];split <;> rfl
  have m:(aG z T).lv=(aP T l).1:=by rw [<-s]
  have i:(aG z T).wn=T / l.y:=by rw [<-x,<-s]
  have C:0<=T / l.y:=i▸A.wn.1;unfold aI cm;rw [if_neg b,if_neg j,p];unfold nZ cW;have q:(aG z T).kd=z.kd:=by rw [c.kd,a.kd]
  rw [m,i,c.x,c.y];by_cases e:(aP T l).1+n<=l.x
  ·rw [if_pos e,if_pos e];simp only [if_true,true_and];by_cases h:0<n
   ·rw [if_pos h];exact⟨c.kd,rfl,rfl,fun g=>absurd (q▸g) b,fun _=>⟨il ⟨rfl,rfl⟩,Int.le_refl _⟩⟩
   ·rw [if_neg h];have:n=0:=by omega
    subst this;refine⟨c.kd,rfl,rfl,fun g=>absurd (q▸g) b,fun g=>?_⟩
    have r:=c.w g;rw [m,i,c.y] at r;simpa using r
  ·rw [if_neg e,if_neg e];by_cases f:l.x<n
   ·rw [if_pos f,if_pos f];simp only [Bool.false_eq_true,if_false,false_and];exact⟨trivial,c⟩
   ·rw [if_neg f,if_neg f];simp only [Bool.false_eq_true,if_false,false_and];refine⟨?_,c⟩
    rw [Int.add_mul,Int.one_mul]
theorem jdb (T d n:Int)(z:Qt)(l:Ln)(a:cd T d z l)(j:z.ok)(g:0<=T)(h:T<=18446744073709551615)(i:0<=n) :
  (eM z T n).2=(if (cm T l n).2.1 then ⟨2,(cm T l n).1,dO T l⟩ else ⟨3,(cm T l n).2.2,0⟩)/\
  cd T d (eM z T n).1 (if (cm T l n).2.1/\0<n then ⟨l.k,l.kd,l.x,l.y,(cm T l n).1,dO T l⟩ else l):=by
 obtain⟨b,f⟩:=jbf T d n z l a j g h i;refine⟨b,?_⟩
 unfold eM;dsimp only;by_cases c:(cm T l n).2.1=true
 ·rw [if_pos c] at b;by_cases e:0<n
  ·rw [if_pos ⟨by rw [b],by omega⟩];exact f
  ·rw [if_neg (fun a=>e (by omega)),if_neg (fun a=>e a.2)];exact a
 ·rw [if_neg c] at b;rw [if_neg (fun a=>by have:=a.1;rw [b] at this;simp at this),if_neg (fun a=>c a.1)];exact a
theorem bq.raise {T d b:Int}(c:d<=b):∀ {ks:List (Ky×Qt)}{f:List Ln},(∀ p∈ks,p.2.ok)->bq T d ks f->bq T b ks f
 | [],[],_,_=>trivial
 | (k,z) :: r,l :: s,ho,a=>by
  have m:z.ok:=ho (k,z) List.mem_cons_self;refine⟨a.1,⟨a.2.1.kd,a.2.1.x,a.2.1.y,a.2.1.s,fun e=>?_⟩,bq.raise c (fun p i=>ho p (List.mem_cons_of_mem _ i)) a.2.2⟩
  have n:1<=z.y:=by rcases m.kd with a | a;exact absurd a.1 e;exact a.2
  have j:d / z.y<=b / z.y:=Int.ediv_le_ediv (by omega) c;obtain⟨g,h⟩:=a.2.1.w e;exact⟨g.imp id (fun a=>a.imp id (fun a=>⟨a.1,a.2.1,a.2.2.1,Int.le_trans a.2.2.2 j⟩)),h⟩
 | [],_ :: _,_,a=>a.elim
 | _ :: _,[],_,a=>a.elim
theorem sO (L:Ld)(c:Cn)(a:Int)(bs:List Int)(b:c.bad=false):gu L c a bs=
  if (fy (aW L a) (c.waits ++ bs)).2.2.2=2 then ((fy (aW L a) (c.waits ++ bs)).1,⟨[],true⟩,(fy (aW L a) (c.waits ++ bs)).2.1 ++ [⟨6,0,0⟩])
  else ((fy (aW L a) (c.waits ++ bs)).1,⟨(fy (aW L a) (c.waits ++ bs)).2.2.1,false⟩,(fy (aW L a) (c.waits ++ bs)).2.1):=by
 unfold gu;rw [if_neg (by rw [b];simp)];rfl
theorem gx {T d:Int}(k:Ky):∀ {ks:List (Ky×Qt)}{a:List Ln},bq T d ks a->du k a=none->aZ k ks=none
 | [],[],_,_=>rfl
 | (k',z) :: r,l :: s,h,hi=>by
  unfold du at hi;split at hi
  ·simp at hi
  ·rename_i b
   unfold aZ;rw [if_neg (by rw [h.1];exact b)];exact gx k h.2.2 (by simpa using hi)
 | [],_ :: _,h,_=>h.elim
 | _ :: _,[],h,_=>h.elim
structure jfZ (T d:Int)(k:Ky)(ks:List (Ky×Qt))(ls:List Ln)(i:Nat)(z:Qt)(l:Ln):Prop where
 f:aZ k ks=some z
 g:ls[i]?=some l
 hk:l.k=k
 rel:cd T d z l
 set:∀ z' l',cd T d z' l'->l'.k=k->bq T d (jH k z' ks) (ls.set i l')
 del:bq T d (del k ks) (ls.eraseIdx i)
theorem dM {T d:Int}(k:Ky):∀ {ks:List (Ky×Qt)}{g:List Ln}{i:Nat},bq T d ks g->du k g=some i->∃ z l,jfZ T d k ks g i z l
 | [],[],_,_,a=>by simp [du] at a
 | (k',z) :: r,l :: s,i,h,a=>by
  unfold du at a;split at a
  ·rename_i j
   injection a with a;subst a;have b:k'=k:=h.1.trans j;refine⟨z,l,by unfold aZ;rw [if_pos b],rfl,j,h.2.1,fun n m f e=>?_,?_⟩
   ·unfold jH;rw [if_pos b];exact⟨by rw [b,e],f,h.2.2⟩
   ·unfold Go.Proofs.YtnlgndpcddngoaaGreatDoor.del;rw [if_pos b];exact h.2.2
  ·rename_i p
   have b:¬k'=k:=by rw [h.1];exact p
   obtain⟨u,o,rfl⟩:=Option.map_eq_some_iff.1 a;obtain⟨n,m,c⟩:=dM k h.2.2 o;refine⟨n,m,by unfold aZ;rw [if_neg b];exact c.f,c.g,c.hk,c.rel,fun t q f e=>?_,?_⟩
   ·unfold jH;rw [if_neg b];exact⟨h.1,h.2.1,c.set t q f e⟩
   ·unfold Go.Proofs.YtnlgndpcddngoaaGreatDoor.del;rw [if_neg b];exact⟨h.1,h.2.1,c.del⟩
 | [],_ :: _,_,h,_=>h.elim
 | _ :: _,[],_,h,_=>h.elim
theorem bq.app {T d:Int}{z:Qt}{l:Ln}(a:cd T d z l):∀ {ks:List (Ky×Qt)}{b:List Ln},bq T d ks b->bq T d (ks ++ [(l.k,z)]) (b ++ [l])
 | [],[],_=>⟨rfl,a,trivial⟩
 | (_,_) :: _,_ :: _,h=>⟨h.1,h.2.1,bq.app a h.2.2⟩
 | [],_ :: _,h=>h.elim
 | _ :: _,[],h=>h.elim
theorem rB {a:List Ln}{i:Nat}{l:Ln}(b:a[i]?=some l):a.set i l=a:=by
 obtain⟨c,rfl⟩:=List.getElem?_eq_some_iff.1 b;exact List.set_getElem_self c
theorem jdk (d:Int)(L:Ld)(B:Bk)(q:Rq)(o:L.ok)(u:q.ok)(r:L.time=B.time)(c:bq B.time d L.ks B.ls)(y:q.op∈[1,2,3,4,5,6]) :
  (aS L q).2=(bB B q).2/\(bB B q).1.time=B.time/\bq B.time d (aS L q).1.ks (bB B q).1.ls:=by
 have D:=o.time;have E:=c.len;have C:=o.len;unfold aS bB;by_cases m:q.op=1
 ·rw [if_pos m,if_pos m];by_cases p:cM q.kd q.x q.y
  ·have v:¬¬cM q.kd q.x q.y:=fun a=>a p;rw [if_neg v,if_neg v];cases i:du q.key B.ls with
   | none=>
    rw [gx q.key c i];simp only [Option.isSome_none,Bool.false_eq_true,if_false];by_cases g:12<=L.ks.length
    ·rw [if_pos g,if_pos (by omega)];exact⟨rfl,rfl,c⟩
    ·rw [if_neg g,if_neg (by omega)];refine⟨rfl,rfl,?_⟩
     refine bq.app (l:=⟨q.key,q.kd,q.x,q.y,0,0⟩) ⟨rfl,rfl,rfl,fun _=>⟨rfl,rfl⟩,fun _=>⟨il ⟨rfl,rfl⟩,?_⟩⟩ c
     show 0<=B.time / q.y;have:=u.y;exact Int.ediv_nonneg (by omega) (by omega)
   | some w=>
    obtain⟨s,e,b⟩:=dM q.key c i;rw [b.f];simp only [Option.isSome_some,if_true];exact⟨trivial,trivial,c⟩
  ·rw [if_pos p,if_pos p];exact⟨rfl,rfl,c⟩
 ·rw [if_neg m,if_neg m];by_cases x:q.op=5
  ·rw [if_neg (by omega),if_neg (by omega),if_neg (by omega),if_neg (by omega),if_pos x];exact⟨rfl,rfl,c⟩
  ·rw [if_neg x];by_cases n:q.op=6
   ·rw [if_neg (by omega),if_neg (by omega),if_neg (by omega),if_pos n,if_pos n,r];exact⟨rfl,rfl,c⟩
   ·rw [if_neg n,if_neg n];have t:q.op=2\/q.op=3\/q.op=4:=by simp at y;omega
    cases i:du q.key B.ls with
    | none=>
     have g:=gx q.key c i;dsimp only;rcases t with a | a | a
     ·rw [if_pos a,g];exact⟨rfl,rfl,c⟩
     ·rw [if_neg (by omega),if_pos a,g];exact⟨rfl,rfl,c⟩
     ·rw [if_neg (by omega),if_neg (by omega),if_pos a,g];exact⟨rfl,rfl,c⟩
    | some w=>
     obtain⟨s,e,b⟩:=dM q.key c i;have z:B.ls.getD w ⟨q.key,0,0,0,0,0⟩=e:=by simp [List.getD,b.g]
     have A:=o.qt _ (ke b.f);dsimp only;rw [z];rcases t with a | a | a
     ·rw [if_pos a,if_neg (by omega),if_neg (by omega),b.f,r];obtain⟨h,f⟩:=jdb B.time d q.n s e b.rel A (by omega) (by omega) u.n.1;dsimp only;unfold bV;by_cases k:(cm B.time e q.n).2.1=true
      ·rw [if_pos k] at h ⊢;by_cases j:0<q.n
       ·rw [if_pos j];rw [if_pos ⟨k,j⟩] at f;exact⟨h,rfl,b.set _ _ f b.hk⟩
       ·rw [if_neg j];rw [if_neg (fun a=>j a.2)] at f;refine⟨h,rfl,?_⟩
        have:=b.set _ e f b.hk;rwa [rB b.g] at this
      ·rw [if_neg k] at h ⊢;rw [if_neg (fun a=>k a.1)] at f;refine⟨h,rfl,?_⟩
       have:=b.set _ e f b.hk;rwa [rB b.g] at this
     ·rw [if_neg (by omega),if_pos a,if_pos a,b.f,r];have:=lV B.time d s e b.rel;dsimp only;rw [<-this];exact⟨rfl,rfl,c⟩
     ·rw [if_neg (by omega),if_neg (by omega),if_pos a,if_neg (by omega),if_pos a,b.f];exact⟨rfl,rfl,b.del⟩
/-! Maps as lists,whatever the keys and the elements. -/
section
variable {K V:Type} [DecidableEq K]
def ar (k:K):List (K×V)->Option V
 | []=>none
 | (k',v) :: r=>if k'=k then some v else ar k r
def bO (k:K)(v:V):List (K×V)->List (K×V)
 | []=>[]
 | (k',v') :: r=>if k'=k then (k',v) :: r else (k',v') :: bO k v r
def br (k:K):List (K×V)->List (K×V)
 | []=>[]
 | (k',v') :: r=>if k'=k then r else (k',v') :: br k r
def aJ (k:K)(v:V)(ks:List (K×V)):List (K×V):=if (ar k ks).isSome then bO k v ks else ks ++ [(k,v)]
theorem dc {k:K}{q:V}:∀ {ks:List (K×V)},(ar k ks).isSome=true->ar k (bO k q ks)=some q
 | [],h=>by simp [ar] at h
 | (k',q') :: r,h=>by
  unfold bO;by_cases a:k'=k
  ·simp [a,ar]
  ·rw [if_neg a];unfold ar at h ⊢;rw [if_neg a] at h ⊢;exact dc h
theorem dz {k c:K}{q:V}(b:c≠k):∀ {ks:List (K×V)},ar c (bO k q ks)=ar c ks
 | []=>rfl
 | (k2,q2) :: r=>by
  unfold bO;by_cases d:k2=k
  ·subst d;rw [if_pos rfl];unfold ar;rw [if_neg (fun a=>b a.symm),if_neg (fun a=>b a.symm)]
  ·rw [if_neg d];unfold ar;rw [dz b]
theorem cQ {k:K}{q:V}:∀ {ks:List (K×V)},(bO k q ks).length=ks.length
 | []=>rfl
 | (k2,q2) :: r=>by
  unfold bO;split
  ·rfl
  ·simp [cQ]
theorem dx {k:K}{q:V}(a:K):∀ {ks:List (K×V)},ar a (ks ++ [(k,q)])=if (ar a ks).isSome then ar a ks else if k=a then some q else none
 | []=>by simp [ar]
 | (k2,q2) :: r=>by
  show ar a ((k2,q2) :: (r ++ [(k,q)]))=_;unfold ar;by_cases b:k2=a
  ·simp [b]
  ·rw [if_neg b,if_neg b];exact dx a
theorem dy {k:K}:∀ {ks:List (K×V)},k ∉ ks.map Prod.fst->ar k ks=none
 | [],_=>rfl
 | (k2,q2) :: r,h=>by
  simp at h;unfold ar;rw [if_neg (fun a=>h.1 a.symm)];exact dy (by simpa using h.2)
theorem fc {k:K}:∀ {ks:List (K×V)},ar k ks=none->k ∉ ks.map Prod.fst
 | [],_=>by simp
 | (k2,q2) :: r,h=>by
  unfold ar at h;split at h
  ·simp at h
  ·rename_i a
   simp only [List.map_cons,List.mem_cons,not_or];exact⟨fun b=>a b.symm,fc h⟩
theorem aR {k:K}{q:V}:∀ {ks:List (K×V)},ar k ks=some q->(k,q)∈ks
 | [],a=>by simp [ar] at a
 | (k2,q2) :: r,a=>by
  unfold ar at a;split at a
  ·rename_i b
   subst b;injection a with a;subst a;exact List.mem_cons_self
  ·exact List.mem_cons_of_mem _ (aR a)
theorem aV {k:K}{q:V}:∀ {ks:List (K×V)},(ks.map Prod.fst).Nodup->(k,q)∈ks->ar k ks=some q
 | [],_,a=>by simp at a
 | (k2,q2) :: r,hn,a=>by
  simp only [List.map_cons,List.nodup_cons] at hn;unfold ar;rcases List.mem_cons.1 a with a | a
  ·injection a with c d;subst c d;rw [if_pos rfl]
  ·have e:¬k2=k:=by
    intro b;subst b;exact hn.1 (List.mem_map.2 ⟨(k2,q),a,rfl⟩)
   rw [if_neg e];exact aV hn.2 a
theorem ca {k:K}:∀ {ks:List (K×V)},(ks.map Prod.fst).Nodup->ar k (br k ks)=none
 | [],_=>rfl
 | (k2,q2) :: r,h=>by
  simp only [List.map_cons,List.nodup_cons] at h;unfold br;by_cases a:k2=k
  ·subst a;rw [if_pos rfl];exact dy h.1
  ·rw [if_neg a];unfold ar;rw [if_neg a];exact ca h.2
theorem bt {k a:K}(c:a≠k):∀ {ks:List (K×V)},ar a (br k ks)=ar a ks
 | []=>rfl
 | (k2,q2) :: r=>by
  unfold br;by_cases b:k2=k
  ·subst b;rw [if_pos rfl];show _=ar a ((k2,q2) :: r);unfold ar;rw [if_neg (fun d=>c d.symm)];cases r <;> rfl
  ·rw [if_neg b];unfold ar;rw [bt c]
theorem jM {k:K}:∀ {ks:List (K×V)},(ar k ks).isSome=true->(br k ks).length+1=ks.length
 | [],h=>by simp [ar] at h
 | (k2,q2) :: r,h=>by
  unfold br;by_cases a:k2=k
  ·simp [a]
  ·rw [if_neg a];unfold ar at h;rw [if_neg a] at h;simp [jM h]
theorem ly {k:K}{q:V}:∀ {ks:List (K×V)},(bO k q ks).map Prod.fst=ks.map Prod.fst
 | []=>rfl
 | (k2,q2) :: r=>by
  unfold bO;split
  ·rfl
  ·simp [ly]
theorem cg {k:K}:∀ {ks:List (K×V)},(br k ks).Sublist ks
 | []=>List.Sublist.slnil
 | (k2,q2) :: r=>by
  unfold br;split
  ·exact List.sublist_cons_self _ _
  ·exact cg.cons_cons _
theorem jeZ (k:K)(v:V)(ks:List (K×V)):(aJ k v ks).length<=ks.length+1:=by
 unfold aJ;split
 ·rw [cQ];omega
 ·simp
theorem qP {k:K}{q:V}{p:K×V}:∀ {ks:List (K×V)},p∈bO k q ks->p∈ks\/p=(k,q)
 | [],a=>by simp [bO] at a
 | (k2,q2) :: r,a=>by
  unfold bO at a;split at a
  ·rename_i b
   subst b;rcases List.mem_cons.1 a with a | a
   ·exact ir a
   ·exact il (List.mem_cons_of_mem _ a)
  ·rcases List.mem_cons.1 a with a | a
   ·exact il (a▸List.mem_cons_self)
   ·exact (qP a).imp (List.mem_cons_of_mem _) id
theorem cS {k:K}{q:V}{p:K×V}{ks:List (K×V)}(a:p∈aJ k q ks):p∈ks\/p=(k,q):=by
 unfold aJ at a;split at a
 ·exact qP a
 ·simpa using List.mem_append.1 a
theorem dj {k:K}{q:V}{ks:List (K×V)}(a:(ks.map Prod.fst).Nodup):((aJ k q ks).map Prod.fst).Nodup:=by
 unfold aJ;split
 ·rw [ly];exact a
 ·rename_i e
  rw [List.map_append];refine List.nodup_append.2 ⟨a,by simp,?_⟩
  intro f d g b c;simp at b;subst b c;exact fc (by simpa using e) d
end
def bM (v:Value):Option (DataW Value×List MemPlace):=some (.held v,[])
structure jn (P:Program)(kt:TypeId){K:Type}(ok:K->Prop)(kv:K->Value)(kl:K->Lit):Prop where
 keyed:Keyed P kt
 key:∀ k,ok k->keyOf P kt (kv k)=some (kl k)
 inj:∀ k k',ok k->ok k'->kl k=kl k'->k=k'
section
variable {P:Program}{kt:TypeId}{K:Type}{ok:K->Prop}{kv:K->Value}{kl:K->Lit}
theorem jfY (M:jn P kt ok kv kl){w:World}{k:K}(a:ok k){t e:TypeId}(b:P.underlying t=some (.map kt e)){z:Value}(c:(zeroValue e).run P w=.ok z w):(Instr.lookup t (.map none) (kv k) true).run P w=.ok (.tuple #[z,.bool false]) w:=
 Maps.look_nil (w:=w) true M.keyed b c (M.key k a)
theorem jn.val (M:jn P kt ok kv kl){a:Value}{l:Lit}(b:keyOf P kt a=some l){k:K}(c:ok k)(e:l=kl k):a=kv k:=
 M.keyed.inj b (e▸M.key k c)
end
section
variable {P:Program}{kt:TypeId}{K V:Type} [DecidableEq K] {ok:K->Prop}{kv:K->Value}{kl:K->Lit}{ev:V->Value}
structure gS (ok:K->Prop)(kl:K->Lit)(ev:V->Value)(D:DataW Value)(ks:List (K×V)):Prop where
 has:∀ k,ok k->Maps.has D (kl k)=(ar k ks).isSome
 at_:∀ k v z,ok k->ar k ks=some v->D.atKey (kl k) z=.held (ev v)
 size:Maps.size D=ks.length
 shut:∀ l,Maps.has D l=true->∃ k,ok k/\l=kl k
def ap (P:Program)(kt:TypeId)(e:K->Prop)(c:K->Lit)(ev:V->Value)(w:World)(b:Nat)(ks:List (K×V)):Prop:=
 ∃ d a,w.ownsMap P kt bM b d a/\gS e c ev a ks
theorem ap.lt {w:World}{b:Nat}{ks:List (K×V)}(a:ap P kt ok kl ev w b ks):b<w.heap.size:=by
 obtain⟨d,c,a,_⟩:=a;exact a.lt
theorem ap.kept {w w':World}{b:Nat}{ks:List (K×V)}(e:ap P kt ok kl ev w b ks)(i:w'.heap[b]?=w.heap[b]?):ap P kt ok kl ev w' b ks:=by
 obtain⟨j,a,⟨d,c,f,g⟩,h⟩:=e;exact⟨j,a,⟨d,c,i.trans f,g⟩,h⟩
theorem ap.ne {w:World}{b:Nat}{ks:List (K×V)}(f:ap P kt ok kl ev w b ks){g:Nat}{c:Array Value}{t:TypeId}{e:Nat×Nat}(h:w.heap[g]?=some (.cells c t e)):b≠g:=by
 intro d;subst d;obtain⟨_,_,⟨j,i,a,_⟩,_⟩:=f;rw [h] at a;simp at a
theorem gS.nil:gS (V:=V) ok kl ev (.map []) ([]:List (K×V)):=
 ⟨fun _ _=>rfl,fun _ _ _ _ a=>by simp [ar] at a,rfl,fun b a=>by simp [Maps.has] at a⟩
theorem ap.made (w:World):ap (V:=V) P kt ok kl ev (w.alloc (.map #[] 0)) w.heap.size ([]:List (K×V)):=
 ⟨0,.map [],World.ownsMap_made w _ _ _,gS.nil⟩
theorem ap.empty {w:World}{b:Nat}(d:w.heap[b]?=some (.map #[] 0)):ap (V:=V) P kt ok kl ev w b ([]:List (K×V)):=by
 obtain⟨h,g,a,e⟩:=World.ownsMap_made (H:=Value) (default:World) P kt bM;have c:=MapKept.heap_alloc (default:World) (.map #[] 0);rw [c.1] at a;injection a with a;injection a with a f;subst a f;exact⟨0,.map [],⟨_,_,d,e⟩,gS.nil⟩
def ni (ev:V->Value)(z:Value):Option V->Value
 | some a=>ev a
 | none=>z
theorem ap.look (M:jn P kt ok kv kl){w:World}{b:Nat}{ks:List (K×V)}(i:ap P kt ok kl ev w b ks){k:K}(a:ok k){t e:TypeId}(m:P.underlying t=some (.map kt e)){z:Value}(p:(zeroValue e).run P w=.ok z w) :
  (Instr.lookup t (.map (some b)) (kv k) true).run P w=.ok (.tuple #[ni ev z (ar k ks),.bool (ar k ks).isSome]) w:=by
 obtain⟨r,h,j,d⟩:=i;obtain⟨g,s,l,n⟩:=j.look_ok M.keyed m p (zd:=.held z) (zp:=[]) rfl (M.key k a);have c:DataW.held g=h.atKey (kl k) (.held z):=by
  have:=congrArg (Option.map Prod.fst) n;simpa [bM] using this
 have o:g=ni ev z (ar k ks):=by
  cases f:ar k ks with
  | none=>
   rw [atKey_of_not_has (by rw [d.has k a,f];rfl)] at c;exact DataW.held.inj c
  | some q=>
   rw [d.at_ k q _ a f] at c;exact DataW.held.inj c
 rw [l,d.has k a,o]
theorem ap.look1 (M:jn P kt ok kv kl){w:World}{b:Nat}{ks:List (K×V)}(i:ap P kt ok kl ev w b ks){k:K}(c:ok k){t e:TypeId}(m:P.underlying t=some (.map kt e)){z:Value}(p:(zeroValue e).run P w=.ok z w) :
  (Instr.lookup t (.map (some b)) (kv k) false).run P w=.ok (ni ev z (ar k ks)) w:=by
 obtain⟨r,h,j,d⟩:=i;obtain⟨g,s,l,n⟩:=j.lookup M.keyed m p (zd:=.held z) (zp:=[]) rfl (M.key k c);have a:DataW.held g=h.atKey (kl k) (.held z):=by
  have:=congrArg (Option.map Prod.fst) n;simpa [bM] using this
 have o:g=ni ev z (ar k ks):=by
  cases f:ar k ks with
  | none=>
   rw [atKey_of_not_has (by rw [d.has k c,f];rfl)] at a;exact DataW.held.inj a
  | some q=>
   rw [d.at_ k q _ c f] at a;exact DataW.held.inj a
 rw [l,o]
theorem ap.len {w:World}{b:Nat}{ks:List (K×V)}(c:ap P kt ok kl ev w b ks){t e:TypeId}(g:P.underlying t=some (.map kt e))(a:TypeId):(Builtin.len_ #[t] a #[.map (some b)]).run P w=.ok (.int .i64 ks.length) w:=by
 obtain⟨i,h,f,d⟩:=c;rw [f.len g a,d.size]
theorem jfV {w:World}{b n:Nat}{D:DataW Value}(e:w.ownsMap P kt bM b n D):w.ownsMap P kt bM b (Maps.size D) D:=by
 obtain⟨d,c,f,a,g,rfl⟩:=e;exact⟨d,c,f,a,by simp [Maps.size,length_sorted],rfl⟩
theorem gS.put (M:jn P kt ok kv kl){w:World}{b n:Nat}{D:DataW Value}{ks:List (K×V)}(i:w.ownsMap P kt bM b n D)(a:gS ok kl ev D ks){k:K}(f:ok k)(q:V):gS ok kl ev (D.put (kl k) (.held (ev q))) (aJ k q ks):=by
 have l:=M.keyed.key (M.key k f);unfold aJ;refine⟨fun d g=>?_,fun d p h g e=>?_,?_,fun o m=>?_⟩
 ·by_cases c:d=k
  ·subst c;rw [has_put_same i.isMap l];split
   ·rw [dc (by assumption)];rfl
   ·rw [dx,if_neg (by assumption),if_pos rfl];rfl
  ·rw [has_put_other (fun a=>c (M.inj d k g f a)),a.has d g];split
   ·rw [dz c]
   ·rw [dx];have j:¬k=d:=fun a=>c a.symm;cases ar d ks <;> simp [j]
 ·by_cases c:d=k
  ·subst c;rw [atKey_put_same i.isMap l];split at e
   ·rw [dc (by assumption)] at e;exact congrArg (fun h=>DataW.held (ev h)) (Option.some.inj e)
   ·rw [dx,if_neg (by assumption),if_pos rfl] at e;exact congrArg (fun h=>DataW.held (ev h)) (Option.some.inj e)
  ·rw [atKey_put_other (fun a=>c (M.inj d k g f a))];refine a.at_ d p h g ?_
   split at e
   ·rwa [dz c] at e
   ·rw [dx] at e;have j:¬k=d:=fun a=>c a.symm;cases r:ar d ks <;> simp_all
 ·rw [size_put (i.tidy M.keyed),a.has k f];split
  ·rw [cQ,a.size]
  ·simp [a.size]
 ·by_cases c:o=kl k
  ·exact⟨k,f,c⟩
  ·rw [has_put_other c] at m;exact a.shut o m
theorem ap.store (M:jn P kt ok kv kl){w:World}{b:Nat}{ks:List (K×V)}(h:ap P kt ok kl ev w b ks)(n:ks.length<=1000){k:K}(f:ok k)(q:V){t e:TypeId}(a:P.underlying t=some (.map kt e)) :
  ∃ w',(Instr.mapUpdate t (.map (some b)) (kv k) (ev q)).run P w=.ok () w'/\w.mapTurned w' b/\ap P kt ok kl ev w' b (aJ k q ks):=by
 obtain⟨o,m,g,c⟩:=h;have i:=jfV g;obtain⟨w',l,j,a⟩:=i.store M.keyed a (by rw [c.size];unfold maxLen;omega) (M.key k f) (val:=ev q) (d:=.held (ev q)) (ps:=[]) rfl;exact⟨w',l,a,_,_,j,c.put M g f q⟩
theorem ap.drop (M:jn P kt ok kv kl){w:World}{b:Nat}{ks:List (K×V)}(a:ap P kt ok kl ev w b ks)(o:(ks.map Prod.fst).Nodup){k:K}(j:ok k){t e:TypeId}(m:P.underlying t=some (.map kt e))(q:TypeId) :
  ∃ w',(Builtin.delete_ #[t,kt] q #[.map (some b),kv k]).run P w=.ok (.tuple #[]) w'/\w.mapTurned w' b/\ap P kt ok kl ev w' b (br k ks):=by
 obtain⟨C,A,p,h⟩:=a;obtain⟨w',u,s,m⟩:=p.drop M.keyed m (M.key k j) q;refine⟨w',u,m,_,_,s,fun f i=>?_,fun f y z i c=>?_,?_,fun d l=>?_⟩
 ·by_cases e:f=k
  ·subst e;rw [has_del_same,ca o];rfl
  ·rw [has_del_other (fun a=>e (M.inj f k i j a)),bt e,h.has f i]
 ·by_cases e:f=k
  ·subst e;rw [ca o] at c;simp at c
  ·rw [atKey_del_other (fun a=>e (M.inj f k i j a))];rw [bt e] at c;exact h.at_ f y z i c
 ·have g:=size_del (k:=kl k) (p.tidy M.keyed);rw [h.has k j,h.size] at g;cases c:ar k ks with
  | none=>
   rw [c] at g;have n:br k ks=ks:=by
    have:∀ (d:List (K×V)),ar k d=none->br k d=d:=by
     intro d;induction d with
     | nil=>intro _;rfl
     | cons x E v=>
      intro a;obtain⟨B,D⟩:=x;unfold ar at a;unfold br;split at a
      ·simp at a
      ·rename_i r
       rw [if_neg r,v a]
    exact this ks c
   rw [n];simp at g;exact g
  | some F=>
   rw [c] at g;have n:=jM (k:=k) (ks:=ks) (by rw [c];rfl);simp at g;omega
 ·by_cases e:d=kl k
  ·rw [e,has_del_same] at l;simp at l
  ·rw [has_del_other e] at l;exact h.shut d l
end
theorem qa:Go.WideMaps.ArrKey prog 63 5 8:=⟨underlying63,by kernel_rfl,by kernel_rfl,by kernel_rfl⟩
def iW (k:Ky):Value:=(om k)
theorem wf8 {k:Int}(a:0<=k/\k<=255):(Lit.int .u8 k).wf=true:=by
 have:IntKind.u8.min=0:=rfl;have:IntKind.u8.max=255:=rfl;simp [Lit.wf];omega
def ga (k:Ky):Lit:=.string (keyBytes [.int .u8 k.k0,.int .u8 k.k1,.int .u8 k.k2,.int .u8 k.k3,.int .u8 k.k4,.int .u8 k.k5,.int .u8 k.k6,.int .u8 k.k7])
theorem fp (k:Ky)(a:k.ok):keyOf prog 63 (iW k)=some (ga k):=by
 have d:=qa.keyType ⟨_,rfl⟩;unfold keyOf iW;simp only [qa.hu];rw [if_pos (by simp [d,Value.formed,qa.hu,qa.size])];unfold Program.keyLits;simp only [qa.hu,Value.cells];rw [if_pos (by rw [qa.size];rfl),show List.range 8=[0,1,2,3,4,5,6,7] from rfl];have c:prog.underlying 5=some (.int .u8):=underlying5;obtain⟨b,e⟩:∃ b,prog.types.size=b+1:=⟨_,rfl⟩;rw [e];simp [ga,qa.one,Program.keyLits,c,wf8 a.h0,wf8 a.h1,wf8 a.h2,wf8 a.h3,wf8 a.h4,wf8 a.h5,wf8 a.h6,wf8 a.h7]
theorem fK:Keyed prog 63:=Keyed.of_law qa.law
theorem qJ {k a:Ky}(c:k.ok)(d:a.ok)(e:ga k=ga a):k=a:=by
 have b:=fK.inj (fp k c) (e▸fp a d);unfold iW at b;simp at b;cases k;cases a;simp_all
theorem mF:jn prog 63 Ky.ok iW ga:=⟨fK,fp,fun _ _ b c a=>qJ b c a⟩
def evE (p:Qt×Qt):Value:=(oL p.1 p.2)
def jf5:Value:=uD
theorem jc8 (w:World):(zeroValue 177).run prog w=.ok jf5 w:=by kernel_rfl
abbrev Es:=List (Ky×(Qt×Qt))
def aH (w:World)(b:Nat)(a:Es):Prop:=ap prog 63 Ky.ok ga evE w b a
def stands (b:Es):List (Ky×Qt):=b.map fun a=>(a.1,a.2.1)
theorem lU (a:Es):(stands a).map Prod.fst=a.map Prod.fst:=by
 unfold stands;rw [List.map_map];rfl
theorem bD (k:Ky):∀ (a:Es),aZ k (stands a)=(ar k a).map Prod.fst
 | []=>rfl
 | (k',p) :: r=>by
  show aZ k ((k',p.1) :: stands r)=_;unfold aZ ar;split
  ·rfl
  ·exact bD k r
theorem eH (k:Ky)(p:Qt×Qt):∀ (a:Es),stands (bO k p a)=jH k p.1 (stands a)
 | []=>rfl
 | (k',p') :: r=>by
  show stands (bO k p ((k',p') :: r))=jH k p.1 ((k',p'.1) :: stands r);unfold bO jH;split
  ·rfl
  ·show (k',p'.1) :: stands (bO k p r)=_;rw [eH k p r]
theorem iq (k:Ky):∀ (a:Es),stands (br k a)=del k (stands a)
 | []=>rfl
 | (k',p') :: r=>by
  show stands (br k ((k',p') :: r))=del k ((k',p'.1) :: stands r);unfold br del;split
  ·rfl
  ·show (k',p'.1) :: stands (br k r)=_;rw [iq k r]
theorem dF (a:Es):(stands a).length=a.length:=by unfold stands;simp
theorem kC (k:Ky)(p:Qt×Qt)(a:Es):stands (a ++ [(k,p)])=stands a ++ [(k,p.1)]:=by unfold stands;simp
section
variable {P:Program}{kt:TypeId}{K V:Type} [DecidableEq K] {ok:K->Prop}{kv:K->Value}{kl:K->Lit}{ev:V->Value}
theorem gS.come {D:DataW Value}{e:List (K×V)}(M:jn P kt ok kv kl)(c:gS ok kl ev D e){h v:Value}{l:Lit}{y:DataW Value×List MemPlace}(j:keyOf P kt h=some l)(m:bM v=some y)(f:∀ zd,D.atKey l zd=y.1) :
  ∃ k p,ok k/\l=kl k/\ar k e=some p/\h=kv k/\v=ev p:=by
 have d:=has_true_of_atKey f;obtain⟨k,a,rfl⟩:=c.shut l d;rw [c.has k a] at d;obtain⟨p,g⟩:=Option.isSome_iff_exists.1 d;have b:=c.at_ k p (.held v) a g;rw [f] at b;have i:DataW.held v=y.1:=by
  have:=congrArg (Option.map Prod.fst) m;simpa [bM] using this
 rw [<-i] at b;exact⟨k,p,a,rfl,g,M.val j a rfl,DataW.held.inj b⟩
variable (w:World) {ops:Array Oper}{rest:List Oper}{o:Oper}{a:Act}{Q:Exit->Act->World->Prop}
theorem fh (M:jn P kt ok kv kl)(C:o.guard=none)(t:Operand)(r:o.op=Op.next t false)(b c n:Nat)(D:DataW Value)(h:List (K×V))(i:gS ok kl ev D h)(e:Lit->Bool)(f:Nat)
  (m:a.eval t=.pointer (some ⟨c,0,none⟩)) (u:w.ranges P kt bM b c n D e f)
  (x:f=0->(∀ l,e l=false)->wpList P ops Q rest (a.put o.dst (.tuple #[.bool false])) w)
  (y:∀ (k:K) (p:V) (w':World) (d:Nat),ok k->ar k h=some p->e (kl k)=true->(∀ zd,D.atKey (kl k) zd=.held (ev p))->w'.ranges P kt bM b c n D (fun z=>e z && !z.sameKey (kl k)) d->d<f->
    w.grownBy w' (some c)->w'.heap.size=w.heap.size->(Instr.entry (.pointer (some ⟨c,0,none⟩))).run P w'=.ok (.tuple #[kv k,ev p]) w'->wpList P ops Q rest (a.put o.dst (.tuple #[.bool true,kv k,ev p])) w') :
  wpList P ops Q (o :: rest) a w:=by
 refine wpList_plain C fun O j=>?_
 unfold Oper.wp;rcases u.next M.keyed o.type with ⟨v,G,g⟩ | ⟨R,S,l,T,w',d,F,H,N,A,g,J,I,E,L,B⟩
 ·simp [execOp,r,m,g,Result.andThen];exact j _ _ (x v G)
 ·obtain⟨k,p,q,rfl,s,rfl,rfl⟩:=i.come M F N A;simp [execOp,r,m,g,Result.andThen];exact j _ _ (y k p w' d q s H (fun zd=>i.at_ k p zd q s) J I E L B)
end
theorem jF:prog.underlying 121=some (.map 63 177):=underlying121
theorem jdr (b nb n:Nat)(a:DataW Value)(E:Es)(w:World)(G:gS Ky.ok ga evE a E)(u:w.ownsMap prog 63 bM b n a)(r:w.ownsMap prog 63 bM nb 0 (.map []))(bd:b≠nb)(bK:Maps.size a<=1000) :
  Calls prog 173 #[.map (some nb),.map (some b)] w fun e w'=>e=.returned (.tuple #[])/\w'.ownsMap prog 63 bM nb (Maps.size a) a/\ae (fun c=>c=nb) w w':=by
 have bz:=u.lt;have b0:=r.lt;have HD:=aa G;have a3:=aa u;have bu:=aa r;go_enter func173,ntmps173
 go_wp2_with (first
   | (at_range;refine wpList_range_own _ rfl _ 121 rfl 63 177 fK jF _ b n _ rfl u ?_;intro bs S h bl)
   | go_in)
 go_frame
 have s:ae (fun c=>c=nb) w bs:=⟨h.os,h.tape,h.output,h.size,fun j a7 _=>h.block j a7 (by simp)⟩;have I:=r.kept h (by simp);have ao:=aa s;have ad:=aa I;have a0:=aa S;clear G u r s I S h bl;go_loopw [8] (fun _ wr=>∃ (o:Lit->Bool) (f:Nat) (p:DataW Value),wr.ranges prog 63 bM b w.heap.size n a o f/\f<=Maps.size a/\
     wr.ownsMap prog 63 bM nb (Maps.size a - f) p/\Agree p a o/\ae (fun c=>c=nb) w wr)
  (fun _ wr=>wr.rangeLeft b w.heap.size)
 case atStart=>exact⟨_,_,.map [],a0.out,lz,ad.out.mono (Nat.zero_le _),agree_start a,ao.out⟩
 case round=>
  obtain⟨o,f,p,t,bF,Q,F,N⟩:=hrel;have q:=aa Q;have C:=aa F;have k:=aa N;clear Q F N;go_wp2_with (first
    | (at_next;refine fh (P:=prog) (kt:=63) _ mF rfl _ rfl b w.heap.size n a E HD.out o f rfl t ?_ ?_)
    | go_in)
  ·intro a5 a8;go_wp2
   go_end0
   subst a5;have e:=agree_end C.out a8 (q.out.canon fK) (a3.out.canon fK);exact⟨rfl,by have:=q.out;rw [e] at this;simpa using this,k.out⟩
  ·intro j z A B D O bj bb H U M i bo J;have bk:w.heap.size<wr.heap.size:=t.lt;have X:=k.out.size;simp only [iW,evE] at J ⊢;have R:=q.out.kept i (by intro e;injection e with e;omega);obtain⟨d,g⟩:∃ d,d=(B.alloc (ol j)).alloc (oe z A):=⟨_,rfl⟩;have bi:d.ownsMap prog 63 bM nb (Maps.size a - f) p:=g▸(R.alloc _).alloc _;have W:d.ranges prog 63 bM b w.heap.size n a (fun Y=>o Y && !Y.sameKey (ga j)) D:=g▸(U.alloc _).alloc _;have K:ae (fun c=>c=nb) w d:=by
    rw [g];refine ae.alloc (ae.alloc ?_ _) _
    exact⟨i.os.trans k.out.os,i.tape.trans k.out.tape,i.output.trans k.out.output,lq X i.size,fun m x y=>(i.block m (by omega) (by intro e;injection e with e;omega)).trans (k.out.block m x y)⟩
   have s:d.heap[B.heap.size]?=some (ol j):=g▸aB (af _ _) _;have a6:d.heap[B.heap.size+1]?=some (oe z A):=g▸aC (by simp);have a9:Maps.size a - f<maxLen:=by unfold maxLen;omega
   have a1:=aa W;have av:=aa K;have v:=aa M;have a2:=aa t;have Z:=aa H;have L:=fp j O;unfold iW at L;clear W K U i bo R M X bk bb bj H t;go_upto_region 3 with fail
   rw [<-g];clear g J;have bv:=ab s;have bw:=ab a6;go_wp2_with (first
     | (at_mapUpdate;refine wpList_mapUpdate_own _ rfl _ _ _ 121 rfl 63 177 fK jF _ nb _ _ rfl bi a9 _ _ _ rfl rfl L (.held (evE (z,A))) [] rfl ?_;intro b1 bg l;go_frame)
     | go_in)
   have V:=a1.out.kept l (fun e=>bd (Option.some.inj e)) (fun e=>by have:=Option.some.inj e;omega);go_roundw
   case rel=>
    refine⟨_,D,_,V,by have:=v.out;omega,bg.mono (by have:=v.out;omega),agree_step C.out q.out.isMap (fK.key (fp j O)) Z.out,?_⟩
    exact av.out.then (T:=fun c=>c=nb) ⟨l.os,l.tape,l.output,l.size,fun m x y=>l.block m x (fun e=>y (Option.some.inj e))⟩ (fun m _ a4=>a4)
   case measure=>rw [V.left_eq,a2.out.left_eq];exact v.out
def divM (a:Int):Int:=if bits BinOp.and IntKind.u64 a 1=1 then bits BinOp.xor IntKind.u64 (a / 2) 14514072000185962306 else a / 2
def mV (a:Int):Nat->Int
 | 0=>a
 | j+1=>divM (mV a j)
def tP (i:Nat):Int:=mV i 8
theorem kF (c:BinOp)(a b:Int):0<=bits c .u64 a b/\bits c .u64 a b<=18446744073709551615:=by
 have d:=bounds_u64 (Go.wf_bits c .u64 a b);exact⟨d.1,by omega⟩
theorem jdu (a:Int)(b:0<=a)(c:a<=18446744073709551615):0<=divM a/\divM a<=18446744073709551615:=by
 unfold divM;split
 ·exact kF _ _ _
 ·omega
theorem kN (a:Int)(c:0<=a)(d:a<=18446744073709551615):∀ b,0<=mV a b/\mV a b<=18446744073709551615
 | 0=>⟨c,d⟩
 | b+1=>jdu _ (kN a c d b).1 (kN a c d b).2
theorem sF (a:Int)(w:World)(d:0<=a)(f:a<=18446744073709551615) :
  Calls prog 223 #[.int .u64 a] w fun e w'=>e=.returned (.int .u64 (divM a))/\w'=w:=by
 unfold divM;by_cases b:bits BinOp.and IntKind.u64 a 1=1
 ·have c:(bits BinOp.and IntKind.u64 a 1==1)=true:=by simp [b]
  rw [if_pos b];clear b;go_enter func223,ntmps223
  go_wp2
  go_ret
  exact⟨rfl,rfl⟩
 ·have c:(bits BinOp.and IntKind.u64 a 1==1)=false:=by simp [b]
  rw [if_neg b];clear b;go_enter func223,ntmps223
  go_wp2
  go_ret
  exact⟨rfl,rfl⟩
structure mm (w:World)(g o i:Nat)(wr:World):Prop where
 row:∀ j,j<256->∃ u,wr.cell? ⟨g,o+3+j,none⟩=some (.int .u64 u)/\(j<i->u=tP j)
 fro:∀ j,j<256->wr.frozen? ⟨g,o+3+j,none⟩=false
 cel:∀ j,(j<o+3\/o+259<=j)->wr.cell? ⟨g,j,none⟩=w.cell? ⟨g,j,none⟩/\wr.frozen? ⟨g,j,none⟩=w.frozen? ⟨g,j,none⟩
 keep:ae (fun b=>b=g) w wr
theorem mm.step {w:World}{g o i:Nat}{wr:World}(c:mm w g o i wr)(n:i<256):mm w g o (i+1) (wr.setCell ⟨g,o+3+i,none⟩ (.int .u64 (tP i))):=by
 refine⟨fun a b=>?_,fun a b=>by rw [World.frozen?_setCell];exact c.fro a b,fun a b=>?_,c.keep.set (il rfl) _ _⟩
 ·by_cases h:a=i
  ·subst h;obtain⟨f,e,_⟩:=c.row a b;exact⟨tP a,World.cell?_setCell_same wr _ _ e,fun _=>rfl⟩
  ·obtain⟨f,e,m⟩:=c.row a b;refine⟨f,?_,fun p=>m (by omega)⟩
   rw [World.cell?_setCell_other wr _ _ _ (by intro d;injection d with _ j _;omega)];exact e
 ·obtain⟨k,l⟩:=c.cel a b;refine⟨?_,by rw [World.frozen?_setCell];exact l⟩
  rw [World.cell?_setCell_other wr _ _ _ (by intro d;injection d with _ j _;omega)];exact k
theorem jbQ (g o:Nat)(w:World)(q:mm w g o 0 w) :
  Calls prog 203 #[.pointer (some ⟨g,o,none⟩)] w fun e w'=>e=.returned (.tuple #[])/\mm w g o 256 w':=by
 go_enter func203,ntmps203
 go_wp2
 go_loopw [4] (fun i wr=>∃ a:Nat,a<=256/\i=.int .i64 a/\mm w g o a wr) (fun i _=>256 - (intOf i).toNat)
 case atStart=>exact⟨0,by omega,rfl,q⟩
 case round=>
  obtain⟨a,t,rfl,k⟩:=hrel;obtain⟨d,rfl⟩:∃ d,d=wr:=⟨_,rfl⟩;have c:=aa k;clear k;by_cases h:a<256
  ·have z:(a:Int)<256:=by omega
   have u:(0:Int)<=(a:Int):=by omega
   have B:IntKind.u64.wrap (a:Int)=(a:Int):=by rw [IntKind.wrap_u64];omega
   go_wp2
   go_loopw [3,9] (fun r j p=>∃ b:Nat,b<=8/\j=.int .i64 b/\r=.int .u64 (mV a b)/\p=d) (fun _ j _=>8 - (intOf j).toNat)
   case atStart=>exact⟨0,by omega,rfl,by first | rfl | trivial,by first | rfl | trivial⟩
   case round=>
    obtain⟨b,v,rfl,rfl,rfl⟩:=hrel;by_cases x:b<8
    ·have y:(b:Int)<8:=by omega
     have m:=kN a (by omega) (by omega) b;go_wp2_with (go_at_call 223;refine (sF _ _ m.1 m.2).mono ?_;rintro e w' ⟨rfl,rfl⟩)
     go_roundw
     case rel=>exact⟨b+1,by omega,by go_num,by first | rfl | trivial,by first | rfl | trivial⟩
     case measure=>simp [intOf];omega
    ·obtain rfl:b=8:=by omega
     obtain⟨C,A,_⟩:=c.out.row a h;have s:=c.out.fro a h;obtain⟨l,f⟩:∃ l,l=mV (a:Int) 8:=⟨_,rfl⟩;rw [<-f];have n:=aa f;clear f;go_wp2
     go_roundw
     case rel=>exact⟨a+1,by omega,by go_num,by rw [n.out];exact c.out.step h⟩
     case measure=>simp [intOf];omega
  ·obtain rfl:a=256:=by omega
   go_wp2
   go_end0
   exact⟨rfl,c.out⟩
def mG (v:Int)(i:Nat):Array Value:=#[.int .u8 (if 8<=i then nb v 0 else 0),.int .u8 (if 7<=i then nb v 1 else 0),.int .u8 (if 6<=i then nb v 2 else 0),.int .u8 (if 5<=i then nb v 3 else 0),.int .u8 (if 4<=i then nb v 4 else 0),.int .u8 (if 3<=i then nb v 5 else 0),.int .u8 (if 2<=i then nb v 6 else 0),.int .u8 (if 1<=i then nb v 7 else 0)]
theorem tX (v:Int)(w:World)(f:0<=v)(g:v<=18446744073709551615) :
  Calls prog 204 #[.int .u64 v] w fun e w'=>e=.returned (oE (nb v 0) (nb v 1) (nb v 2) (nb v 3) (nb v 4) (nb v 5) (nb v 6) (nb v 7))/\B7 w w':=by
 go_enter func204,ntmps204
 go_wp2
 go_loopw [5] (fun b wr=>∃ a:Nat,a<=8/\b=.int .i64 a/\wr=(w.alloc (oK)).alloc (.cells (mG v a) 322)) (fun b _=>8 - (intOf b).toNat)
 case atStart=>exact⟨0,by omega,rfl,rfl⟩
 case round=>
  obtain⟨a,h,rfl,rfl⟩:=hrel;by_cases i:a<8
  ·have d:a=0\/a=1\/a=2\/a=3\/a=4\/a=5\/a=6\/a=7:=by omega
   rcases d with rfl | rfl | rfl | rfl | rfl | rfl | rfl | rfl
   ·simp only [mG];go_wp2
    go_roundw
    case rel=>exact⟨1,by omega,by go_num,by simp [nb]⟩
    case measure=>simp [intOf]
   ·simp only [mG];go_wp2
    go_roundw
    case rel=>exact⟨2,by omega,by go_num,by simp [nb]⟩
    case measure=>simp [intOf]
   ·simp only [mG];go_wp2
    go_roundw
    case rel=>exact⟨3,by omega,by go_num,by simp [nb]⟩
    case measure=>simp [intOf]
   ·simp only [mG];go_wp2
    go_roundw
    case rel=>exact⟨4,by omega,by go_num,by simp [nb]⟩
    case measure=>simp [intOf]
   ·simp only [mG];go_wp2
    go_roundw
    case rel=>exact⟨5,by omega,by go_num,by simp [nb]⟩
    case measure=>simp [intOf]
   ·simp only [mG];go_wp2
    go_roundw
    case rel=>exact⟨6,by omega,by go_num,by simp [nb]⟩
    case measure=>simp [intOf]
   ·simp only [mG];go_wp2
    go_roundw
    case rel=>exact⟨7,by omega,by go_num,by simp [nb]⟩
    case measure=>simp [intOf]
   ·simp only [mG];go_wp2
    go_roundw
    case rel=>
     have c:v / 72057594037927936 % 256=v / 72057594037927936:=by omega
     exact⟨8,by omega,by go_num,by simp [nb,c]⟩
    case measure=>simp [intOf]
  ·obtain rfl:a=8:=by omega
   simp only [mG];go_wp2
   refine bodyPost_ret (v:=(oE (nb v 0) (nb v 1) (nb v 2) (nb v 3) (nb v 4) (nb v 5) (nb v 6) (nb v 7))) (by simp [results,results204,go_sem]) rfl ⟨rfl,?_⟩
   repeat (first | exact Below.refl _ _ | (refine Below.setCell ?_ lz _) | (refine Below.alloc ?_ (by simp) _))
end Go.Proofs.YtnlgndpcddngoaaGreatDoor
