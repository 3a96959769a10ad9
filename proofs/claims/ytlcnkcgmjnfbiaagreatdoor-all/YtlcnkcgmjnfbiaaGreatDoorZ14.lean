import Derived.Test.YtlcnkcgmjnfbiaaGreatDoorZ00
import Derived.Conc.MuLone
import Derived.Shelf.Bits.Mul64
import Derived.Deep.RegionWith
import Derived.Laws.EntriesVeiled
import Derived.Laws.LoneSync
import Derived.Laws.Small
set_option linter.all false
set_option maxRecDepth 100000
set_option maxHeartbeats 1000000
namespace Go.Proofs.YtlcnkcgmjnfbiaaGreatDoor
open Go.Proofs.Tryz Go.RowKit Go.MuLone
variable [dK] [iK]
abbrev jfu:Go.Conc.Locks.MuLink:={ lock:=65,unlock:=66,ilock:=107,iunlock:=108,lockSlow:=129,unlockSlow:=131,disable:=90,enable:=91,acquire:=101,relMerge:=89,cas32:=128,add32:=130,tMutex:=133,tIMutex:=131,tPMutex:=214,tPIMutex:=254,tPI32:=256,tUP:=176,tNoCopy:=128,tU32:=129 }
theorem jeU:Go.Conc.Locks.MuLib prog jfu:=
 ⟨func65,func66,func107,func108,func90,func91,func101,func89,func128,func130,underlying131,Tryz.runUnderlying131,sizeOf131,isAgg131,Tryz.zeroValue131,underlying133,Tryz.runUnderlying133,sizeOf133,isAgg133,Tryz.zeroValue133,underlying214,Tryz.runUnderlying214,sizeOf214,isAgg214,Tryz.zeroValue214,underlying254,Tryz.runUnderlying254,sizeOf254,isAgg254,Tryz.zeroValue254,underlying256,Tryz.runUnderlying256,sizeOf256,isAgg256,Tryz.zeroValue256,underlying176,Tryz.runUnderlying176,sizeOf176,isAgg176,Tryz.zeroValue176,underlying128,Tryz.runUnderlying128,sizeOf128,isAgg128,Tryz.zeroValue128,underlying21,Tryz.runUnderlying21,sizeOf21,isAgg21,Tryz.zeroValue21,(by kernel_rfl)⟩
theorem jca (a:Addr)(w:World)(b:w.cell? a=some (.int .i32 0))(c:w.frozen? a=false) :
  Calls prog 65 #[.pointer (some a)] w fun e w'=>e=.returned (.tuple #[])/\w'=w.setCell a (.int .i32 1):=
 lock_free jeU a w b c
theorem pN (a:Addr)(u:FrameMode)(w:World)(b:w.cell? a=some (.int .i32 1))(c:w.frozen? a=false) :
  CallsD prog 66 #[.pointer (some a)] u w fun e d w'=>d=u/\(e=.returned (.tuple #[])/\w'=w.setCell a (.int .i32 0)):=
 unlock_deferred jeU a u w b c
end Go.Proofs.YtlcnkcgmjnfbiaaGreatDoor
namespace Go.Proofs.YtlcnkcgmjnfbiaaGreatDoor
open Go.Proofs.Tryz Go.RowKit
variable [dK] [iK]
def jcb:ByteArray:=⟨#[108,101,100,103,101,114,46,48]⟩
def jcc:ByteArray:=⟨#[108,101,100,103,101,114,46,49]⟩
def ay (b:Bool):ByteArray:=if b then jcc else jcb
theorem jfM (w:World):Calls prog 206 #[.int .i64 0] w fun e w'=>e=.returned (.string ⟨#[48]⟩)/\w'=w:=by
 go_enter func206,ntmps206
 go_wp2
 go_ret
 exact⟨rfl,rfl⟩
theorem jfN (w:World):Calls prog 206 #[.int .i64 1] w fun e w'=>e=.returned (.string ⟨#[49]⟩)/\w'=w:=by
 go_enter func206,ntmps206
 go_wp2
 go_ret
 exact⟨rfl,rfl⟩
theorem fmt0 (w:World):Calls prog 173 #[.int .u64 0,.int .i64 10] w fun e w'=>e=.returned (.string ⟨#[48]⟩)/\w'=w:=by
 go_enter func173,ntmps173
 go_wp2_with (first | (go_at_call 206;refine (jfM _).mono ?_;rintro e w' ⟨rfl,rfl⟩) | (go_at_call 190;go_in))
 go_ret
 exact⟨rfl,rfl⟩
theorem fmt1 (w:World):Calls prog 173 #[.int .u64 1,.int .i64 10] w fun e w'=>e=.returned (.string ⟨#[49]⟩)/\w'=w:=by
 go_enter func173,ntmps173
 go_wp2_with (first | (go_at_call 206;refine (jfN _).mono ?_;rintro e w' ⟨rfl,rfl⟩) | (go_at_call 190;go_in))
 go_ret
 exact⟨rfl,rfl⟩
theorem cL (t:Int)(w:World)(c:0<=t)(d:t<=18446744073709551615):Calls prog 150 #[.int .u64 t] w fun e w'=>e=.returned (.string (ay (t % 2==1)))/\w'=w:=by
 have b:t.tmod 2=t % 2:=Int.tmod_eq_emod_of_nonneg c;rcases Int.emod_two_eq t with a | a
 ·have e:ay (t % 2==1)=jcb:=by rw [a];rfl
  rw [e];rw [a] at b;clear e;go_enter func150,ntmps150
  go_wp2_with (go_at_call 173;refine (fmt0 _).mono ?_;rintro e w' ⟨rfl,rfl⟩)
  go_ret
  exact⟨rfl,rfl⟩
 ·have e:ay (t % 2==1)=jcc:=by rw [a];rfl
  rw [e];rw [a] at b;clear e;go_enter func150,ntmps150
  go_wp2_with (go_at_call 173;refine (fmt1 _).mono ?_;rintro e w' ⟨rfl,rfl⟩)
  go_ret
  exact⟨rfl,rfl⟩
end Go.Proofs.YtlcnkcgmjnfbiaaGreatDoor
namespace Go.Proofs.YtlcnkcgmjnfbiaaGreatDoor
open Go.Proofs.Tryz Go.RowKit Go.Lib Go.Shelf
variable [dK] [iK]
namespace Mul
def ren:Go.Shelf.Ren:=⟨fun _=>246,fun a=>if a=46 then 72 else 24,fun a=>a⟩
theorem lays:Lays.n264 prog ren where
 mixed:=by first | exact Tryz.mixed | kernel_rfl | decide
 f264:=by kernel_rfl
 t46:=by first | exact underlying72 | kernel_rfl
 a46:=by first | exact isAgg72 | (intro a;kernel_rfl)
 z46:=by first | exact sizeOf72 | (intro a;kernel_rfl)
 v46:=by first | exact Tryz.zeroValue72 | (intro a;kernel_rfl)
 t53:=by first | exact underlying24 | kernel_rfl
 a53:=by first | exact isAgg24 | (intro a;kernel_rfl)
 z53:=by first | exact sizeOf24 | (intro a;kernel_rfl)
 v53:=by first | exact Tryz.zeroValue24 | (intro a;kernel_rfl)
end Mul
theorem nf (x y:Nat)(a:x<18446744073709551616)(b:y<18446744073709551616)(w:World) :
  Calls prog 246 #[.int .u64 x,.int .u64 y] w fun e w'=>e=.returned (.tuple #[.int .u64 ((x * y / 18446744073709551616:Nat):Int),.int .u64 ((x * y % 18446744073709551616:Nat):Int)])/\w'=w:=
 Any.bits_Mul64 Mul.lays x y a b w
theorem iZ (a b:Int)(w:World)(i:0<=a)(j:0<=b)(l:a<=18446744073709551615)(m:b<=18446744073709551615)(p:Int)(g:a * b=p)(k:p<=18446744073709551615) :
  Calls prog 231 #[.int .u64 a,.int .u64 b] w fun e w'=>e=.returned (.tuple #[.int .u64 p,.bool true])/\w'=w:=by
 obtain⟨c,rfl⟩:=Int.eq_ofNat_of_zero_le i;obtain⟨d,rfl⟩:=Int.eq_ofNat_of_zero_le j;have f:=nf c d (by omega) (by omega) w;have h:((c * d:Nat):Int)=p:=by rw [<-g];exact Int.natCast_mul c d
 generalize c * d=z at f h;subst h;clear g;rw [Nat.div_eq_of_lt (by omega),Nat.mod_eq_of_lt (by omega)] at f;go_enter func231,ntmps231
 go_wp2_with (go_at_call 246;refine f.mono ?_;rintro e w' ⟨rfl,rfl⟩)
 go_ret2
 exact⟨rfl,rfl⟩
theorem pB (a b:Int)(w:World)(k:0<=a)(l:0<=b)(o:a<=18446744073709551615)(r:b<=18446744073709551615)(p:Int)(h:a * b=p)(j:18446744073709551615<p) :
  Calls prog 231 #[.int .u64 a,.int .u64 b] w fun e w'=>e=.returned (.tuple #[.int .u64 0,.bool false])/\w'=w:=by
 obtain⟨c,rfl⟩:=Int.eq_ofNat_of_zero_le k;obtain⟨d,rfl⟩:=Int.eq_ofNat_of_zero_le l;have f:=nf c d (by omega) (by omega) w;have i:((c * d:Nat):Int)=p:=by rw [<-h];exact Int.natCast_mul c d
 generalize c * d=z at f i;subst i;clear h;have g:0<z / 18446744073709551616:=Nat.div_pos (by omega) (by omega);generalize z / 18446744073709551616=q at f g;have n:¬((q:Int)=0):=by omega
 have m:((q:Int) != 0)=true:=by simp;omega
 clear g j;go_enter func231,ntmps231
 go_wp2_with (go_at_call 246;refine f.mono ?_;rintro e w' ⟨rfl,rfl⟩)
 go_ret2
 exact⟨rfl,rfl⟩
end Go.Proofs.YtlcnkcgmjnfbiaaGreatDoor
namespace Go.Proofs.YtlcnkcgmjnfbiaaGreatDoor
open Go.Proofs.Tryz Go.RowKit
variable [dK] [iK]
theorem lH (d x y a b c:Int)(w:World) :
  Calls prog 181 #[ou d x y a b,.int .u8 c] w fun e w'=>e=.returned (ot c a b)/\w'=(w.alloc (OA d x y a b)).alloc (oI c a b):=by
 go_enter func181,ntmps181
 go_wp2
 exact bodyPost_ret (v:=(ot c a b)) (by simp [results,results181,go_sem]) rfl ⟨rfl,rfl⟩
theorem dJ (u:Int)(w:World) :
  Calls prog 214 #[.int .u64 u] w fun e w'=>e=.returned (ON u)/\w'=w.alloc (.cells #[.int .u8 3,.int .u64 u,.int .u64 0] 51):=by
 go_enter func214,ntmps214
 go_wp2
 exact bodyPost_ret (v:=(ON u)) (by simp [results,results214,go_sem]) rfl ⟨rfl,rfl⟩
theorem qR (a x y b c d:Int)(w:World) :
  Calls prog 195 #[ou a x y b c,.int .u64 d] w fun e w'=>e=.returned (ou a x y b c)/\w'=(w.alloc (OA a x y b c)).alloc (OA a x y b c):=by
 go_enter func195,ntmps195
 go_wp2
 exact bodyPost_ret (v:=(ou a x y b c)) (by simp [results,results195,go_sem]) rfl ⟨rfl,rfl⟩
theorem jz (b x y c a d:Int)(w:World)(h:y≠0)(f:IntKind.u64.wrap (d.tdiv y)=a) :
  Calls prog 198 #[ou b x y c a,.int .u64 d] w fun e w'=>e=.returned (ou b x y c a)/\w'=(w.alloc (OA b x y c a)).alloc (OA b x y c a):=by
 have g:(a != a)=false:=by simp
 go_enter func198,ntmps198
 go_wp2
 exact bodyPost_ret (v:=(ou b x y c a)) (by simp [results,results198,go_sem]) rfl ⟨rfl,rfl⟩
theorem jU (a x y f c b d:Int)(w:World)(i:y≠0)(g:IntKind.u64.wrap (b.tdiv y)=d)(h:(d != c)=true) :
  Calls prog 198 #[ou a x y f c,.int .u64 b] w fun e w'=>e=.returned (.agg #[.int .u8 a,.int .u64 x,.int .u64 y,.int .u64 0,.int .u64 d])/\w'=(w.alloc (.cells #[.int .u8 a,.int .u64 x,.int .u64 y,.int .u64 0,.int .u64 d] 171)).alloc (.cells #[.int .u8 a,.int .u64 x,.int .u64 y,.int .u64 0,.int .u64 d] 171):=by
 go_enter func198,ntmps198
 go_wp2
 exact bodyPost_ret (v:=.agg #[.int .u8 a,.int .u64 x,.int .u64 y,.int .u64 0,.int .u64 d]) (by simp [results,results198,go_sem]) rfl ⟨rfl,rfl⟩
theorem jP (a x y b c n:Int)(w:World)(d:x<n) :
  Calls prog 217 #[ou a x y b c,.int .u64 n] w fun e w'=>e=.returned (.int .u64 18446744073709551615)/\w'=w.alloc (OA a x y b c):=by
 go_enter func217,ntmps217
 go_wp2
 go_ret
 exact⟨rfl,rfl⟩
theorem lG (b x y c a n p:Int)(w:World)(i:n<=x)(j:IntKind.u64.wrap (a * y)=p)(d:0<=p)(f:p<=18446744073709551615)(g:0<=y)(h:y<=18446744073709551615) :
  Calls prog 217 #[ou b x y c a,.int .u64 n] w fun e w'=>e=.returned (.int .u64 (am (p+y)))/\w'=w.alloc (OA b x y c a):=by
 go_enter func217,ntmps217
 go_wp2_with (go_at_call 215;refine (dC p y _ d g f h).mono ?_;rintro e w' ⟨rfl,rfl⟩)
 go_ret
 exact⟨rfl,rfl⟩
theorem du (a x y b c s n p:Int)(w:World)(h:n * x=p)(f:0<=n)(g:n<=18446744073709551615)(k:0<=x)(l:x<=18446744073709551615)(j:0<=s)(m:s<=18446744073709551615)(i:0<=p)(d:s+p<=18446744073709551615) :
  Calls prog 213 #[ou a x y b c,.int .u64 s,.int .u64 n] w fun e w'=>e=.returned (.tuple #[.int .u64 (s+p),.bool true])/\w'=w.alloc (OA a x y b c):=by
 go_enter func213,ntmps213
 go_wp2_with (first | (go_at_call 231;refine (iZ n x _ f k g l p h (by omega)).mono ?_;rintro e w' ⟨rfl,rfl⟩) | (go_at_call 216;refine (gI s p _ j i d).mono ?_;rintro e w' ⟨rfl,rfl⟩))
 go_ret2
 exact⟨rfl,rfl⟩
theorem jO (g x y h i s n p:Int)(w:World)(c:n * x=p)(a:0<=n)(b:n<=18446744073709551615)(d:0<=x)(f:x<=18446744073709551615)(m:0<=s)(o:s<=18446744073709551615)(l:0<=p)(j:18446744073709551615<s+p) :
  Calls prog 213 #[ou g x y h i,.int .u64 s,.int .u64 n] w fun e w'=>e=.returned (.tuple #[.int .u64 0,.bool false])/\w'=w.alloc (OA g x y h i):=by
 by_cases k:p<=18446744073709551615
 ·go_enter func213,ntmps213
  go_wp2_with (first | (go_at_call 231;refine (iZ n x _ a d b f p c (by omega)).mono ?_;rintro e w' ⟨rfl,rfl⟩) | (go_at_call 216;refine (jg s p _ m l o k j).mono ?_;rintro e w' ⟨rfl,rfl⟩))
  go_ret2
  exact⟨rfl,rfl⟩
 ·go_enter func213,ntmps213
  go_wp2_with (go_at_call 231;refine (pB n x _ a d b f p c (by omega)).mono ?_;rintro e w' ⟨rfl,rfl⟩)
  go_ret2
  exact⟨rfl,rfl⟩
theorem gO (w:World) :
  Calls prog 180 #[] w fun e w'=>e=.returned (oN)/\w'=w.alloc (oA):=by
 go_enter func180,ntmps180
 go_wp2
 exact bodyPost_ret (v:=oN) (by simp [results,results180,go_sem]) rfl ⟨rfl,rfl⟩
theorem te (c x y a b f n:Int)(w:World)(d:n=0) :
  Calls prog 196 #[ou c x y a b,.int .u64 f,.int .u64 n] w fun e w'=>
   e=.returned (.tuple #[ou c x y a b,Oi a b])/\B7 w w':=by
 subst d;go_enter func196,ntmps196
 go_wp2
 go_region_with (go_at_call 181;refine (lH _ _ _ _ _ _ _).mono ?_;rintro e g ⟨rfl,rfl⟩)
 all_goals go_wp2
 all_goals exact bodyPost_ret (v:=.tuple #[ou c x y a b,Oi a b]) (by simp [results,results196,go_sem]) rfl ⟨rfl,(((((ba w).alloc (by simp <;> omega) _).alloc (by simp <;> omega) _).alloc (by simp <;> omega) _).alloc (by simp <;> omega) _).drew⟩
theorem td (d x y a f b n:Int)(w:World)(j:0<=n)(k:n<=18446744073709551615)(o:0<=x)(q:x<=18446744073709551615)(r:0<=y)(t:y<=18446744073709551615)(u:0<=a)(z:a<=18446744073709551615)(B:0<=b)(C:b<=18446744073709551615)(A:n≠0)(s p:Int)(c:(if a<b then b else a)=s)(l:n * x=p)(m:0<=p)(h:18446744073709551615<s+p) :
  Calls prog 196 #[ou d x y a f,.int .u64 b,.int .u64 n] w fun e w'=>
   e=.returned (.tuple #[ou d x y a f,Ov])/\B7 w w':=by
 by_cases i:a<b
 ·rw [if_pos i] at c;subst c;go_enter func196,ntmps196
  go_wp2_with (first | (go_at_call 213;refine (jO _ _ _ _ _ _ _ p _ l j k o q (by omega) (by omega) m h).mono ?_;rintro e g ⟨rfl,rfl⟩))
  go_region_with (go_at_call 214;refine (dJ _ _).mono ?_;rintro e g ⟨rfl,rfl⟩)
  all_goals go_wp2
  all_goals exact bodyPost_ret (v:=.tuple #[ou d x y a f,Ov]) (by simp [results,results196,go_sem]) rfl ⟨rfl,(((((ba w).alloc (by simp <;> omega) _).alloc (by simp <;> omega) _).alloc (by simp <;> omega) _).alloc (by simp <;> omega) _).drew⟩
 ·rw [if_neg i] at c;subst c;go_enter func196,ntmps196
  go_wp2_with (first | (go_at_call 213;refine (jO _ _ _ _ _ _ _ p _ l j k o q (by omega) (by omega) m h).mono ?_;rintro e g ⟨rfl,rfl⟩))
  go_region_with (go_at_call 214;refine (dJ _ _).mono ?_;rintro e g ⟨rfl,rfl⟩)
  all_goals go_wp2
  all_goals exact bodyPost_ret (v:=.tuple #[ou d x y a f,Ov]) (by simp [results,results196,go_sem]) rfl ⟨rfl,(((((ba w).alloc (by simp <;> omega) _).alloc (by simp <;> omega) _).alloc (by simp <;> omega) _).alloc (by simp <;> omega) _).drew⟩
theorem jaz (d x y a f b n:Int)(w:World)(j:0<=n)(k:n<=18446744073709551615)(o:0<=x)(q:x<=18446744073709551615)(u:0<=y)(z:y<=18446744073709551615)(B:0<=a)(C:a<=18446744073709551615)(G:0<=b)(H:b<=18446744073709551615)(F:n≠0)(s p:Int)(c:(if a<b then b else a)=s)(l:n * x=p)(m:0<=p)(h:s+p<=18446744073709551615)(r t:Int)(D:IntKind.u64.wrap (n - 1)=r)(E:IntKind.u64.wrap (r * x)=t)(A:y<t) :
  Calls prog 196 #[ou d x y a f,.int .u64 b,.int .u64 n] w fun e w'=>
   e=.returned (.tuple #[ou d x y a f,Ov])/\B7 w w':=by
 by_cases i:a<b
 ·rw [if_pos i] at c;subst c;go_enter func196,ntmps196
  go_wp2_with (first | (go_at_call 213;refine (du _ _ _ _ _ _ _ p _ l j k o q (by omega) (by omega) m h).mono ?_;rintro e g ⟨rfl,rfl⟩))
  go_region_with (go_at_call 214;refine (dJ _ _).mono ?_;rintro e g ⟨rfl,rfl⟩)
  all_goals go_wp2
  all_goals exact bodyPost_ret (v:=.tuple #[ou d x y a f,Ov]) (by simp [results,results196,go_sem]) rfl ⟨rfl,(((((ba w).alloc (by simp <;> omega) _).alloc (by simp <;> omega) _).alloc (by simp <;> omega) _).alloc (by simp <;> omega) _).drew⟩
 ·rw [if_neg i] at c;subst c;go_enter func196,ntmps196
  go_wp2_with (first | (go_at_call 213;refine (du _ _ _ _ _ _ _ p _ l j k o q (by omega) (by omega) m h).mono ?_;rintro e g ⟨rfl,rfl⟩))
  go_region_with (go_at_call 214;refine (dJ _ _).mono ?_;rintro e g ⟨rfl,rfl⟩)
  all_goals go_wp2
  all_goals exact bodyPost_ret (v:=.tuple #[ou d x y a f,Ov]) (by simp [results,results196,go_sem]) rfl ⟨rfl,(((((ba w).alloc (by simp <;> omega) _).alloc (by simp <;> omega) _).alloc (by simp <;> omega) _).alloc (by simp <;> omega) _).drew⟩
theorem jcw (a x y:Int)(w:World)(b:Bool)(c:b=decide ((a=1/\1<=x)\/(a=2/\1<=y))) :
  Calls prog 177 #[ot a x y] w fun e w'=>e=.returned (.bool b)/\w'=w.alloc (Od a x y):=by
 by_cases d:a=1
 ·subst d;have e:b=decide (1<=x):=by rw [c];simp
  subst e;clear c;go_enter func177,ntmps177
  go_wp2
  go_ret
  exact⟨rfl,rfl⟩
 by_cases f:a=2
 ·subst f;have e:b=decide (1<=y):=by rw [c];simp
  subst e;clear c;go_enter func177,ntmps177
  go_wp2
  go_ret
  exact⟨rfl,rfl⟩
 have e:b=false:=by rw [c];simp [d,f]
 subst e;clear c;have g:(a==1)=false:=by simpa using d
 have h:(a==2)=false:=by simpa using f
 go_enter func177,ntmps177
 go_wp2
 go_ret
 exact⟨rfl,rfl⟩
theorem km (a x y:Int)(w:World)(b:(a=1/\1<=x)\/(a=2/\1<=y)) :
  Calls prog 161 #[ot a x y] w fun e w'=>e=.returned (.tuple #[.agg #[.int .u8 a,.int .u64 x,.int .u64 y,.int .u64 0,.int .u64 0],.bool true])/\B7 w w':=by
 go_enter func161,ntmps161
 go_wp2_with (go_at_call 177;refine (jcw _ _ _ _ true (by simpa using b)).mono ?_;rintro e w' ⟨rfl,rfl⟩)
 exact bodyPost_ret (v:=.tuple #[.agg #[.int .u8 a,.int .u64 x,.int .u64 y,.int .u64 0,.int .u64 0],.bool true]) (by simp [results,results161,go_sem]) rfl ⟨rfl,((ba w).alloc (by simp) _).alloc (by simp <;> omega) _⟩
theorem qQ (a x y:Int)(w:World)(b:¬((a=1/\1<=x)\/(a=2/\1<=y))) :
  Calls prog 161 #[ot a x y] w fun e w'=>e=.returned (.tuple #[Uf,.bool false])/\B7 w w':=by
 have c:=fun w=>jcw a x y w false (by simpa using b);clear b;go_enter func161,ntmps161
 go_wp2_with (go_at_call 177;refine (c _).mono ?_;rintro e w' ⟨rfl,rfl⟩)
 exact bodyPost_ret (v:=.tuple #[Uf,.bool false]) (by simp [results,results161,go_sem]) rfl ⟨rfl,((ba w).alloc (by simp) _).alloc (by simp <;> omega) _⟩
theorem jeN (a:Nat)(l m k i j adm:Value)(d c t:Int)(g:(if d<c then c else d)=t)(w:World)(f:w.heap[a]?=some (.cells #[l,m,.int .u64 d,k,i,j,adm] 139)) :
  Calls prog 67 #[pO a 2,.int .u64 c] w fun e w'=>e=.returned (.tuple #[])/\w'.heap[a]?=some (.cells #[l,m,.int .u64 t,k,i,j,adm] 139)/\ae (fun b=>b=a) w w':=by
 have n:=ab f;have o:=af f;by_cases h:d<c
 ·rw [if_pos h] at g;subst g;go_enter func67,ntmps67
  go_wp2
  go_end0
  exact⟨rfl,by simpa using ai f 2 (.int .u64 c),ae.set (S:=fun b=>b=a) (b:=a) (ae.refl _ w) (il rfl) _ _⟩
 ·rw [if_neg h] at g;subst g;go_enter func67,ntmps67
  go_wp2
  go_end0
  exact⟨rfl,by simpa using ai f 2 (.int .u64 d),ae.set (S:=fun b=>b=a) (b:=a) (ae.refl _ w) (il rfl) _ _⟩
theorem je7 (b:Nat)(h i g d f adm:Value)(a:Int)(w:World)(c:w.heap[b]?=some (.cells #[h,i,.int .u64 a,g,d,f,adm] 139)) :
  Calls prog 144 #[pO b 2] w fun e w'=>e=.returned (us a)/\B7 w w':=by
 have j:=cf c (og);go_enter func144,ntmps144
 go_wp2
 exact bodyPost_ret (v:=(us a)) (by simp [results,results144,go_sem]) rfl ⟨rfl,ba w⟩
theorem jdo (b:Nat)(h i j k l m:Value)(x n t:Int)(g:IntKind.u64.wrap (x+n)=t)(w:World)(c:w.heap[b]?=some (Uq h i j k l m x)) :
  Calls prog 96 #[pO b 6,.int .u64 n] w fun e w'=>e=.returned (.int .u64 t)/\w'=w.setCell ⟨b,6,none⟩ (.int .u64 t):=by
 have d:=ab c 6;have f:=af c 6;have o:=run_call_add (P:=prog) func125 (by kernel_rfl) (by kernel_rfl) (by kernel_rfl) .u64 (by kernel_rfl) (a:=⟨b,6,none⟩) (x:=x) (y:=n) (s:=t) d f (by rw [<-g];simp [go_sem]);go_enter func96,ntmps96
 go_wp2
 go_ret
 exact⟨rfl,rfl⟩
theorem jbj (b:Nat)(f g h i j k:Value)(x:Int)(w:World)(d:w.heap[b]?=some (Uq f g h i j k x)) :
  Calls prog 64 #[pO b 6] w fun e w'=>e=.returned (.int .u64 x)/\w'=w:=by
 have c:=ab d 6;have l:=run_call_load (P:=prog) func106 (by kernel_rfl) (by kernel_rfl) (by kernel_rfl) .u64 (by kernel_rfl) (a:=⟨b,6,none⟩) (x:=x) c;go_enter func64,ntmps64
 go_wp2
 go_ret
 exact⟨rfl,rfl⟩
theorem rI (a:Nat)(b c d f g h:Value)(x:Int)(w:World)(i:w.heap[a]?=some (Uq b c d f g h x)) :
  Calls prog 40 #[pO a 0] w fun e w'=>e=.returned (.int .u64 x)/\w'=w:=by
 go_enter func40,ntmps40
 go_wp2_with (go_at_call 64;refine (jbj a b c d f g h x _ i).mono ?_;rintro e w' ⟨rfl,rfl⟩)
 go_ret
 exact⟨rfl,rfl⟩
theorem nI (c:Nat)(f g h i j k:Value)(x n t a b:Int)(m:IntKind.u64.wrap (x+n)=t)(w:World)(d:w.heap[c]?=some (Uq f g h i j k x)) :
  Calls prog 140 #[pO c 0,.int .u64 n,Oi a b] w fun e w'=>e=.returned (Oi a b)/\w'.heap[c]?=some (Uq f g h i j k t)/\ae (fun b=>b=c) w w':=by
 have o:=an d;have l:=aC (aC d (.cells #[.int .u8 2,.int .u64 a,.int .u64 b] 51)) (og);go_enter func140,ntmps140
 go_wp2_with (go_at_call 96;refine (jdo c f g h i j k x n t m _ l).mono ?_;rintro e w' ⟨rfl,rfl⟩)
 exact bodyPost_ret (v:=(Oi a b)) (by simp [results,results140,go_sem]) rfl ⟨rfl,aC (aC (by simpa using ai d 6 (.int .u64 t)) _) _,((ae.set (S:=fun b=>b=c) (b:=c) (ae.refl _ w) (il rfl) _ _).alloc _).alloc _⟩
theorem lQ (d:Nat)(n c a b:Int)(f:(c==2)=false)(w:World) :
  Calls prog 140 #[pO d 0,.int .u64 n,ot c a b] w fun e w'=>e=.returned (ot c a b)/\B7 w w':=by
 go_enter func140,ntmps140
 go_wp2
 exact bodyPost_ret (v:=(ot c a b)) (by simp [results,results140,go_sem]) rfl ⟨rfl,(ba w).alloc (by simp) _⟩
end Go.Proofs.YtlcnkcgmjnfbiaaGreatDoor
