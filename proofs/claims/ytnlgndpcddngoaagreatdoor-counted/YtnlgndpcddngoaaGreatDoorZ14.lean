import Derived.Test.YtnlgndpcddngoaaGreatDoorZ00
import Derived.Conc.MuLone
import Derived.Shelf.Bits.Mul64
import Derived.Deep.RegionWith
import Derived.Laws.EntriesVeiled
import Derived.Laws.LoneSync
import Derived.Laws.Small
set_option linter.all false
set_option maxRecDepth 100000
set_option maxHeartbeats 1000000
namespace Go.Proofs.YtnlgndpcddngoaaGreatDoor
open Go.Proofs.Tryz Go.RowKit Go.MuLone
variable [dK] [iK]
abbrev jfx:Go.Conc.Locks.MuLink:={ lock:=45,unlock:=46,ilock:=70,iunlock:=71,lockSlow:=98,unlockSlow:=101,disable:=94,enable:=96,acquire:=97,relMerge:=99,cas32:=95,add32:=100,tMutex:=119,tIMutex:=117,tPMutex:=160,tPIMutex:=201,tPI32:=203,tUP:=178,tNoCopy:=114,tU32:=115 }
theorem jeY:Go.Conc.Locks.MuLib prog jfx:=
 ⟨func45,func46,func70,func71,func94,func96,func97,func99,func95,func100,underlying117,Tryz.runUnderlying117,sizeOf117,isAgg117,Tryz.zeroValue117,underlying119,Tryz.runUnderlying119,sizeOf119,isAgg119,Tryz.zeroValue119,underlying160,Tryz.runUnderlying160,sizeOf160,isAgg160,Tryz.zeroValue160,underlying201,Tryz.runUnderlying201,sizeOf201,isAgg201,Tryz.zeroValue201,underlying203,Tryz.runUnderlying203,sizeOf203,isAgg203,Tryz.zeroValue203,underlying178,Tryz.runUnderlying178,sizeOf178,isAgg178,Tryz.zeroValue178,underlying114,Tryz.runUnderlying114,sizeOf114,isAgg114,Tryz.zeroValue114,underlying21,Tryz.runUnderlying21,sizeOf21,isAgg21,Tryz.zeroValue21,(by kernel_rfl)⟩
theorem jcb (a:Addr)(w:World)(b:w.cell? a=some (.int .i32 0))(c:w.frozen? a=false) :
  Calls prog 45 #[.pointer (some a)] w fun e w'=>e=.returned (.tuple #[])/\w'=w.setCell a (.int .i32 1):=
 lock_free jeY a w b c
theorem pV (a:Addr)(u:FrameMode)(w:World)(b:w.cell? a=some (.int .i32 1))(c:w.frozen? a=false) :
  CallsD prog 46 #[.pointer (some a)] u w fun e d w'=>d=u/\(e=.returned (.tuple #[])/\w'=w.setCell a (.int .i32 0)):=
 unlock_deferred jeY a u w b c
end Go.Proofs.YtnlgndpcddngoaaGreatDoor
namespace Go.Proofs.YtnlgndpcddngoaaGreatDoor
open Go.Proofs.Tryz Go.RowKit
variable [dK] [iK]
def jcc:ByteArray:=⟨#[108,101,100,103,101,114,46,48]⟩
def jcd:ByteArray:=⟨#[108,101,100,103,101,114,46,49]⟩
def ay (b:Bool):ByteArray:=if b then jcd else jcc
theorem jfQ (w:World):Calls prog 198 #[.int .i64 0] w fun e w'=>e=.returned (.string ⟨#[48]⟩)/\w'=w:=by
 go_enter func198,ntmps198
 go_wp2
 go_ret
 exact⟨rfl,rfl⟩
theorem jfR (w:World):Calls prog 198 #[.int .i64 1] w fun e w'=>e=.returned (.string ⟨#[49]⟩)/\w'=w:=by
 go_enter func198,ntmps198
 go_wp2
 go_ret
 exact⟨rfl,rfl⟩
theorem fmt0 (w:World):Calls prog 168 #[.int .u64 0,.int .i64 10] w fun e w'=>e=.returned (.string ⟨#[48]⟩)/\w'=w:=by
 go_enter func168,ntmps168
 go_wp2_with (first | (go_at_call 198;refine (jfQ _).mono ?_;rintro e w' ⟨rfl,rfl⟩) | (go_at_call 185;go_in))
 go_ret
 exact⟨rfl,rfl⟩
theorem fmt1 (w:World):Calls prog 168 #[.int .u64 1,.int .i64 10] w fun e w'=>e=.returned (.string ⟨#[49]⟩)/\w'=w:=by
 go_enter func168,ntmps168
 go_wp2_with (first | (go_at_call 198;refine (jfR _).mono ?_;rintro e w' ⟨rfl,rfl⟩) | (go_at_call 185;go_in))
 go_ret
 exact⟨rfl,rfl⟩
theorem cK (t:Int)(w:World)(c:0<=t)(d:t<=18446744073709551615):Calls prog 147 #[.int .u64 t] w fun e w'=>e=.returned (.string (ay (t % 2==1)))/\w'=w:=by
 have b:t.tmod 2=t % 2:=Int.tmod_eq_emod_of_nonneg c;rcases Int.emod_two_eq t with a | a
 ·have e:ay (t % 2==1)=jcc:=by rw [a];rfl
  rw [e];rw [a] at b;clear e;go_enter func147,ntmps147
  go_wp2_with (go_at_call 168;refine (fmt0 _).mono ?_;rintro e w' ⟨rfl,rfl⟩)
  go_ret
  exact⟨rfl,rfl⟩
 ·have e:ay (t % 2==1)=jcd:=by rw [a];rfl
  rw [e];rw [a] at b;clear e;go_enter func147,ntmps147
  go_wp2_with (go_at_call 168;refine (fmt1 _).mono ?_;rintro e w' ⟨rfl,rfl⟩)
  go_ret
  exact⟨rfl,rfl⟩
end Go.Proofs.YtnlgndpcddngoaaGreatDoor
namespace Go.Proofs.YtnlgndpcddngoaaGreatDoor
open Go.Proofs.Tryz Go.RowKit Go.Lib Go.Shelf
variable [dK] [iK]
namespace Mul
def ren:Go.Shelf.Ren:=⟨fun _=>224,fun a=>if a=46 then 257 else 23,fun a=>a⟩
theorem lays:Lays.n264 prog ren where
 mixed:=by first | exact Tryz.mixed | kernel_rfl | decide
 f264:=by kernel_rfl
 t46:=by first | exact underlying257 | kernel_rfl
 a46:=by first | exact isAgg257 | (intro a;kernel_rfl)
 z46:=by first | exact sizeOf257 | (intro a;kernel_rfl)
 v46:=by first | exact Tryz.zeroValue257 | (intro a;kernel_rfl)
 t53:=by first | exact underlying23 | kernel_rfl
 a53:=by first | exact isAgg23 | (intro a;kernel_rfl)
 z53:=by first | exact sizeOf23 | (intro a;kernel_rfl)
 v53:=by first | exact Tryz.zeroValue23 | (intro a;kernel_rfl)
end Mul
theorem nj (x y:Nat)(a:x<18446744073709551616)(b:y<18446744073709551616)(w:World) :
  Calls prog 224 #[.int .u64 x,.int .u64 y] w fun e w'=>e=.returned (.tuple #[.int .u64 ((x * y / 18446744073709551616:Nat):Int),.int .u64 ((x * y % 18446744073709551616:Nat):Int)])/\w'=w:=
 Any.bits_Mul64 Mul.lays x y a b w
theorem iZ (a b:Int)(w:World)(i:0<=a)(j:0<=b)(l:a<=18446744073709551615)(m:b<=18446744073709551615)(p:Int)(g:a * b=p)(k:p<=18446744073709551615) :
  Calls prog 205 #[.int .u64 a,.int .u64 b] w fun e w'=>e=.returned (.tuple #[.int .u64 p,.bool true])/\w'=w:=by
 obtain⟨c,rfl⟩:=Int.eq_ofNat_of_zero_le i;obtain⟨d,rfl⟩:=Int.eq_ofNat_of_zero_le j;have f:=nj c d (by omega) (by omega) w;have h:((c * d:Nat):Int)=p:=by rw [<-g];exact Int.natCast_mul c d
 generalize c * d=z at f h;subst h;clear g;rw [Nat.div_eq_of_lt (by omega),Nat.mod_eq_of_lt (by omega)] at f;go_enter func205,ntmps205
 go_wp2_with (go_at_call 224;refine f.mono ?_;rintro e w' ⟨rfl,rfl⟩)
 go_ret2
 exact⟨rfl,rfl⟩
theorem pI (a b:Int)(w:World)(k:0<=a)(l:0<=b)(o:a<=18446744073709551615)(r:b<=18446744073709551615)(p:Int)(h:a * b=p)(j:18446744073709551615<p) :
  Calls prog 205 #[.int .u64 a,.int .u64 b] w fun e w'=>e=.returned (.tuple #[.int .u64 0,.bool false])/\w'=w:=by
 obtain⟨c,rfl⟩:=Int.eq_ofNat_of_zero_le k;obtain⟨d,rfl⟩:=Int.eq_ofNat_of_zero_le l;have f:=nj c d (by omega) (by omega) w;have i:((c * d:Nat):Int)=p:=by rw [<-h];exact Int.natCast_mul c d
 generalize c * d=z at f i;subst i;clear h;have g:0<z / 18446744073709551616:=Nat.div_pos (by omega) (by omega);generalize z / 18446744073709551616=q at f g;have n:¬((q:Int)=0):=by omega
 have m:((q:Int) != 0)=true:=by simp;omega
 clear g j;go_enter func205,ntmps205
 go_wp2_with (go_at_call 224;refine f.mono ?_;rintro e w' ⟨rfl,rfl⟩)
 go_ret2
 exact⟨rfl,rfl⟩
end Go.Proofs.YtnlgndpcddngoaaGreatDoor
namespace Go.Proofs.YtnlgndpcddngoaaGreatDoor
open Go.Proofs.Tryz Go.RowKit
variable [dK] [iK]
theorem lH (d x y a b c:Int)(w:World) :
  Calls prog 158 #[ou d x y a b,.int .u8 c] w fun e w'=>e=.returned (ot c a b)/\w'=(w.alloc (OA d x y a b)).alloc (oI c a b):=by
 go_enter func158,ntmps158
 go_wp2
 exact bodyPost_ret (v:=(ot c a b)) (by simp [results,results158,go_sem]) rfl ⟨rfl,rfl⟩
theorem dI (u:Int)(w:World) :
  Calls prog 189 #[.int .u64 u] w fun e w'=>e=.returned (ON u)/\w'=w.alloc (.cells #[.int .u8 3,.int .u64 u,.int .u64 0] 40):=by
 go_enter func189,ntmps189
 go_wp2
 exact bodyPost_ret (v:=(ON u)) (by simp [results,results189,go_sem]) rfl ⟨rfl,rfl⟩
theorem rg (a x y b c d:Int)(w:World) :
  Calls prog 174 #[ou a x y b c,.int .u64 d] w fun e w'=>e=.returned (ou a x y b c)/\w'=(w.alloc (OA a x y b c)).alloc (OA a x y b c):=by
 go_enter func174,ntmps174
 go_wp2
 exact bodyPost_ret (v:=(ou a x y b c)) (by simp [results,results174,go_sem]) rfl ⟨rfl,rfl⟩
theorem jz (b x y c a d:Int)(w:World)(h:y≠0)(f:IntKind.u64.wrap (d.tdiv y)=a) :
  Calls prog 177 #[ou b x y c a,.int .u64 d] w fun e w'=>e=.returned (ou b x y c a)/\w'=(w.alloc (OA b x y c a)).alloc (OA b x y c a):=by
 have g:(a != a)=false:=by simp
 go_enter func177,ntmps177
 go_wp2
 exact bodyPost_ret (v:=(ou b x y c a)) (by simp [results,results177,go_sem]) rfl ⟨rfl,rfl⟩
theorem jV (a x y f c b d:Int)(w:World)(i:y≠0)(g:IntKind.u64.wrap (b.tdiv y)=d)(h:(d != c)=true) :
  Calls prog 177 #[ou a x y f c,.int .u64 b] w fun e w'=>e=.returned (.agg #[.int .u8 a,.int .u64 x,.int .u64 y,.int .u64 0,.int .u64 d])/\w'=(w.alloc (.cells #[.int .u8 a,.int .u64 x,.int .u64 y,.int .u64 0,.int .u64 d] 173)).alloc (.cells #[.int .u8 a,.int .u64 x,.int .u64 y,.int .u64 0,.int .u64 d] 173):=by
 go_enter func177,ntmps177
 go_wp2
 exact bodyPost_ret (v:=.agg #[.int .u8 a,.int .u64 x,.int .u64 y,.int .u64 0,.int .u64 d]) (by simp [results,results177,go_sem]) rfl ⟨rfl,rfl⟩
theorem jQ (a x y b c n:Int)(w:World)(d:x<n) :
  Calls prog 192 #[ou a x y b c,.int .u64 n] w fun e w'=>e=.returned (.int .u64 18446744073709551615)/\w'=w.alloc (OA a x y b c):=by
 go_enter func192,ntmps192
 go_wp2
 go_ret
 exact⟨rfl,rfl⟩
theorem lG (b x y c a n p:Int)(w:World)(i:n<=x)(j:IntKind.u64.wrap (a * y)=p)(d:0<=p)(f:p<=18446744073709551615)(g:0<=y)(h:y<=18446744073709551615) :
  Calls prog 192 #[ou b x y c a,.int .u64 n] w fun e w'=>e=.returned (.int .u64 (al (p+y)))/\w'=w.alloc (OA b x y c a):=by
 go_enter func192,ntmps192
 go_wp2_with (go_at_call 190;refine (dB p y _ d g f h).mono ?_;rintro e w' ⟨rfl,rfl⟩)
 go_ret
 exact⟨rfl,rfl⟩
theorem dr (a x y b c s n p:Int)(w:World)(h:n * x=p)(f:0<=n)(g:n<=18446744073709551615)(k:0<=x)(l:x<=18446744073709551615)(j:0<=s)(m:s<=18446744073709551615)(i:0<=p)(d:s+p<=18446744073709551615) :
  Calls prog 188 #[ou a x y b c,.int .u64 s,.int .u64 n] w fun e w'=>e=.returned (.tuple #[.int .u64 (s+p),.bool true])/\w'=w.alloc (OA a x y b c):=by
 go_enter func188,ntmps188
 go_wp2_with (first | (go_at_call 205;refine (iZ n x _ f k g l p h (by omega)).mono ?_;rintro e w' ⟨rfl,rfl⟩) | (go_at_call 191;refine (gJ s p _ j i d).mono ?_;rintro e w' ⟨rfl,rfl⟩))
 go_ret2
 exact⟨rfl,rfl⟩
theorem jP (g x y h i s n p:Int)(w:World)(c:n * x=p)(a:0<=n)(b:n<=18446744073709551615)(d:0<=x)(f:x<=18446744073709551615)(m:0<=s)(o:s<=18446744073709551615)(l:0<=p)(j:18446744073709551615<s+p) :
  Calls prog 188 #[ou g x y h i,.int .u64 s,.int .u64 n] w fun e w'=>e=.returned (.tuple #[.int .u64 0,.bool false])/\w'=w.alloc (OA g x y h i):=by
 by_cases k:p<=18446744073709551615
 ·go_enter func188,ntmps188
  go_wp2_with (first | (go_at_call 205;refine (iZ n x _ a d b f p c (by omega)).mono ?_;rintro e w' ⟨rfl,rfl⟩) | (go_at_call 191;refine (jg s p _ m l o k j).mono ?_;rintro e w' ⟨rfl,rfl⟩))
  go_ret2
  exact⟨rfl,rfl⟩
 ·go_enter func188,ntmps188
  go_wp2_with (go_at_call 205;refine (pI n x _ a d b f p c (by omega)).mono ?_;rintro e w' ⟨rfl,rfl⟩)
  go_ret2
  exact⟨rfl,rfl⟩
theorem gP (w:World) :
  Calls prog 157 #[] w fun e w'=>e=.returned (oN)/\w'=w.alloc (oA):=by
 go_enter func157,ntmps157
 go_wp2
 exact bodyPost_ret (v:=oN) (by simp [results,results157,go_sem]) rfl ⟨rfl,rfl⟩
theorem tz (c x y a b f n:Int)(w:World)(d:n=0) :
  Calls prog 175 #[ou c x y a b,.int .u64 f,.int .u64 n] w fun e w'=>
   e=.returned (.tuple #[ou c x y a b,Oi a b])/\B7 w w':=by
 subst d;go_enter func175,ntmps175
 go_wp2
 go_region_with (go_at_call 158;refine (lH _ _ _ _ _ _ _).mono ?_;rintro e g ⟨rfl,rfl⟩)
 all_goals go_wp2
 all_goals exact bodyPost_ret (v:=.tuple #[ou c x y a b,Oi a b]) (by simp [results,results175,go_sem]) rfl ⟨rfl,(((((ba w).alloc (by simp <;> omega) _).alloc (by simp <;> omega) _).alloc (by simp <;> omega) _).alloc (by simp <;> omega) _).drew⟩
theorem tv (d x y a f b n:Int)(w:World)(j:0<=n)(k:n<=18446744073709551615)(o:0<=x)(q:x<=18446744073709551615)(r:0<=y)(t:y<=18446744073709551615)(u:0<=a)(z:a<=18446744073709551615)(B:0<=b)(C:b<=18446744073709551615)(A:n≠0)(s p:Int)(c:(if a<b then b else a)=s)(l:n * x=p)(m:0<=p)(h:18446744073709551615<s+p) :
  Calls prog 175 #[ou d x y a f,.int .u64 b,.int .u64 n] w fun e w'=>
   e=.returned (.tuple #[ou d x y a f,Ov])/\B7 w w':=by
 by_cases i:a<b
 ·rw [if_pos i] at c;subst c;go_enter func175,ntmps175
  go_wp2_with (first | (go_at_call 188;refine (jP _ _ _ _ _ _ _ p _ l j k o q (by omega) (by omega) m h).mono ?_;rintro e g ⟨rfl,rfl⟩))
  go_region_with (go_at_call 189;refine (dI _ _).mono ?_;rintro e g ⟨rfl,rfl⟩)
  all_goals go_wp2
  all_goals exact bodyPost_ret (v:=.tuple #[ou d x y a f,Ov]) (by simp [results,results175,go_sem]) rfl ⟨rfl,(((((ba w).alloc (by simp <;> omega) _).alloc (by simp <;> omega) _).alloc (by simp <;> omega) _).alloc (by simp <;> omega) _).drew⟩
 ·rw [if_neg i] at c;subst c;go_enter func175,ntmps175
  go_wp2_with (first | (go_at_call 188;refine (jP _ _ _ _ _ _ _ p _ l j k o q (by omega) (by omega) m h).mono ?_;rintro e g ⟨rfl,rfl⟩))
  go_region_with (go_at_call 189;refine (dI _ _).mono ?_;rintro e g ⟨rfl,rfl⟩)
  all_goals go_wp2
  all_goals exact bodyPost_ret (v:=.tuple #[ou d x y a f,Ov]) (by simp [results,results175,go_sem]) rfl ⟨rfl,(((((ba w).alloc (by simp <;> omega) _).alloc (by simp <;> omega) _).alloc (by simp <;> omega) _).alloc (by simp <;> omega) _).drew⟩
theorem jaE (d x y a f b n:Int)(w:World)(j:0<=n)(k:n<=18446744073709551615)(o:0<=x)(q:x<=18446744073709551615)(u:0<=y)(z:y<=18446744073709551615)(B:0<=a)(C:a<=18446744073709551615)(G:0<=b)(H:b<=18446744073709551615)(F:n≠0)(s p:Int)(c:(if a<b then b else a)=s)(l:n * x=p)(m:0<=p)(h:s+p<=18446744073709551615)(r t:Int)(D:IntKind.u64.wrap (n - 1)=r)(E:IntKind.u64.wrap (r * x)=t)(A:y<t) :
  Calls prog 175 #[ou d x y a f,.int .u64 b,.int .u64 n] w fun e w'=>
   e=.returned (.tuple #[ou d x y a f,Ov])/\B7 w w':=by
 by_cases i:a<b
 ·rw [if_pos i] at c;subst c;go_enter func175,ntmps175
  go_wp2_with (first | (go_at_call 188;refine (dr _ _ _ _ _ _ _ p _ l j k o q (by omega) (by omega) m h).mono ?_;rintro e g ⟨rfl,rfl⟩))
  go_region_with (go_at_call 189;refine (dI _ _).mono ?_;rintro e g ⟨rfl,rfl⟩)
  all_goals go_wp2
  all_goals exact bodyPost_ret (v:=.tuple #[ou d x y a f,Ov]) (by simp [results,results175,go_sem]) rfl ⟨rfl,(((((ba w).alloc (by simp <;> omega) _).alloc (by simp <;> omega) _).alloc (by simp <;> omega) _).alloc (by simp <;> omega) _).drew⟩
 ·rw [if_neg i] at c;subst c;go_enter func175,ntmps175
  go_wp2_with (first | (go_at_call 188;refine (dr _ _ _ _ _ _ _ p _ l j k o q (by omega) (by omega) m h).mono ?_;rintro e g ⟨rfl,rfl⟩))
  go_region_with (go_at_call 189;refine (dI _ _).mono ?_;rintro e g ⟨rfl,rfl⟩)
  all_goals go_wp2
  all_goals exact bodyPost_ret (v:=.tuple #[ou d x y a f,Ov]) (by simp [results,results175,go_sem]) rfl ⟨rfl,(((((ba w).alloc (by simp <;> omega) _).alloc (by simp <;> omega) _).alloc (by simp <;> omega) _).alloc (by simp <;> omega) _).drew⟩
theorem jcw (a x y:Int)(w:World)(b:Bool)(c:b=decide ((a=1/\1<=x)\/(a=2/\1<=y))) :
  Calls prog 153 #[ot a x y] w fun e w'=>e=.returned (.bool b)/\w'=w.alloc (Od a x y):=by
 by_cases d:a=1
 ·subst d;have e:b=decide (1<=x):=by rw [c];simp
  subst e;clear c;go_enter func153,ntmps153
  go_wp2
  go_ret
  exact⟨rfl,rfl⟩
 by_cases f:a=2
 ·subst f;have e:b=decide (1<=y):=by rw [c];simp
  subst e;clear c;go_enter func153,ntmps153
  go_wp2
  go_ret
  exact⟨rfl,rfl⟩
 have e:b=false:=by rw [c];simp [d,f]
 subst e;clear c;have g:(a==1)=false:=by simpa using d
 have h:(a==2)=false:=by simpa using f
 go_enter func153,ntmps153
 go_wp2
 go_ret
 exact⟨rfl,rfl⟩
theorem km (a x y:Int)(w:World)(b:(a=1/\1<=x)\/(a=2/\1<=y)) :
  Calls prog 133 #[ot a x y] w fun e w'=>e=.returned (.tuple #[.agg #[.int .u8 a,.int .u64 x,.int .u64 y,.int .u64 0,.int .u64 0],.bool true])/\B7 w w':=by
 go_enter func133,ntmps133
 go_wp2_with (go_at_call 153;refine (jcw _ _ _ _ true (by simpa using b)).mono ?_;rintro e w' ⟨rfl,rfl⟩)
 exact bodyPost_ret (v:=.tuple #[.agg #[.int .u8 a,.int .u64 x,.int .u64 y,.int .u64 0,.int .u64 0],.bool true]) (by simp [results,results133,go_sem]) rfl ⟨rfl,((ba w).alloc (by simp) _).alloc (by simp <;> omega) _⟩
theorem rd (a x y:Int)(w:World)(b:¬((a=1/\1<=x)\/(a=2/\1<=y))) :
  Calls prog 133 #[ot a x y] w fun e w'=>e=.returned (.tuple #[Uf,.bool false])/\B7 w w':=by
 have c:=fun w=>jcw a x y w false (by simpa using b);clear b;go_enter func133,ntmps133
 go_wp2_with (go_at_call 153;refine (c _).mono ?_;rintro e w' ⟨rfl,rfl⟩)
 exact bodyPost_ret (v:=.tuple #[Uf,.bool false]) (by simp [results,results133,go_sem]) rfl ⟨rfl,((ba w).alloc (by simp) _).alloc (by simp <;> omega) _⟩
theorem jeQ (a:Nat)(l m k i j adm:Value)(d c t:Int)(g:(if d<c then c else d)=t)(w:World)(f:w.heap[a]?=some (.cells #[l,m,.int .u64 d,k,i,j,adm] 130)) :
  Calls prog 47 #[pO a 2,.int .u64 c] w fun e w'=>e=.returned (.tuple #[])/\w'.heap[a]?=some (.cells #[l,m,.int .u64 t,k,i,j,adm] 130)/\ae (fun b=>b=a) w w':=by
 have n:=ab f;have o:=ag f;by_cases h:d<c
 ·rw [if_pos h] at g;subst g;go_enter func47,ntmps47
  go_wp2
  go_end0
  exact⟨rfl,by simpa using ai f 2 (.int .u64 c),ae.set (S:=fun b=>b=a) (b:=a) (ae.refl _ w) (il rfl) _ _⟩
 ·rw [if_neg h] at g;subst g;go_enter func47,ntmps47
  go_wp2
  go_end0
  exact⟨rfl,by simpa using ai f 2 (.int .u64 d),ae.set (S:=fun b=>b=a) (b:=a) (ae.refl _ w) (il rfl) _ _⟩
theorem jfa (b:Nat)(h i g d f adm:Value)(a:Int)(w:World)(c:w.heap[b]?=some (.cells #[h,i,.int .u64 a,g,d,f,adm] 130)) :
  Calls prog 114 #[pO b 2] w fun e w'=>e=.returned (us a)/\B7 w w':=by
 have j:=ce c (og);go_enter func114,ntmps114
 go_wp2
 exact bodyPost_ret (v:=(us a)) (by simp [results,results114,go_sem]) rfl ⟨rfl,ba w⟩
theorem jdl (b:Nat)(h i j k l m:Value)(x n t:Int)(g:IntKind.u64.wrap (x+n)=t)(w:World)(c:w.heap[b]?=some (Uq h i j k l m x)) :
  Calls prog 136 #[pO b 6,.int .u64 n] w fun e w'=>e=.returned (.int .u64 t)/\w'=w.setCell ⟨b,6,none⟩ (.int .u64 t):=by
 have d:=ab c 6;have f:=ag c 6;have o:=run_call_add (P:=prog) func156 (by kernel_rfl) (by kernel_rfl) (by kernel_rfl) .u64 (by kernel_rfl) (a:=⟨b,6,none⟩) (x:=x) (y:=n) (s:=t) d f (by rw [<-g];simp [go_sem]);go_enter func136,ntmps136
 go_wp2
 go_ret
 exact⟨rfl,rfl⟩
theorem jbk (b:Nat)(f g h i j k:Value)(x:Int)(w:World)(d:w.heap[b]?=some (Uq f g h i j k x)) :
  Calls prog 88 #[pO b 6] w fun e w'=>e=.returned (.int .u64 x)/\w'=w:=by
 have c:=ab d 6;have l:=run_call_load (P:=prog) func121 (by kernel_rfl) (by kernel_rfl) (by kernel_rfl) .u64 (by kernel_rfl) (a:=⟨b,6,none⟩) (x:=x) c;go_enter func88,ntmps88
 go_wp2
 go_ret
 exact⟨rfl,rfl⟩
theorem rQ (a:Nat)(b c d f g h:Value)(x:Int)(w:World)(i:w.heap[a]?=some (Uq b c d f g h x)) :
  Calls prog 58 #[pO a 0] w fun e w'=>e=.returned (.int .u64 x)/\w'=w:=by
 go_enter func58,ntmps58
 go_wp2_with (go_at_call 88;refine (jbk a b c d f g h x _ i).mono ?_;rintro e w' ⟨rfl,rfl⟩)
 go_ret
 exact⟨rfl,rfl⟩
theorem nM (c:Nat)(f g h i j k:Value)(x n t a b:Int)(m:IntKind.u64.wrap (x+n)=t)(w:World)(d:w.heap[c]?=some (Uq f g h i j k x)) :
  Calls prog 110 #[pO c 0,.int .u64 n,Oi a b] w fun e w'=>e=.returned (Oi a b)/\w'.heap[c]?=some (Uq f g h i j k t)/\ae (fun b=>b=c) w w':=by
 have o:=am d;have l:=aB (aB d (.cells #[.int .u8 2,.int .u64 a,.int .u64 b] 40)) (og);go_enter func110,ntmps110
 go_wp2_with (go_at_call 136;refine (jdl c f g h i j k x n t m _ l).mono ?_;rintro e w' ⟨rfl,rfl⟩)
 exact bodyPost_ret (v:=(Oi a b)) (by simp [results,results110,go_sem]) rfl ⟨rfl,aB (aB (by simpa using ai d 6 (.int .u64 t)) _) _,((ae.set (S:=fun b=>b=c) (b:=c) (ae.refl _ w) (il rfl) _ _).alloc _).alloc _⟩
theorem lR (d:Nat)(n c a b:Int)(f:(c==2)=false)(w:World) :
  Calls prog 110 #[pO d 0,.int .u64 n,ot c a b] w fun e w'=>e=.returned (ot c a b)/\B7 w w':=by
 go_enter func110,ntmps110
 go_wp2
 exact bodyPost_ret (v:=(ot c a b)) (by simp [results,results110,go_sem]) rfl ⟨rfl,(ba w).alloc (by simp) _⟩
end Go.Proofs.YtnlgndpcddngoaaGreatDoor
