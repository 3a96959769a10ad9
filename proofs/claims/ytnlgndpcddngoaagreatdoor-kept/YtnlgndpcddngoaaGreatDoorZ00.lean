import Derived.Test.YtnlgndpcddngoaaGreatDoorProg
import Derived.WalkKit
import Derived.Below
import Derived.WalkSpells
import Derived.WalkLawsBesides
import Derived.Laws.CopyOwn
import Derived.BigQuiet
import Derived.Deep.QuietTactic
import Derived.Deep.RegionLaw
import Derived.BigRegion
import Derived.RegionTactic
import Derived.Laws.Externs
import Derived.Deep.WholeRow
set_option linter.all false
set_option maxRecDepth 100000
set_option maxHeartbeats 1000000
namespace Go.Proofs.YtnlgndpcddngoaaGreatDoor
open Go.Proofs.Tryz Go.RowKit
structure Ky where
 k0:Int
 k1:Int
 k2:Int
 k3:Int
 k4:Int
 k5:Int
 k6:Int
 k7:Int
structure Rq where
 op:Int
 k0:Int
 k1:Int
 k2:Int
 k3:Int
 k4:Int
 k5:Int
 k6:Int
 k7:Int
 kd:Int
 x:Int
 y:Int
 n:Int
structure Qt where
 kd:Int
 x:Int
 y:Int
 lv:Int
 wn:Int
structure Ln where
 k:Ky
 kd:Int
 x:Int
 y:Int
 at_:Int
 in_:Int
abbrev dK:=DecidableEq Ky
abbrev iK:=Inhabited Ky
abbrev od:Obj:=.cells #[.int .u8 0,.int .u64 0,.int .u64 0,.int .u64 0,.int .u64 0,.int .u8 0,.int .u64 0,.int .u64 0,.int .u64 0,.int .u64 0] 177
abbrev oe (a b:Qt):Obj:=.cells #[.int .u8 a.kd,.int .u64 a.x,.int .u64 a.y,.int .u64 a.lv,.int .u64 a.wn,.int .u8 b.kd,.int .u64 b.x,.int .u64 b.y,.int .u64 b.lv,.int .u64 b.wn] 177
abbrev og:Obj:=.cells #[.int .u8 0,.int .u64 0,.int .u64 0] 40
abbrev oh (a:Rq):Obj:=.cells #[.int .u8 a.op,.int .u8 a.k0,.int .u8 a.k1,.int .u8 a.k2,.int .u8 a.k3,.int .u8 a.k4,.int .u8 a.k5,.int .u8 a.k6,.int .u8 a.k7,.int .u8 a.kd,.int .u64 a.x,.int .u64 a.y,.int .u64 a.n] 65
abbrev oj (a:Rq):Value:=.agg #[.int .u8 a.op,.int .u8 a.k0,.int .u8 a.k1,.int .u8 a.k2,.int .u8 a.k3,.int .u8 a.k4,.int .u8 a.k5,.int .u8 a.k6,.int .u8 a.k7,.int .u8 a.kd,.int .u64 a.x,.int .u64 a.y,.int .u64 a.n]
abbrev ol (a:Ky):Obj:=.cells #[.int .u8 a.k0,.int .u8 a.k1,.int .u8 a.k2,.int .u8 a.k3,.int .u8 a.k4,.int .u8 a.k5,.int .u8 a.k6,.int .u8 a.k7] 63
abbrev om (a:Ky):Value:=.agg #[.int .u8 a.k0,.int .u8 a.k1,.int .u8 a.k2,.int .u8 a.k3,.int .u8 a.k4,.int .u8 a.k5,.int .u8 a.k6,.int .u8 a.k7]
abbrev oq:Obj:=.cells #[.int .u8 0,.int .u64 0,.int .u64 0,.int .u64 0,.int .u64 0] 173
abbrev ot (a b c:Int):Value:=.agg #[.int .u8 a,.int .u64 b,.int .u64 c]
abbrev ou (a b c d e:Int):Value:=.agg #[.int .u8 a,.int .u64 b,.int .u64 c,.int .u64 d,.int .u64 e]
abbrev ow:Obj:=.cells #[.int .u8 0,.int .u8 0,.int .u8 0,.int .u8 0,.int .u8 0,.int .u8 0,.int .u8 0,.int .u8 0] 63
abbrev ox (a b:Nat)(c d:Int):Obj:=.cells #[.map (some a),.map (some b),.slice none 0 0,.int .i64 c,.int .i64 d,.bool false] 88
abbrev oy (a:Ln):Obj:=.cells #[.int .u8 a.k.k0,.int .u8 a.k.k1,.int .u8 a.k.k2,.int .u8 a.k.k3,.int .u8 a.k.k4,.int .u8 a.k.k5,.int .u8 a.k.k6,.int .u8 a.k.k7,.int .u8 a.kd,.int .u64 a.x,.int .u64 a.y,.int .u64 a.at_,.int .u64 a.in_] 151
abbrev oz:Value:=.agg #[.int .u8 0,.int .u8 0,.int .u8 0,.int .u8 0,.int .u8 0,.int .u8 0,.int .u8 0,.int .u8 0,.int .u8 0,.int .u8 0,.int .u64 0,.int .u64 0,.int .u64 0]
abbrev oA:Obj:=.cells #[.nilFunc,.nilFunc,.nilFunc,.func (.func 174) #[] #[],.func (.func 175) #[] #[],.func (.func 176) #[] #[],.func (.func 177) #[] #[],.func (.func 178) #[] #[],.func (.func 179) #[] #[]] 300
abbrev oB (a b:Nat):Obj:=.cells #[.map (some a),.map (some b),.slice none 0 0,.int .i64 (-1),.int .i64 (-1),.bool false] 88
abbrev oC (a:Ln):Value:=.agg #[.int .u8 a.k.k0,.int .u8 a.k.k1,.int .u8 a.k.k2,.int .u8 a.k.k3,.int .u8 a.k.k4,.int .u8 a.k.k5,.int .u8 a.k.k6,.int .u8 a.k.k7,.int .u8 a.kd,.int .u64 a.x,.int .u64 a.y,.int .u64 a.at_,.int .u64 a.in_]
abbrev oD (a:Qt):Value:=.agg #[.int .u8 a.kd,.int .u64 a.x,.int .u64 a.y,.int .u64 a.lv,.int .u64 a.wn]
abbrev oE (a b c d e f g h:Int):Value:=.agg #[.int .u8 a,.int .u8 b,.int .u8 c,.int .u8 d,.int .u8 e,.int .u8 f,.int .u8 g,.int .u8 h]
abbrev oF (a b:Value)(c d:Int)(e:Nat)(f g:Value):Obj:=.cells #[a,b,.int .u64 c,.int .u64 d,.map (some e),f,g] 130
abbrev oG:Obj:=.cells #[.int .u64 0,.int .u64 0,.slice none 0 0] 169
abbrev oH (a:Qt):Obj:=.cells #[.int .u8 a.kd,.int .u64 a.x,.int .u64 a.y,.int .u64 a.lv,.int .u64 a.wn] 173
abbrev oI (a b c:Int):Obj:=.cells #[.int .u8 a,.int .u64 b,.int .u64 c] 40
abbrev oJ (a b c:Int)(d:Value)(e:ByteArray)(f g h i j:Int):Obj:=.cells #[.int .i64 a,.int .i64 b,.int .u64 c,d,.string e,.int .i64 f,.int .i64 g,.int .i64 h,.int .i64 i,.int .i64 j] 69
abbrev oK:Obj:=.cells #[.int .u8 0,.int .u8 0,.int .u8 0,.int .u8 0,.int .u8 0,.int .u8 0,.int .u8 0,.int .u8 0] 322
abbrev oL (a b:Qt):Value:=.agg #[.int .u8 a.kd,.int .u64 a.x,.int .u64 a.y,.int .u64 a.lv,.int .u64 a.wn,.int .u8 b.kd,.int .u64 b.x,.int .u64 b.y,.int .u64 b.lv,.int .u64 b.wn]
abbrev oM:Obj:=.cells #[.int .u8 0,.int .u8 0,.int .u8 0,.int .u8 0,.int .u8 0,.int .u8 0,.int .u8 0,.int .u8 0,.int .u8 0,.int .u8 0,.int .u64 0,.int .u64 0,.int .u64 0] 65
abbrev oN:Value:=.agg #[.nilFunc,.nilFunc,.nilFunc,.func (.func 174) #[] #[],.func (.func 175) #[] #[],.func (.func 176) #[] #[],.func (.func 177) #[] #[],.func (.func 178) #[] #[],.func (.func 179) #[] #[]]
abbrev oO (a b:Nat)(c:Int):Obj:=.cells #[.pointer (some ⟨a,0,none⟩),.pointer (some ⟨b,0,none⟩),.slice none 0 0,.int .u64 c] 82
abbrev oP:Value:=.agg #[.int .u8 0,.int .u64 0,.int .u64 0]
abbrev oQ (a b c d e f g h i j:Int):Obj:=.cells #[.int .u8 a,.int .u8 b,.int .u8 c,.int .u8 d,.int .u8 e,.int .u8 f,.int .u8 g,.int .u8 h,.int .u8 2,.int .u64 i,.int .u64 j,.int .u64 0,.int .u64 0] 151
abbrev oR (a b c d e f g h i j:Int):Obj:=.cells #[.int .u8 a,.int .u8 b,.int .u8 c,.int .u8 d,.int .u8 e,.int .u8 f,.int .u8 g,.int .u8 h,.int .u8 1,.int .u64 i,.int .u64 j,.int .u64 0,.int .u64 0] 151
abbrev oS:Value:=.agg #[.int .u8 1,.int .u64 0,.int .u64 0]
abbrev oT (b:Value)(c:Nat)(d:Value)(e:Int)(f:Value)(a:Rq)(g h:Int)(i j:Value):Obj:=.cells #[b,.pointer (some ⟨c,0,none⟩),d,.int .u64 e,f,.bool true,.int .u8 a.op,.int .u8 a.k0,.int .u8 a.k1,.int .u8 a.k2,.int .u8 a.k3,.int .u8 a.k4,.int .u8 a.k5,.int .u8 a.k6,.int .u8 a.k7,.int .u8 a.kd,.int .u64 a.x,.int .u64 a.y,.int .u64 a.n,.int .u64 g,.int .u64 h,i,j] 67
abbrev oW (a:Nat):Obj:=.cells #[.pointer (some ⟨a,0,none⟩)] 122
abbrev oX (a b e f g h i j k l c d:Int):Obj:=.cells #[.int .u8 6,.int .u8 a,.int .u8 b,.int .u8 e,.int .u8 f,.int .u8 g,.int .u8 h,.int .u8 i,.int .u8 j,.int .u8 k,.int .u64 l,.int .u64 c,.int .u64 d] 65
abbrev oZ (a b e f g h i j k l c d:Int):Obj:=.cells #[.int .u8 4,.int .u8 a,.int .u8 b,.int .u8 e,.int .u8 f,.int .u8 g,.int .u8 h,.int .u8 i,.int .u8 j,.int .u8 k,.int .u64 l,.int .u64 c,.int .u64 d] 65
abbrev Oa (a b e f g h i j k l c d:Int):Obj:=.cells #[.int .u8 3,.int .u8 a,.int .u8 b,.int .u8 e,.int .u8 f,.int .u8 g,.int .u8 h,.int .u8 i,.int .u8 j,.int .u8 k,.int .u64 l,.int .u64 c,.int .u64 d] 65
abbrev Ob (a b e f g h i j k l c d:Int):Obj:=.cells #[.int .u8 2,.int .u8 a,.int .u8 b,.int .u8 e,.int .u8 f,.int .u8 g,.int .u8 h,.int .u8 i,.int .u8 j,.int .u8 k,.int .u64 l,.int .u64 c,.int .u64 d] 65
abbrev Oc (a b e f g h i j k l c d:Int):Obj:=.cells #[.int .u8 1,.int .u8 a,.int .u8 b,.int .u8 e,.int .u8 f,.int .u8 g,.int .u8 h,.int .u8 i,.int .u8 j,.int .u8 k,.int .u64 l,.int .u64 c,.int .u64 d] 65
abbrev Od (a b c:Int):Obj:=.cells #[.int .u8 a,.int .u64 b,.int .u64 c] 30
abbrev Oe (a b:Nat)(c:Int):Obj:=.cells #[.pointer (some ⟨a,0,none⟩),.pointer (some ⟨b,0,none⟩),.slice none 0 0,.int .u64 c,.bool false,.bool false,.int .u8 0,.int .u8 0,.int .u8 0,.int .u8 0,.int .u8 0,.int .u8 0,.int .u8 0,.int .u8 0,.int .u8 0,.int .u8 0,.int .u64 0,.int .u64 0,.int .u64 0,.int .u64 0,.int .u64 0,.int .u64 0,.int .u64 0] 67
abbrev Og:Value:=.agg #[.int .u64 0,.int .u64 0,.slice none 0 0]
abbrev Oh (a:Ky)(b:Qt):Obj:=.cells #[.int .u8 a.k0,.int .u8 a.k1,.int .u8 a.k2,.int .u8 a.k3,.int .u8 a.k4,.int .u8 a.k5,.int .u8 a.k6,.int .u8 a.k7,.int .u8 b.kd,.int .u64 b.x,.int .u64 b.y,.int .u64 b.lv,.int .u64 b.wn] 175
abbrev Oi (a b:Int):Value:=.agg #[.int .u8 2,.int .u64 a,.int .u64 b]
abbrev Oj (a b c d:Int):Value:=.agg #[.int .u8 1,.int .u64 a,.int .u64 b,.int .u64 c,.int .u64 d]
abbrev Ok:Value:=.agg #[.int .u8 7,.int .u64 0,.int .u64 0]
abbrev Ol (b c:Nat)(e:Value)(f:Int)(g:Value)(h:Bool)(a:Rq)(i j k:Int)(d:Value):Obj:=.cells #[.pointer (some ⟨b,0,none⟩),.pointer (some ⟨c,0,none⟩),e,.int .u64 f,g,.bool h,.int .u8 a.op,.int .u8 a.k0,.int .u8 a.k1,.int .u8 a.k2,.int .u8 a.k3,.int .u8 a.k4,.int .u8 a.k5,.int .u8 a.k6,.int .u8 a.k7,.int .u8 a.kd,.int .u64 a.x,.int .u64 a.y,.int .u64 a.n,.int .u64 i,.int .u64 j,.int .u64 k,d] 67
abbrev Om (a:Nat)(b:Value)(c:Int):Obj:=.cells #[.pointer (some ⟨a,0,none⟩),.pointer none,b,.int .u64 c] 82
abbrev On (a b f g h i j k l m c d e:Int):Value:=.agg #[.int .u8 a,.int .u8 b,.int .u8 f,.int .u8 g,.int .u8 h,.int .u8 i,.int .u8 j,.int .u8 k,.int .u8 l,.int .u8 m,.int .u64 c,.int .u64 d,.int .u64 e]
abbrev Oo (a b c:Int):Obj:=.cells #[.int .u8 a,.int .u64 b,.int .u64 c,.int .u64 0,.int .u64 0] 173
abbrev Oq (a:Nat)(b c:Value)(d:Int):Obj:=.cells #[.pointer (some ⟨a,0,none⟩),b,c,.int .u64 d] 82
abbrev Ot:Value:=.agg #[.int .u8 6,.int .u8 0,.int .u8 0,.int .u8 0,.int .u8 0,.int .u8 0,.int .u8 0,.int .u8 0,.int .u8 0,.int .u8 0,.int .u64 0,.int .u64 0,.int .u64 0]
abbrev Ou:Value:=.agg #[.int .u8 5,.int .u8 0,.int .u8 0,.int .u8 0,.int .u8 0,.int .u8 0,.int .u8 0,.int .u8 0,.int .u8 0,.int .u8 0,.int .u64 0,.int .u64 0,.int .u64 0]
abbrev Ov:Value:=.agg #[.int .u8 3,.int .u64 18446744073709551615,.int .u64 0]
abbrev Ow (a b c d:Int):Value:=.agg #[.int .u8 2,.int .u64 a,.int .u64 b,.int .u64 c,.int .u64 d]
abbrev Ox (a b c:Int)(d:Value)(e:ByteArray)(f g h i j:Int):Value:=.agg #[.int .i64 a,.int .i64 b,.int .u64 c,d,.string e,.int .i64 f,.int .i64 g,.int .i64 h,.int .i64 i,.int .i64 j]
abbrev Oy (a:Nat)(b:Value)(c d e:Nat)(f:Value):Obj:=.cells #[.map (some a),b,.slice (some ⟨c,0,none⟩) d e,.int .i64 (-1),.int .i64 (-1),f] 88
abbrev Oz:Value:=.agg #[.int .u8 17,.int .u8 17,.func (.func 152) #[] #[]]
abbrev OA (a b c d e:Int):Obj:=.cells #[.int .u8 a,.int .u64 b,.int .u64 c,.int .u64 d,.int .u64 e] 173
abbrev OB:Value:=.agg #[.int .u8 1,.int .u8 26,.func (.func 66) #[] #[]]
abbrev OC (a b e f g h i j k l c d:Int):Obj:=.cells #[.int .u8 5,.int .u8 a,.int .u8 b,.int .u8 e,.int .u8 f,.int .u8 g,.int .u8 h,.int .u8 i,.int .u8 j,.int .u8 k,.int .u64 l,.int .u64 c,.int .u64 d] 65
abbrev OD:Obj:=.cells #[.nilIface] 97
abbrev OE (a b:Nat)(c:Value)(d:Int):Obj:=.cells #[.pointer (some ⟨a,0,none⟩),.pointer (some ⟨b,0,none⟩),c,.int .u64 d] 82
abbrev OF (a b:Nat)(c:Value)(d e:Int)(f:Bool):Obj:=.cells #[.map (some a),.map (some b),c,.int .i64 d,.int .i64 e,.bool f] 88
abbrev OG:Obj:=.cells #[.int .u64 0,.int .u64 0,.map none,.pointer none] 124
abbrev OH (a:Ky)(b:Qt):Value:=.agg #[.int .u8 a.k0,.int .u8 a.k1,.int .u8 a.k2,.int .u8 a.k3,.int .u8 a.k4,.int .u8 a.k5,.int .u8 a.k6,.int .u8 a.k7,.int .u8 b.kd,.int .u64 b.x,.int .u64 b.y,.int .u64 b.lv,.int .u64 b.wn]
abbrev OI (a:Nat)(b:Value)(c d e:Nat)(f g h:Value):Obj:=.cells #[.map (some a),b,.slice (some ⟨c,0,none⟩) d e,f,g,h] 88
abbrev OJ (a b c d e f g h:Int):Obj:=.cells #[.int .u8 a,.int .u8 b,.int .u8 c,.int .u8 d,.int .u8 e,.int .u8 f,.int .u8 g,.int .u8 h] 322
abbrev OK (a b:Nat)(c d:Int)(e:Bool):Obj:=.cells #[.map (some a),.map (some b),.slice none 0 0,.int .i64 c,.int .i64 d,.bool e] 88
abbrev OL (a b c d e f g h:Int):Value:=.agg #[.int .u8 4,.int .u8 a,.int .u8 b,.int .u8 c,.int .u8 d,.int .u8 e,.int .u8 f,.int .u8 g,.int .u8 h,.int .u8 0,.int .u64 0,.int .u64 0,.int .u64 0]
abbrev OM (a b c d e f g h:Int):Value:=.agg #[.int .u8 3,.int .u8 a,.int .u8 b,.int .u8 c,.int .u8 d,.int .u8 e,.int .u8 f,.int .u8 g,.int .u8 h,.int .u8 0,.int .u64 0,.int .u64 0,.int .u64 0]
abbrev ON (a:Int):Value:=.agg #[.int .u8 3,.int .u64 a,.int .u64 0]
abbrev OO:Value:=.agg #[.int .u8 0,.int .u8 0,.int .u8 0,.int .u8 0,.int .u8 0,.int .u8 0,.int .u8 0,.int .u8 0,.int .u8 0,.int .u64 0,.int .u64 0,.int .u64 0,.int .u64 0]
abbrev OP:Value:=.agg #[.int .u8 4,.int .u64 0,.int .u64 0]
abbrev OQ (a b c d e f g h i:Int):Value:=.agg #[.int .u8 2,.int .u8 a,.int .u8 b,.int .u8 c,.int .u8 d,.int .u8 e,.int .u8 f,.int .u8 g,.int .u8 h,.int .u8 0,.int .u64 0,.int .u64 0,.int .u64 i]
abbrev OR (a b:Nat)(c:Value)(d e:Int):Obj:=.cells #[.map (some a),.map (some b),c,.int .i64 d,.int .i64 e,.bool false] 88
abbrev OS (a b:Int)(c:Value):Value:=.agg #[.int .u64 a,.int .u64 b,c]
abbrev OT (a:Nat):Obj:=.cells #[.pointer (some ⟨a,0,none⟩),.slice none 0 0,.bool false] 112
abbrev OU (a b d e f g h i j k c:Int):Value:=.agg #[.int .u8 1,.int .u8 a,.int .u8 b,.int .u8 d,.int .u8 e,.int .u8 f,.int .u8 g,.int .u8 h,.int .u8 i,.int .u8 j,.int .u64 k,.int .u64 c,.int .u64 0]
abbrev OV (a b:Value)(c d:Int):Obj:=.cells #[a,b,.slice none 0 0,.int .i64 c,.int .i64 d,.bool false] 88
abbrev OW (a b c:Int)(d e:Nat)(f:Int):Obj:=.cells #[.int .i32 a,.int .u32 0,.int .u64 b,.int .u64 c,.map (some d),.pointer (some ⟨e,0,none⟩),.int .u64 f] 130
abbrev OX (a:Value)(b:Nat)(c d:Int):Obj:=.cells #[a,.map (some b),.slice none 0 0,.int .i64 c,.int .i64 d,.bool false] 88
abbrev OY:Obj:=.cells #[.int .u8 17,.int .u8 17,.func (.func 152) #[] #[]] 209
abbrev OZ:Value:=.agg #[.func (.func 177) #[] #[],.func (.func 178) #[] #[],.func (.func 179) #[] #[]]
abbrev ud:Value:=.agg #[.func (.func 174) #[] #[],.func (.func 175) #[] #[],.func (.func 176) #[] #[]]
abbrev ue:Obj:=.cells #[.int .u8 1,.int .u8 26,.func (.func 66) #[] #[]] 209
abbrev uf (a:Int):Obj:=.cells #[.int .u64 a] 23
abbrev ug:Value:=.agg #[.int .u8 8,.int .u64 0,.int .u64 0]
abbrev uh (a b c:Value)(d e:Int):Obj:=.cells #[a,b,c,.int .i64 d,.int .i64 e,.bool false] 88
abbrev ui (a b:Int)(c d e:Value)(f:Int):Obj:=.cells #[.int .i32 a,.int .u32 0,.int .u64 b,c,d,e,.int .u64 f] 130
abbrev uj (a:Value)(b:ByteArray):Obj:=.cells #[.int .i64 1,a,.string b] 146
abbrev uk (a b c d:Int):Obj:=.cells #[.int .u8 2,.int .u64 a,.int .u64 b,.int .u64 c,.int .u64 d] 173
abbrev ul (a b c d:Int):Obj:=.cells #[.int .u8 1,.int .u64 a,.int .u64 b,.int .u64 c,.int .u64 d] 173
abbrev um (a b:Int):Value:=.agg #[.int .u8 1,.int .u64 a,.int .u64 b]
abbrev uo:Obj:=.cells #[.int .u8 7,.int .u64 0,.int .u64 0] 40
abbrev uq (a:Int)(b c:ByteArray):Obj:=.cells #[.int .i64 a,.string b,.string c] 146
abbrev ur (a:Value)(b:Int):Obj:=.cells #[a,.int .u64 b] 60
abbrev us (a:Int):Value:=.agg #[.int .u8 1,.int .u64 a,.int .u64 0]
abbrev ut (a:Value)(b:Nat)(c:Value)(d e:Int):Obj:=.cells #[a,.map (some b),c,.int .i64 d,.int .i64 e,.bool false] 88
abbrev uv (a b:Int)(c:Value):Obj:=.cells #[.int .u64 a,.int .u64 b,c] 169
abbrev uw (a b c d e f g h:Int):Obj:=.cells #[.int .u8 a,.int .u8 b,.int .u8 c,.int .u8 d,.int .u8 e,.int .u8 f,.int .u8 g,.int .u8 h] 63
abbrev ux (b:Value)(c g h i:Nat)(j:Value)(k l:Bool)(a:Rq)(m d e f:Int):Obj:=.cells #[b,.pointer (some ⟨c,0,none⟩),.slice (some ⟨g,0,none⟩) h i,j,.bool k,.bool l,.int .u8 a.op,.int .u8 a.k0,.int .u8 a.k1,.int .u8 a.k2,.int .u8 a.k3,.int .u8 a.k4,.int .u8 a.k5,.int .u8 a.k6,.int .u8 a.k7,.int .u8 a.kd,.int .u64 a.x,.int .u64 a.y,.int .u64 a.n,.int .u64 m,.int .u64 d,.int .u64 e,.int .u64 f] 67
abbrev uy (b:Value)(c:Nat)(d e:Value)(a:Rq)(f g:Int)(h i:Value):Obj:=.cells #[b,.pointer (some ⟨c,0,none⟩),d,e,.bool true,.bool true,.int .u8 a.op,.int .u8 a.k0,.int .u8 a.k1,.int .u8 a.k2,.int .u8 a.k3,.int .u8 a.k4,.int .u8 a.k5,.int .u8 a.k6,.int .u8 a.k7,.int .u8 a.kd,.int .u64 a.x,.int .u64 a.y,.int .u64 a.n,.int .u64 f,.int .u64 g,h,i] 67
abbrev uz (a:Value)(b:ByteArray):Obj:=.cells #[.int .i64 3,a,.string b] 146
abbrev uA (a:Nat)(b c:Value):Obj:=.cells #[.pointer (some ⟨a,0,none⟩),.pointer none,b,c] 82
abbrev uB (a:Nat)(b:Value):Obj:=.cells #[.map (some a),b,.slice none 0 0,.int .i64 (-1),.int .i64 (-1),.bool false] 88
abbrev uC (a:Value)(b:Nat)(c d e:Value):Obj:=.cells #[a,.map (some b),c,d,e,.bool false] 88
abbrev uD:Value:=.agg #[.int .u8 0,.int .u64 0,.int .u64 0,.int .u64 0,.int .u64 0,.int .u8 0,.int .u64 0,.int .u64 0,.int .u64 0,.int .u64 0]
abbrev uE (a b c:Value)(d e:Int)(f:Bool):Obj:=.cells #[a,b,c,.int .i64 d,.int .i64 e,.bool f] 88
abbrev uF:Value:=.agg #[.int .u8 9,.int .u64 0,.int .u64 0]
abbrev uG:Value:=.agg #[.int .u8 5,.int .u64 0,.int .u64 0]
abbrev uH:Obj:=.cells #[.slice none 0 0,.bool false] 103
abbrev uI (a:Nat)(b:Value)(c:Bool):Obj:=.cells #[.pointer (some ⟨a,0,none⟩),b,.bool c] 112
abbrev uJ (a b:Int)(c:Value):Value:=.agg #[.int .u8 a,.int .u8 b,c]
abbrev uK:Obj:=.cells #[.int .u8 26,.int .u8 1] 5
abbrev uL:Obj:=.cells #[.int .u8 17,.int .u8 2] 5
abbrev uM:Obj:=.cells #[.int .u8 9,.int .u8 4] 5
abbrev uN:Obj:=.cells #[.int .u8 9,.int .u8 3] 5
abbrev uO:Obj:=.cells #[.int .u8 1,.int .u8 6] 5
abbrev uP:Obj:=.cells #[.int .u8 1,.int .u8 5] 5
abbrev uQ (a:Int):Value:=.agg #[.int .u8 a,.int .u64 0,.int .u64 0]
abbrev uR:Obj:=.cells #[.int .u8 0,.int .u64 0,.int .u64 0] 30
abbrev uS:Value:=.agg #[.int .u8 0,.int .u8 0,.int .u8 0,.int .u8 0,.int .u8 0,.int .u8 0,.int .u8 0,.int .u8 0]
abbrev uT (a:Int):Obj:=.cells #[.int .u8 a,.int .u8 0,.int .u8 0,.int .u8 0,.int .u8 0,.int .u8 0,.int .u8 0,.int .u8 0] 63
abbrev uU (a:Nat)(b c:Value):Obj:=.cells #[.pointer (some ⟨a,0,none⟩),b,c] 112
abbrev uV (a:Value)(b:Bool):Obj:=.cells #[a,.bool b] 103
abbrev uW (a b:Int)(c d:Nat):Value:=.agg #[.int .u64 a,.int .u64 b,.map (some c),.pointer (some ⟨d,0,none⟩)]
abbrev uY (a:Value)(b:Nat)(m q r:Value)(s:Bool)(t u v w c d e f g h i j k l n o:Value)(p:Int):Obj:=.cells #[a,.pointer (some ⟨b,0,none⟩),m,q,r,.bool s,t,u,v,w,c,d,e,f,g,h,i,j,k,l,n,o,.int .u64 p] 67
abbrev uZ:Obj:=.cells #[.slice none 0 0,.int .u64 0] 60
abbrev Ua (a:Nat)(b c d e f:Value):Obj:=.cells #[.map (some a),b,c,d,e,f] 88
abbrev Ub (a:ByteArray):Obj:=.cells #[.string a] 9
abbrev Uc (a:Value)(b:Int):Obj:=.cells #[a,.pointer none,.slice none 0 0,.int .u64 b] 82
abbrev Ud (a b:Int)(c d:Nat):Obj:=.cells #[.int .i32 0,.int .u32 0,.int .u64 a,.int .u64 b,.map (some c),.pointer (some ⟨d,0,none⟩),.int .u64 0] 130
abbrev Ue (a:Value):Obj:=.cells #[a,.map none,.slice none 0 0,.int .i64 (-1),.int .i64 (-1),.bool false] 88
abbrev Uf:Value:=.agg #[.int .u8 0,.int .u64 0,.int .u64 0,.int .u64 0,.int .u64 0]
abbrev Ug (a:Nat):Obj:=.cells #[.pointer (some ⟨a,0,none⟩),.slice none 0 0,.bool true] 112
abbrev Uh (a:Nat):Obj:=.cells #[.map (some a)] 121
abbrev Ui:Value:=.agg #[.int .u64 0,.int .u64 0,.map none,.pointer none]
abbrev Uj:Obj:=.cells #[.int .u8 4,.int .u64 0,.int .u64 0] 40
abbrev Uk:Obj:=.cells #[.int .i64 0] 53
abbrev Ul (a b:Nat)(c:Value):Obj:=.cells #[.map (some a),.map (some b),c,.int .i64 (-1),.int .i64 (-1),.bool false] 88
abbrev Um (a:Nat)(b c d:Value):Obj:=.cells #[.pointer (some ⟨a,0,none⟩),b,c,d] 82
abbrev Un (a:Value)(b:ByteArray):Value:=.agg #[.int .i64 3,a,.string b]
abbrev Uo (a:Value)(b:ByteArray):Value:=.agg #[.int .i64 1,a,.string b]
abbrev Uq (a b c d e f:Value)(g:Int):Obj:=.cells #[a,b,c,d,e,f,.int .u64 g] 130
abbrev Ur (a:Value):Obj:=.cells #[a,.bool false] 103
abbrev Us (a:Nat)(b:Value):Obj:=.cells #[.pointer (some ⟨a,0,none⟩),b,.bool true] 112
abbrev Ut (a:Int):Obj:=.cells #[.int .u8 1,.int .u64 a,.int .u64 0] 40
abbrev Uu (a:Nat)(b:Value):Obj:=.cells #[.pointer (some ⟨a,0,none⟩),b,.bool false] 112
abbrev Uv (a b:Int)(c d:Nat):Obj:=.cells #[.int .u64 a,.int .u64 b,.map (some c),.pointer (some ⟨d,0,none⟩)] 124
theorem lz {n:Nat}:n<=n:=Nat.le_refl n
theorem il {a b:Prop}(c:a):a\/b:=Or.inl c
theorem ir {a b:Prop}(c:b):a\/b:=Or.inr c
theorem aN {a b:Prop}(c:a)(g:b):a/\b:=⟨c,g⟩
theorem ll {a b c:Nat}(d:a<b)(g:b<=c):a<c:=Nat.lt_of_lt_of_le d g
theorem lq {a b c:Nat}(d:a<=b)(g:b<=c):a<=c:=Nat.le_trans d g
abbrev pO (b o:Nat):Value:=.pointer (some ⟨b,o,none⟩)
theorem ba (w:World){o:Obj}:Below w.heap.size w (w.alloc o):=(Below.refl _ w).alloc (Nat.le_refl _) o
abbrev U7 (a:Int):Prop:=0<=a/\a<=18446744073709551615
attribute [simp] U7
abbrev NP:=Nat->Prop
abbrev B7 (w w':World):Prop:=Below w.heap.size w w'
end Go.Proofs.YtnlgndpcddngoaaGreatDoor
namespace Go.Proofs.YtnlgndpcddngoaaGreatDoor
open Go.Proofs.Tryz Go.RowKit
variable [dK] [iK]
theorem aa {p:Prop}(a:p):Hid p:=a
def aM (a:Int):Int:=if a=1 then 26 else if a=2 then 17 else if a=3\/a=4 then 9 else if a=5\/a=6 then 1 else 0
theorem vK (a:Int)(w:World) :
  Calls prog 66 #[.int .u8 a] w fun e w'=>e=.returned (.int .i64 (aM a))/\w'=w:=by
 by_cases b:a=1
 ·subst b;go_enter func66,ntmps66
  go_wp2
  go_ret
  exact⟨rfl,rfl⟩
 by_cases c:a=2
 ·subst c;go_enter func66,ntmps66
  go_wp2
  go_ret
  exact⟨rfl,rfl⟩
 by_cases d:a=3
 ·subst d;go_enter func66,ntmps66
  go_wp2
  go_ret
  exact⟨rfl,rfl⟩
 by_cases f:a=4
 ·subst f;go_enter func66,ntmps66
  go_wp2
  go_ret
  exact⟨rfl,rfl⟩
 by_cases g:a=5
 ·subst g;go_enter func66,ntmps66
  go_wp2
  go_ret
  exact⟨rfl,rfl⟩
 by_cases h:a=6
 ·subst h;go_enter func66,ntmps66
  go_wp2
  go_ret
  exact⟨rfl,rfl⟩
 have e:aM a=0:=by simp [aM,b,c,d,f,g,h]
 rw [e];have i:(a==1)=false:=by simpa using b
 have j:(a==2)=false:=by simpa using c
 have k:(a==3)=false:=by simpa using d
 have l:(a==4)=false:=by simpa using f
 have m:(a==5)=false:=by simpa using g
 have n:(a==6)=false:=by simpa using h
 clear b c d f g h e;go_enter func66,ntmps66
 go_wp2
 go_ret
 exact⟨rfl,rfl⟩
theorem Tryz.info5:(prog.info? 5).map (fun i=>(i.zero,i.size,i.bytes))=some (some (.int .u8 0),1,1):=by kernel_rfl
theorem jbt (w:World)(u v:Value):∀ b x,([u,v]:List Value)[b]?=some x->(w.alloc (.cells #[u,v] 5)).cell? ((⟨w.heap.size,0,none⟩:Addr).add b)=some x:=by
 intro b x a;match b,a with
 | 0,a=>simp at a;subst a;simp [Addr.add]
 | 1,a=>simp at a;subst a;simp [Addr.add]
theorem ja5 (n:Nat)(s:Int)(w:World)(m:0<n)(o:n<=26) :
  Calls prog 67 #[.int .i64 n,.int .u8 s] w fun e w'=>e=.returned (.slice (some ⟨w.heap.size,0,none⟩) 2 (1+n))/\w'.ownsRow w.heap.size 5 1 (.slice (some ⟨w.heap.size,0,none⟩) 2 (1+n)) 2 [.int .u8 n,.int .u8 s]/\B7 w w':=by
 obtain⟨f,b,j,d,k⟩:=info_parts Tryz.info5;go_enter func67,ntmps67
 go_wp2_with (first | (at_make;refine wpList_make_own _ rfl _ _ 76 rfl w.heap.size 5 f (.int .u8 0) 1 underlying76 b j d _ _ _ (1+n) rfl rfl (by omega) (by rw [k];omega) (by unfold maxLen;omega) lz ?_;intro l h a) | (at_builtin;refine wpList_append_fits _ rfl _ _ 76 rfl w.heap.size 5 f 1 underlying76 b d w.heap.size 0 (1+n) [] rfl (h.alloc _) ⟨l.heap.size,0,none⟩ 2 2 [.int .u8 n,.int .u8 s] rfl rfl (jbt _ _ _) (by simp [Value.oneCell']) (by omega) ?_;intro q i g))
 go_ret
 refine⟨rfl,by simpa using i,?_⟩
 exact (((Below.refl _ _).grown a lz (by simp)).alloc a.size _).grown g (by have:=a.size;simp;omega) (by intro p c;injection c with c;omega)
theorem jcW (n:Nat)(s:Int)(w:World)(B:Nat)(c:w.heap.size=B)(a:0<n)(b:n<=26) :
  Calls prog 67 #[.int .i64 n,.int .u8 s] w fun e w'=>e=.returned (.slice (some ⟨B,0,none⟩) 2 (1+n))/\w'.ownsRow B 5 1 (.slice (some ⟨B,0,none⟩) 2 (1+n)) 2 [.int .u8 n,.int .u8 s]/\Below B w w':=by
 subst c;exact ja5 n s w a b
def nb (v:Int)(a:Nat):Int:=v / 2 ^ (56 - 8 * a) % 256
def bI (v:Int):List Int:=[nb v 0,nb v 1,nb v 2,nb v 3,nb v 4,nb v 5,nb v 6,nb v 7]
theorem kE (v:Int)(a:Nat)(b:a<8):(bI v).take (a+1)=(bI v).take a ++ [v / 2 ^ (56 - 8 * a) % 256]:=by
 match a,b with
 | 0,_=>rfl
 | 1,_=>rfl
 | 2,_=>rfl
 | 3,_=>rfl
 | 4,_=>rfl
 | 5,_=>rfl
 | 6,_=>rfl
 | 7,_=>rfl
theorem vR (g k b base:Nat)(d:List Value)(v:Int)(w:World)(n:w.ownsRow base 5 1 (.slice (some ⟨g,0,none⟩) k b) k d)(u:k+8<=b)(r:0<=v)(s:v<=18446744073709551615) :
  Calls prog 69 #[.slice (some ⟨g,0,none⟩) k b,.int .u64 v] w fun e w'=>e=.returned (.slice (some ⟨g,0,none⟩) (k+8) b)/\w'.ownsRow base 5 1 (.slice (some ⟨g,0,none⟩) (k+8) b) (k+8) (d ++ (bI v).map (Value.int .u8))/\w.grownBy w' (some g):=by
 obtain⟨q,l,x,p,y⟩:=info_parts Tryz.info5;go_enter func69,ntmps69
 go_wp2
 go_loopw [0,5] (fun i c wr=>∃ a:Nat,a<=8/\c=.int .i64 (56 - 8 * (a:Int))/\i=.slice (some ⟨g,0,none⟩) (k+a) b/\wr.ownsRow base 5 1 (.slice (some ⟨g,0,none⟩) (k+a) b) (k+a) (d ++ ((bI v).take a).map (Value.int .u8))/\w.grownBy wr (some g)) (fun _ c _=>(intOf c+8).toNat)
 case atStart=>exact⟨0,Nat.zero_le _,rfl,rfl,by simpa using n,World.grownBy.refl _ _⟩
 case round=>
  obtain⟨a,t,rfl,rfl,h,f⟩:=hrel;by_cases m:a<8
  ·go_wp2_with (at_builtin;refine wpList_append_fits _ rfl _ _ 76 rfl base 5 q 1 underlying76 l p g (k+a) b _ rfl (h.alloc _) ⟨wr.heap.size,0,none⟩ 1 1 [.int .u8 (v / 2 ^ (56 - 8 * a) % 256)] rfl rfl (cell_one_new _ _ _) (by simp [Value.oneCell']) (by omega) ?_;intro z o j)
   go_roundw
   case rel=>exact⟨a+1,by omega,by go_num,rfl,by rw [kE v a m];simpa [Nat.add_assoc] using o,(f.trans (World.grownBy_alloc _ _ _)).trans j⟩
   case measure=>simp [intOf];omega
  ·obtain rfl:a=8:=by omega
   go_wp2
   go_ret
   exact⟨rfl,h,f⟩
theorem bS (a:Int)(w:World) :
  Calls prog 83 #[.int .u8 a] w fun e w'=>e=.returned (.int .i64 (aM a))/\w'=w:=by
 by_cases b:a=1
 ·subst b;go_enter func83,ntmps83
  go_wp2
  go_ret
  exact⟨rfl,rfl⟩
 by_cases c:a=2
 ·subst c;go_enter func83,ntmps83
  go_wp2
  go_ret
  exact⟨rfl,rfl⟩
 by_cases d:a=3
 ·subst d;go_enter func83,ntmps83
  go_wp2
  go_ret
  exact⟨rfl,rfl⟩
 by_cases f:a=4
 ·subst f;go_enter func83,ntmps83
  go_wp2
  go_ret
  exact⟨rfl,rfl⟩
 by_cases g:a=5
 ·subst g;go_enter func83,ntmps83
  go_wp2
  go_ret
  exact⟨rfl,rfl⟩
 by_cases h:a=6
 ·subst h;go_enter func83,ntmps83
  go_wp2
  go_ret
  exact⟨rfl,rfl⟩
 have e:aM a=0:=by simp [aM,b,c,d,f,g,h]
 rw [e];have i:(a==1)=false:=by simpa using b
 have j:(a==2)=false:=by simpa using c
 have k:(a==3)=false:=by simpa using d
 have l:(a==4)=false:=by simpa using f
 have m:(a==5)=false:=by simpa using g
 have n:(a==6)=false:=by simpa using h
 clear b c d f g h e;go_enter func83,ntmps83
 go_wp2
 go_ret
 exact⟨rfl,rfl⟩
theorem jby (n:Int)(a:Nat):n / 256 ^ a / 256=n / 256 ^ (a+1):=by
 rw [Int.ediv_ediv_of_nonneg (Int.pow_nonneg (by omega)),Int.pow_succ]
theorem jgi (n:Int)(a:Nat)(b:a<8):n / 256 ^ (7 - a) % 256=n / 2 ^ (56 - 8 * a) % 256:=by
 match a,b with
 | 0,_=>rfl
 | 1,_=>rfl
 | 2,_=>rfl
 | 3,_=>rfl
 | 4,_=>rfl
 | 5,_=>rfl
 | 6,_=>rfl
 | 7,_=>rfl
theorem iC (v:Value)(k base:Nat)(l:List Value)(n:Int)(w:World)(x:w.ownsRow base 5 1 v k l)(D:base<=w.heap.size)(I:k<=1000)(t:0<=n)(u:n<=18446744073709551615) :
  Calls prog 84 #[v,.int .u64 n] w fun e w'=>∃ o,e=.returned o/\w'.ownsRow base 5 1 o (k+8) (l ++ (bI n).map (Value.int .u8))/\Below base w w':=by
 obtain⟨C,r,z,A,B⟩:=info_parts Tryz.info5;go_enter func84,ntmps84
 go_wp2
 go_loopw [0,5] (fun h j wr=>∃ a:Nat,a<=8/\j=.int .i64 (7 - (a:Int))/\wr.ownsRow base 5 1 h (k+a) (l ++ ((bI n).take a).map (Value.int .u8))/\Below base w wr) (fun _ j _=>(intOf j+1).toNat)
 case atStart=>exact⟨0,Nat.zero_le _,rfl,by simpa using x,Below.refl _ _⟩
 case round=>
  obtain⟨a,H,rfl,i,d⟩:=hrel;by_cases m:a<8
  ·have G:decide ((a:Int)<=7)=true:=by simp;omega
   go_wp2
   go_loop [6,7] (fun h f=>∃ (c:Nat) (b:Int),c<=7 - a/\f=.int .i64 c/\h=.int .u64 b/\0<=b/\b<=18446744073709551615/\Hid (b=n / 256 ^ c)) (fun _ f=>(7 - a) - (intOf f).toNat)
   case atStart=>exact⟨0,n,Nat.zero_le _,rfl,rfl,t,u,by show n=n / 256 ^ 0;simp⟩
   case round=>
    obtain⟨c,b,J,rfl,rfl,E,F,g⟩:=hrel;by_cases K:c<7 - a
    ·go_wp2
     go_round
     case rel=>exact⟨c+1,b / 256,by omega,by go_num,rfl,by omega,by omega,by show b / 256=n / 256 ^ (c+1);rw [g.out,jby]⟩
     case measure=>simp [intOf];omega
    ·obtain rfl:c=7 - a:=by omega
     have p:Hid (b % 256=n / 2 ^ (56 - 8 * a) % 256):=by show _=_;rw [g.out,jgi n a m]
     clear g;go_wp2_with (at_builtin;refine wpList_append_own _ rfl _ _ 76 rfl base 5 C (.int .u8 0) 1 1 underlying76 r z A B rfl (by decide) u0 (k+a) _ rfl (i.alloc _) ⟨wr.heap.size,0,none⟩ 1 1 [.int .u8 (b % 256)] rfl rfl (cell_one_new _ _ _) (by simp [Value.oneCell']) (by unfold maxLen;omega) (by omega) (by have:=d.size;simp;omega) ?_;intro L M y q _)
     go_roundw
     case rel=>exact⟨a+1,by omega,by go_num,by rw [kE n a m,<-p.out];simpa [Nat.add_assoc] using y,(d.alloc (by have:=d.size;omega) _).grown q (by have:=d.size;simp;omega) (fun f s=>(i.lt f s).1)⟩
     case measure=>simp [intOf];omega
  ·obtain rfl:a=8:=by omega
   go_wp2
   go_ret
   exact⟨_,rfl,i,d⟩
theorem eG (F g o a:Nat)(b:Int)(w:World)(c:w.cell? ⟨F,0,none⟩=some (.slice (some ⟨g,o,none⟩) a a))(l:w.frozen? ⟨F,0,none⟩=false)(f:1<a)(h:a<=255)(d:w.cell? ⟨g,o,none⟩=some (.int .u8 b)) :
  Calls prog 105 #[pO F 0] w fun e w'=>e=.returned (.int .u8 b)/\w'=w.setCell ⟨F,0,none⟩ (.slice (some ⟨g,o+1,none⟩) (a - 1) (a - 1)):=by
 have k:0<a:=by omega
 have i:(0:Int)<a:=by omega
 have j:¬a=1:=by omega
 go_enter func105,ntmps105
 go_wp2
 go_ret
 exact⟨rfl,rfl⟩
theorem lS (F g o:Nat)(b:Int)(w:World)(a:w.cell? ⟨F,0,none⟩=some (.slice (some ⟨g,o,none⟩) 1 1))(d:w.frozen? ⟨F,0,none⟩=false)(c:w.cell? ⟨g,o,none⟩=some (.int .u8 b)) :
  Calls prog 105 #[pO F 0] w fun e w'=>e=.returned (.int .u8 b)/\∃ v,w'=w.setCell ⟨F,0,none⟩ v:=by
 go_enter func105,ntmps105
 go_wp2
 go_ret
 exact⟨rfl,_,rfl⟩
def cu (c:Nat->Int):Nat->Int
 | 0=>0
 | j+1=>cu c j * 256+c j
theorem nT (n:Int)(a:0<=n)(b:n<2 ^ 64):IntKind.u64.wrap n=n:=by rw [IntKind.wrap_u64];omega
theorem vS (x c:Int)(e:0<=x)(f:x<2 ^ 56)(a:0<=c)(d:c<=255):bits BinOp.or IntKind.u64 (IntKind.u64.wrap (x * 256)) c=x * 256+c:=by
 rw [nT _ (by omega) (by omega)];exact bits_join .u64 64 (by decide) (fun b=>nT b) 8 (x * 256) c (by omega) (by omega) (by omega) a (by omega) (by omega)
theorem fM (c:Nat->Int)(b:∀ a,0<=c a/\c a<=255):∀ a,0<=cu c a/\cu c a<256 ^ a
 | 0=>by simp [cu]
 | a+1=>by
  have d:=fM c b a;have e:=b a;simp only [cu];rw [Int.pow_succ];omega
theorem pJ (c:Nat->Int)(e:∀ a,0<=c a/\c a<=255)(a:Nat)(d:a<8):0<=cu c a/\cu c a<2 ^ 56:=by
 have b:=fM c e a;refine⟨b.1,?_⟩
 match a,d with
 | 0,_=>omega
 | 1,_=>omega
 | 2,_=>omega
 | 3,_=>omega
 | 4,_=>omega
 | 5,_=>omega
 | 6,_=>omega
 | 7,_=>omega
theorem pC {a b:Int}(c:a=b):Value.int .u64 a=.int .u64 b:=by rw [c]
theorem ix (F g o b:Nat)(c:Nat->Int)(w:World)(q:w.cell? ⟨F,0,none⟩=some (.slice (some ⟨g,o,none⟩) b b))(v:w.frozen? ⟨F,0,none⟩=false)(t:8<=b)(u:b<=255)(l:∀ a,a<8->w.cell? ⟨g,o+a,none⟩=some (.int .u8 (c a)))(k:∀ a,0<=c a/\c a<=255) :
  Calls prog 108 #[pO F 0] w fun e w'=>e=.returned (.int .u64 (cu c 8))/\∃ i,w'=w.setCell ⟨F,0,none⟩ (.slice i (b - 8) (b - 8))/\(8<b->i=some ⟨g,o+8,none⟩):=by
 go_enter func108,ntmps108
 go_wp2
 go_loop [3,12] (fun p d=>∃ a:Nat,a<=8/\d=.int .i64 a/\p=.int .u64 (cu c a)) (fun _ d=>8 - (intOf d).toNat)
 case atStart=>exact⟨0,by omega,rfl,rfl⟩
 case round=>
  obtain⟨a,s,rfl,rfl⟩:=hrel;by_cases j:a<8
  ·have r:=l a j;have n:=k a;have f:=aa (pJ c k a j);have h:=aa n;go_wp2
   go_round
   case rel=>exact⟨a+1,by omega,by go_num,pC (vS _ _ f.out.1 f.out.2 h.out.1 h.out.2)⟩
   case measure=>simp [intOf];omega
  ·obtain rfl:a=8:=by omega
   by_cases m:b=8
   ·subst m;go_wp2
    go_ret
    exact⟨rfl,_,rfl⟩
   ·go_wp2
    go_ret
    exact⟨rfl,_,rfl,fun _=>rfl⟩
theorem je (g o d m:Nat)(c:Nat->Int)(w:World)(u:8<=d)(v:d<=1048576)(p:∀ a,a<8->w.cell? ⟨g,o+a,none⟩=some (.int .u8 (c a)))(f:∀ a,0<=c a/\c a<=255) :
  Calls prog 86 #[.slice (some ⟨g,o,none⟩) d m] w fun e w'=>e=.returned (.int .u64 (cu c 8))/\w'=w:=by
 go_enter func86,ntmps86
 go_wp2
 go_loop [3,4] (fun q h=>∃ (a:Nat) (b:Int),a<=8/\h=.int .i64 a/\q=.int .u64 b/\0<=b/\(a<8->b<72057594037927936)/\Hid (b=cu c a)) (fun _ h=>8 - (intOf h).toNat)
 case atStart=>exact⟨0,0,by omega,rfl,rfl,by omega,by omega,by show (0:Int)=0;rfl⟩
 case round=>
  obtain⟨a,b,s,rfl,rfl,y,l,j⟩:=hrel;by_cases k:a<8
  ·have r:=p a k;have x:=f a;have z:=l k;have t:a<d:=by omega
   have i:=aa f;clear l f;go_wp2
   go_round
   case rel=>exact⟨a+1,cu c (a+1),by omega,by go_num,pC (by rw [j.out];rfl),(fM c i.out (a+1)).1,fun n=>by have:=(pJ c i.out (a+1) n).2;omega,rfl⟩
   case measure=>simp [intOf];omega
  ·obtain rfl:a=8:=by omega
   go_wp2
   go_ret
   exact⟨by rw [<-j.out];rfl,rfl⟩
theorem aO {d:Array Oper}{o:Oper}{a:Act}{w:World}{c:Act->World->Prop}{i:Exit->Act->World->Prop}{h:Prop}{R:Ending->World->Prop}(p:o.guard=none)(f:FuncId)(n:∀ b w,Sem.run prog (callFunc f b) w=.ok (.enter f b) w)(g:Array Operand)(u:Array TypeId)
  (q:o.op=.call { callee:=.value (.func f),args:=g,argTypes:=u }) (b:Array Value) (t:g.map a.eval=b) (l:Calls prog f b w R)
  (m:∀ e w',R e w'->∃ v,e=.returned v/\c (a.put o.dst v) w') :
  if Region.wanted o (yielded d a.tmps)=true then Oper.wp prog o a w c i else h:=by
 have s:Region.wanted o (yielded d a.tmps)=true:=by simp [Region.wanted,p]
 rw [if_pos s];have r:(execOp a.eval o).run prog w=.ok (.enter f b) w:=by
  subst t;simp [execOp,q,resolve,invoke,go_sem];exact n _ _
 unfold Oper.wp;rw [r,Oper.upon_enter];refine l.mono ?_
 intro e w' j;obtain⟨v,rfl,k⟩:=m e w' j;exact k
theorem qk (a:Array Value)(w:World):Sem.run prog (callFunc 69 a) w=.ok (.enter 69 a) w:=by simp [go_sem]
theorem jbT {w w':World}{b:Option Nat}(a:w.grownBy w' b):w.grownBy w'.drew b:=⟨a.os,a.tape,a.output,a.size,a.block⟩
theorem ss {w w':World}{g:Nat}(d:w.grownBy w' (some g)){b:Nat}(e:b<w.heap.size)(f:b≠g)(c:Nat):w'.cell? ⟨b,c,none⟩=w.cell? ⟨b,c,none⟩:=
 World.cell?_of_block (w:=w) (d.block b e (by intro a;injection a with a;exact f a))
theorem bR (w:World)(a:Array Value)(t:TypeId)(b:Nat):(w.alloc (.cells a t)).cell? ⟨w.heap.size,b,none⟩=a[b]?:=by
 rw [World.cell?_alloc_at _ _ _ _ rfl]
theorem pR {w:World}{b o:Nat}{c:Array Value}(e:∀ a,w.cell? ⟨b,a,none⟩=c[a]?)(d:List Value)(g:∀ a u,d[a]?=some u->c[o+a]?=some u) :
  ∀ a u,d[a]?=some u->w.cell? ((⟨b,o,none⟩:Addr).add a)=some u:=by
 intro a u f;rw [Addr.add_lit,e];exact g a u f
theorem dQ {w:World}{b c:Nat}{v:Value}{n:Nat}{d:List Value}(k:c<=b)(a:w.ownsRow b 5 1 v n d):w.ownsRow c 5 1 v n d:=by
 refine⟨a.1,?_⟩
 rcases a.2 with a | ⟨g,e,f,h,i,j⟩
 ·exact .inl a
 ·exact .inr ⟨g,e,f,h,lq k i,j⟩
theorem kg (k a b c d e f g j o l m n:Value):∀ (i:Nat) u,([a,b,c,d,e,f,g,j]:List Value)[i]?=some u->(#[k,a,b,c,d,e,f,g,j,o,l,m,n]:Array Value)[1+i]?=some u:=by
 intro i u h;match i,h with
 | 0,h=>simpa using h
 | 1,h=>simpa using h
 | 2,h=>simpa using h
 | 3,h=>simpa using h
 | 4,h=>simpa using h
 | 5,h=>simpa using h
 | 6,h=>simpa using h
 | 7,h=>simpa using h
def gn (a b c d e f g h i j x y n:Int):List Int:=
 if a=1 then [26,1,b,c,d,e,f,g,h,i,j] ++ bI x ++ bI y
 else if a=2 then [17,2,b,c,d,e,f,g,h,i] ++ bI n
 else if a=3\/a=4 then [9,a,b,c,d,e,f,g,h,i]
 else if a=5\/a=6 then [1,a]
 else []
theorem mw (a b c d e f g h i j x y n:Int):((gn a b c d e f g h i j x y n).length:Int)=if aM a=0 then 0 else aM a+1:=by
 unfold gn aM;repeat' split
 all_goals first | rfl | omega
theorem jaW (a:World)(u v:Value)(b:Array Value):((a.alloc (.cells #[u] 264)).alloc (.cells b 65)).setCell ⟨a.heap.size,0,none⟩ v=(a.alloc (.cells #[v] 264)).alloc (.cells b 65):=by
 rw [World.setCell_alloc_past _ _ _ _ (by simp),World.setCell_alloc_at _ _ _ _ _ rfl];rfl
theorem wC {a d:World}{u v:Value}{f:Array Value}(e:Below ((a.alloc (.cells #[u] 264)).alloc (.cells f 65)).heap.size (((a.alloc (.cells #[u] 264)).alloc (.cells f 65)).setCell ⟨a.heap.size,0,none⟩ v) d) :
  (∀ b c,b<a.heap.size->d.cell? ⟨b,c,none⟩=a.cell? ⟨b,c,none⟩)/\(∀ b c,b<a.heap.size->d.frozen? ⟨b,c,none⟩=a.frozen? ⟨b,c,none⟩)/\d.cell? ⟨a.heap.size,0,none⟩=some v/\d.frozen? ⟨a.heap.size,0,none⟩=false/\
  (∀ c,d.cell? ⟨a.heap.size+1,c,none⟩=f[c]?)/\(∀ c,d.frozen? ⟨a.heap.size+1,c,none⟩=false)/\B7 a d/\a.heap.size+1<d.heap.size:=by
 rw [jaW] at e;have i:B7 a ((a.alloc (.cells #[v] 264)).alloc (.cells f 65)):=(ba _).alloc (by simp) _;have g:B7 a d:=i.trans (e.mono (by simp;omega));refine⟨fun b c h=>g.cell (p:=⟨b,c,none⟩) h,fun b c h=>g.frozen (p:=⟨b,c,none⟩) h,?_,?_,fun c=>?_,fun c=>?_,g,?_⟩
 ·rw [e.cell (p:=⟨a.heap.size,0,none⟩) (by simp;omega)];simp
 ·rw [e.frozen (p:=⟨a.heap.size,0,none⟩) (by simp;omega)];simp
 ·rw [e.cell (p:=⟨a.heap.size+1,c,none⟩) (by simp)];simp
 ·rw [e.frozen (p:=⟨a.heap.size+1,c,none⟩) (by simp)];simp
 ·have:=e.size;simp at this;omega
structure St (w w2 W:World)(g:Nat)(left:Value)(rc:Array Value):Prop where
 F:W.cell? ⟨w2.heap.size,0,none⟩=some left
 Ff:W.frozen? ⟨w2.heap.size,0,none⟩=false
 r:∀ j,W.cell? ⟨w2.heap.size+1,j,none⟩=rc[j]?
 rf:∀ j,W.frozen? ⟨w2.heap.size+1,j,none⟩=false
 R:∀ j,W.cell? ⟨w.heap.size,j,none⟩=(#[.int .u8 0,.int .u8 0,.int .u8 0,.int .u8 0,.int .u8 0,.int .u8 0,.int .u8 0,.int .u8 0,.int .u8 0,.int .u8 0,.int .u64 0,.int .u64 0,.int .u64 0]:Array Value)[j]?
 Rf:∀ j,W.frozen? ⟨w.heap.size,j,none⟩=false
 G:∀ j,W.cell? ⟨g,j,none⟩=w.cell? ⟨g,j,none⟩
 B:B7 w W
 sz:w2.heap.size+1<W.heap.size
 hg:g<w.heap.size
 h2:w.heap.size<w2.heap.size
theorem cf (a:World)(b i c d:Nat)(u:Value)(e:b≠c):(a.setCell ⟨c,d,none⟩ u).cell? ⟨b,i,none⟩=a.cell? ⟨b,i,none⟩:=
 World.cell?_of_block (w:=a) (Below.heap_setCell a ⟨c,d,none⟩ u b e)
theorem ep (a:World)(b i c d:Nat)(u:Value)(e:b≠c):(a.setCell ⟨c,d,none⟩ u).frozen? ⟨b,i,none⟩=a.frozen? ⟨b,i,none⟩:=
 World.frozen?_of_block (w:=a) (Below.heap_setCell a ⟨c,d,none⟩ u b e)
theorem St.setF {w b c:World}{g:Nat}{e:Value}{d:Array Value}(S:St w b c g e d)(v:Value):St w b (c.setCell ⟨b.heap.size,0,none⟩ v) g v d:=by
 have f:=S.h2;have h:=S.hg;refine⟨?_,?_,fun a=>?_,fun a=>?_,fun a=>?_,fun a=>?_,fun a=>?_,S.B.setCell (by show _<=b.heap.size;omega) _,by simpa using S.sz,S.hg,S.h2⟩
 ·exact World.cell?_setCell_same c _ _ S.F
 ·rw [World.frozen?_setCell];exact S.Ff
 ·rw [cf _ _ _ _ _ _ (by omega)];exact S.r a
 ·rw [ep _ _ _ _ _ _ (by omega)];exact S.rf a
 ·rw [cf _ _ _ _ _ _ (by omega)];exact S.R a
 ·rw [ep _ _ _ _ _ _ (by omega)];exact S.Rf a
 ·rw [cf _ _ _ _ _ _ (by omega)];exact S.G a
theorem St.setr {w c b:World}{g:Nat}{l:Value}{e:Array Value}(S:St w c b g l e)(i:Nat)(h:i<e.size)(u:Value):St w c (b.setCell ⟨c.heap.size+1,i,none⟩ u) g l (e.setIfInBounds i u):=by
 have n:=S.h2;have o:=S.hg;refine⟨?_,?_,fun a=>?_,fun a=>?_,fun a=>?_,fun a=>?_,fun a=>?_,S.B.setCell (by show _<=c.heap.size+1;omega) _,by simpa using S.sz,S.hg,S.h2⟩
 ·rw [cf _ _ _ _ _ _ (by omega)];exact S.F
 ·rw [ep _ _ _ _ _ _ (by omega)];exact S.Ff
 ·by_cases f:a=i
  ·subst f;have j:=S.r a;rw [Array.getElem?_eq_getElem h] at j;rw [World.cell?_setCell_same b _ _ j,Array.getElem?_setIfInBounds,if_pos rfl,if_pos h]
  ·have k:¬i=a:=fun d=>f d.symm;rw [Array.getElem?_setIfInBounds,if_neg k,<-S.r a];exact World.cell?_setCell_other b _ _ _ (by intro d;injection d with _ m _;exact k m)
 ·rw [World.frozen?_setCell];exact S.rf a
 ·rw [cf _ _ _ _ _ _ (by omega)];exact S.R a
 ·rw [ep _ _ _ _ _ _ (by omega)];exact S.Rf a
 ·rw [cf _ _ _ _ _ _ (by omega)];exact S.G a
theorem St.of_key {w b i:World}{g:Nat}{u v:Value}{d:Array Value}(e:B7 w b)(h:g<w.heap.size)(c:w.heap.size<b.heap.size)
  (n:∀ a,b.cell? ⟨w.heap.size,a,none⟩=(#[.int .u8 0,.int .u8 0,.int .u8 0,.int .u8 0,.int .u8 0,.int .u8 0,.int .u8 0,.int .u8 0,.int .u8 0,.int .u8 0,.int .u64 0,.int .u64 0,.int .u64 0]:Array Value)[a]?) (o:∀ a,b.frozen? ⟨w.heap.size,a,none⟩=false)
  (j:Below ((b.alloc (.cells #[u] 264)).alloc (.cells d 65)).heap.size (((b.alloc (.cells #[u] 264)).alloc (.cells d 65)).setCell ⟨b.heap.size,0,none⟩ v) i):St w b i g v d:=by
 obtain⟨f,q,l,m,r,s,k,t⟩:=wC j;exact⟨l,m,r,s,fun a=>(f w.heap.size a c).trans (n a),fun a=>(q w.heap.size a c).trans (o a),fun a=>(f g a (by omega)).trans (e.cell (p:=⟨g,a,none⟩) h),e.trans (k.mono (by omega)),t,h,c⟩
structure gX (w W:World)(g:Nat)(rc:Array Value):Prop where
 r:∀ j,W.cell? ⟨w.heap.size+1,j,none⟩=rc[j]?
 rf:∀ j,W.frozen? ⟨w.heap.size+1,j,none⟩=false
 R:∀ j,W.cell? ⟨w.heap.size,j,none⟩=(#[.int .u8 0,.int .u8 0,.int .u8 0,.int .u8 0,.int .u8 0,.int .u8 0,.int .u8 0,.int .u8 0,.int .u8 0,.int .u8 0,.int .u64 0,.int .u64 0,.int .u64 0]:Array Value)[j]?
 Rf:∀ j,W.frozen? ⟨w.heap.size,j,none⟩=false
 G:∀ j,W.cell? ⟨g,j,none⟩=w.cell? ⟨g,j,none⟩
 B:B7 w W
 hg:g<w.heap.size
theorem gX.setr {w b:World}{g:Nat}{d:Array Value}(S:gX w b g d)(i:Nat)(f:i<d.size)(u:Value):gX w (b.setCell ⟨w.heap.size+1,i,none⟩ u) g (d.setIfInBounds i u):=by
 have l:=S.hg;refine⟨fun a=>?_,fun a=>?_,fun a=>?_,fun a=>?_,fun a=>?_,S.B.setCell (by show _<=w.heap.size+1;omega) _,S.hg⟩
 ·by_cases e:a=i
  ·subst e;have h:=S.r a;rw [Array.getElem?_eq_getElem f] at h;rw [World.cell?_setCell_same b _ _ h,Array.getElem?_setIfInBounds,if_pos rfl,if_pos f]
  ·have j:¬i=a:=fun c=>e c.symm;rw [Array.getElem?_setIfInBounds,if_neg j,<-S.r a];exact World.cell?_setCell_other b _ _ _ (by intro c;injection c with _ k _;exact j k)
 ·rw [World.frozen?_setCell];exact S.rf a
 ·rw [cf _ _ _ _ _ _ (by omega)];exact S.R a
 ·rw [ep _ _ _ _ _ _ (by omega)];exact S.Rf a
 ·rw [cf _ _ _ _ _ _ (by omega)];exact S.G a
theorem gX.start (w:World)(g:Nat)(b:g<w.heap.size)(c:Array Value):gX w ((w.alloc (oM)).alloc (.cells c 65)) g c:=by
 refine⟨fun a=>?_,fun a=>by simp,fun a=>?_,fun a=>?_,fun a=>?_,(ba w).alloc (by simp) _,b⟩
 ·exact World.cell?_alloc_at _ _ _ _ (by simp)
 ·rw [World.cell?_alloc_past _ _ _ (by simp)];exact bR w _ _ a
 ·rw [World.frozen?_alloc_past _ _ _ (by simp)];simp
 ·rw [World.cell?_alloc_past _ _ _ (by simp;omega),World.cell?_alloc_past _ _ _ b]
def dA (c:Int)(b:Nat->Int)(a:Nat):Array Value:=#[.int .u8 c,.int .u8 (if 0<a then b 2 else 0),.int .u8 (if 1<a then b 3 else 0),.int .u8 (if 2<a then b 4 else 0),.int .u8 (if 3<a then b 5 else 0),.int .u8 (if 4<a then b 6 else 0),.int .u8 (if 5<a then b 7 else 0),.int .u8 (if 6<a then b 8 else 0),.int .u8 (if 7<a then b 9 else 0),.int .u8 0,.int .u64 0,.int .u64 0,.int .u64 0]
theorem eR (c:Int)(b:Nat->Int)(a:Nat)(d:a<8):(dA c b a).setIfInBounds (1+a) (.int .u8 (b (2+a)))=dA c b (a+1):=by
 match a,d with
 | 0,_=>rfl
 | 1,_=>rfl
 | 2,_=>rfl
 | 3,_=>rfl
 | 4,_=>rfl
 | 5,_=>rfl
 | 6,_=>rfl
 | 7,_=>rfl
theorem rx (a:Option Addr)(b:Nat)(w:World)  :
  Calls prog 85 #[.slice a 0 b] w fun e w'=>e=.returned (.tuple #[oz,.int .i64 0,.int .i64 1])/\B7 w w':=by
 go_enter func85,ntmps85
 go_wp2
 refine bodyPost_ret (v:=.tuple #[oz,.int .i64 0,.int .i64 1]) (by simp [results,results85,go_sem]) rfl ⟨rfl,?_⟩
 exact (ba w).alloc (by simp) _
theorem jaO (g b n f:Nat)(a:Int)(w:World)(m:0<n)(j:g<w.heap.size)(i:w.cell? ⟨g,b,none⟩=some (.int .u8 a))(h:a=0) :
  Calls prog 85 #[.slice (some ⟨g,b,none⟩) n f] w fun e w'=>e=.returned (.tuple #[oz,.int .i64 0,.int .i64 2])/\B7 w w':=by
 have k:(0:Int)<n:=by omega
 have o:decide ((0:Int)<n)=true:=by simpa using k
 have l:∀ c d,((w.alloc c).alloc d).cell? ⟨g,b,none⟩=some (.int .u8 a):=fun c d=>by rw [World.cell?_alloc_past _ _ _ (by simp;omega),World.cell?_alloc_past _ _ _ j];exact i
 subst h;go_enter func85,ntmps85
 go_wp2
 refine bodyPost_ret (v:=.tuple #[oz,.int .i64 0,.int .i64 2]) (by simp [results,results85,go_sem]) rfl ⟨rfl,?_⟩
 exact (ba w).alloc (by simp) _
theorem jaN (g b n f:Nat)(a:Int)(w:World)(p:0<n)(j:g<w.heap.size)(i:w.cell? ⟨g,b,none⟩=some (.int .u8 a))(h:26<a)(l:a<=255) :
  Calls prog 85 #[.slice (some ⟨g,b,none⟩) n f] w fun e w'=>e=.returned (.tuple #[oz,.int .i64 0,.int .i64 2])/\B7 w w':=by
 have k:(0:Int)<n:=by omega
 have q:decide ((0:Int)<n)=true:=by simpa using k
 have m:∀ c d,((w.alloc c).alloc d).cell? ⟨g,b,none⟩=some (.int .u8 a):=fun c d=>by rw [World.cell?_alloc_past _ _ _ (by simp;omega),World.cell?_alloc_past _ _ _ j];exact i
 have r:(a==0)=false:=by simp;omega
 have o:decide (26<a)=true:=by simpa using h
 go_enter func85,ntmps85
 go_wp2
 refine bodyPost_ret (v:=.tuple #[oz,.int .i64 0,.int .i64 2]) (by simp [results,results85,go_sem]) rfl ⟨rfl,?_⟩
 exact (ba w).alloc (by simp) _
theorem jcN (g b n f:Nat)(a:Int)(w:World)(j:0<n)(i:g<w.heap.size)(h:w.cell? ⟨g,b,none⟩=some (.int .u8 a))(l:1<=a)(m:a<=26)(r:n=1) :
  Calls prog 85 #[.slice (some ⟨g,b,none⟩) n f] w fun e w'=>e=.returned (.tuple #[oz,.int .i64 0,.int .i64 1])/\B7 w w':=by
 have k:(0:Int)<n:=by omega
 have t:decide ((0:Int)<n)=true:=by simpa using k
 have o:∀ c d,((w.alloc c).alloc d).cell? ⟨g,b,none⟩=some (.int .u8 a):=fun c d=>by rw [World.cell?_alloc_past _ _ _ (by simp;omega),World.cell?_alloc_past _ _ _ i];exact h
 have x:(a==0)=false:=by simp;omega
 have p:decide (26<a)=false:=by simp;omega
 have _:=j;have s:decide ((1:Int)<n)=false:=by simp;omega
 have u:((n:Int)==0)=false:=by simp;omega
 have q:decide ((n:Int)<1+a)=true:=by simp;omega
 go_enter func85,ntmps85
 go_wp2
 refine bodyPost_ret (v:=.tuple #[oz,.int .i64 0,.int .i64 1]) (by simp [results,results85,go_sem]) rfl ⟨rfl,?_⟩
 exact (ba w).alloc (by simp) _
theorem jcM (g d n i:Nat)(a:Int)(w:World)(t:0<n)(h:g<w.heap.size)(j:w.cell? ⟨g,d,none⟩=some (.int .u8 a))(m:1<=a)(o:a<=26)(u:1<n)(f:Int)(k:w.cell? ⟨g,d+1,none⟩=some (.int .u8 f))(A:¬a=aM f) :
  Calls prog 85 #[.slice (some ⟨g,d,none⟩) n i] w fun e w'=>e=.returned (.tuple #[oz,.int .i64 0,.int .i64 2])/\B7 w w':=by
 have l:(0:Int)<n:=by omega
 have z:decide ((0:Int)<n)=true:=by simpa using l
 have q:∀ b c,((w.alloc b).alloc c).cell? ⟨g,d,none⟩=some (.int .u8 a):=fun b c=>by rw [World.cell?_alloc_past _ _ _ (by simp;omega),World.cell?_alloc_past _ _ _ h];exact j
 have B:(a==0)=false:=by simp;omega
 have s:decide (26<a)=false:=by simp;omega
 have x:decide ((1:Int)<n)=true:=by simp;omega
 have y:(1:Int)<n:=by omega
 have r:∀ b c,((w.alloc b).alloc c).cell? ⟨g,d+1,none⟩=some (.int .u8 f):=fun b c=>by rw [World.cell?_alloc_past _ _ _ (by simp;omega),World.cell?_alloc_past _ _ _ h];exact k
 have p:(aM f != a)=true:=by simp;omega
 go_enter func85,ntmps85
 go_wp2_with (go_at_call 83;refine (bS _ _).mono ?_;rintro e w' ⟨rfl,rfl⟩)
 refine bodyPost_ret (v:=.tuple #[oz,.int .i64 0,.int .i64 2]) (by simp [results,results85,go_sem]) rfl ⟨rfl,?_⟩
 exact (ba w).alloc (by simp) _
theorem tR (g f n j:Nat)(a:Int)(w:World)(y:0<n)(i:g<w.heap.size)(k:w.cell? ⟨g,f,none⟩=some (.int .u8 a))(p:1<=a)(q:a<=26)(z:1<n)(b:Int)(l:w.cell? ⟨g,f+1,none⟩=some (.int .u8 b))(h:a=aM b)(u:(n:Int)<=a) :
  Calls prog 85 #[.slice (some ⟨g,f,none⟩) n j] w fun e w'=>e=.returned (.tuple #[oz,.int .i64 0,.int .i64 1])/\B7 w w':=by
 have m:(0:Int)<n:=by omega
 have C:decide ((0:Int)<n)=true:=by simpa using m
 have r:∀ c d,((w.alloc c).alloc d).cell? ⟨g,f,none⟩=some (.int .u8 a):=fun c d=>by rw [World.cell?_alloc_past _ _ _ (by simp;omega),World.cell?_alloc_past _ _ _ i];exact k
 have F:(a==0)=false:=by simp;omega
 have t:decide (26<a)=false:=by simp;omega
 have A:decide ((1:Int)<n)=true:=by simp;omega
 have B:(1:Int)<n:=by omega
 have s:∀ c d,((w.alloc c).alloc d).cell? ⟨g,f+1,none⟩=some (.int .u8 b):=fun c d=>by rw [World.cell?_alloc_past _ _ _ (by simp;omega),World.cell?_alloc_past _ _ _ i];exact l
 have E:(aM b != a)=false:=by simp;omega
 have D:((n:Int)==0)=false:=by simp;omega
 have x:decide ((n:Int)<1+a)=true:=by simp;omega
 have o:Hid (a=aM b):=h;clear h;go_enter func85,ntmps85
 go_wp2_with (go_at_call 83;refine (bS _ _).mono ?_;rintro e w' ⟨rfl,rfl⟩)
 refine bodyPost_ret (v:=.tuple #[oz,.int .i64 0,.int .i64 1]) (by simp [results,results85,go_sem]) rfl ⟨rfl,?_⟩
 exact (ba w).alloc (by simp) _
theorem mO (x y:Int)(a:0<=x)(b:0<=y)(w:World) :
  (callFunc 206 #[.int .u64 x,.int .u64 y,.int .u64 0]).run prog w=
   .ok (.value (.tuple #[.int .u64 ((x+y+0) % 18446744073709551616),.int .u64 ((x+y+0) / 18446744073709551616)])) w:=by
 rw [run_callFunc_extern func206 (by kernel_rfl) (by kernel_rfl) (by kernel_rfl) (e:=add64Entry) (by kernel_rfl),run_add64 x y 0 a b (by omega) (by omega)];rfl
theorem gJ (a b:Int)(w:World)(f:0<=a)(g:0<=b)(i:a+b<=18446744073709551615) :
  Calls prog 191 #[.int .u64 a,.int .u64 b] w fun e w'=>e=.returned (.tuple #[.int .u64 (a+b),.bool true])/\w'=w:=by
 have h:=mO a b f g w;have c:(a+b+0) % 18446744073709551616=a+b:=by omega
 have d:(a+b+0) / 18446744073709551616=0:=by omega
 rw [c,d] at h;go_enter func191,ntmps191
 go_wp2
 go_ret2
 exact⟨rfl,rfl⟩
theorem jg (a b:Int)(w:World)(d:0<=a)(f:0<=b)(i:a<=18446744073709551615)(j:b<=18446744073709551615)(h:18446744073709551615<a+b) :
  Calls prog 191 #[.int .u64 a,.int .u64 b] w fun e w'=>e=.returned (.tuple #[.int .u64 0,.bool false])/\w'=w:=by
 have g:=mO a b d f w;have c:(a+b+0) / 18446744073709551616=1:=by omega
 rw [c] at g;go_enter func191,ntmps191
 go_wp2
 go_ret2
 exact⟨rfl,rfl⟩
def al (x:Int):Int:=if x<=18446744073709551615 then x else 18446744073709551615
theorem dB (a b:Int)(w:World)(f:0<=a)(g:0<=b)(h:a<=18446744073709551615)(i:b<=18446744073709551615) :
  Calls prog 190 #[.int .u64 a,.int .u64 b] w fun e w'=>e=.returned (.int .u64 (al (a+b)))/\w'=w:=by
 by_cases c:a+b<=18446744073709551615
 ·have d:=gJ a b w f g c;rw [al,if_pos c];go_enter func190,ntmps190
  go_wp2_with (go_at_call 191;refine d.mono ?_;rintro e w' ⟨rfl,rfl⟩)
  go_ret
  exact⟨rfl,rfl⟩
 ·have d:=jg a b w f g h i (by omega);rw [al,if_neg c];go_enter func190,ntmps190
  go_wp2_with (go_at_call 191;refine d.mono ?_;rintro e w' ⟨rfl,rfl⟩)
  go_ret
  exact⟨rfl,rfl⟩
def Rq.zero:Rq:=⟨0,0,0,0,0,0,0,0,0,0,0,0,0⟩
def aF (bs:List Int):Int:=
 match bs with
 | []=>1
 | b0 :: t=>if b0<1\/26<b0 then 2 else
  match t with
  | []=>1
  | b1 :: _=>if b0=aM b1 then (if (bs.length:Int)<=b0 then 1 else 0) else 2
def dT (bs:List Int):Int:=if aF bs=0 then bs.getD 0 0+1 else 0
def gA (bs:List Int)(o:Nat):Int:=cu (fun a=>bs.getD (o+a) 0) 8
def rdQ (bs:List Int):Rq:=
 if aF bs=0 then
  if bs.getD 1 0=1 then ⟨1,bs.getD 2 0,bs.getD 3 0,bs.getD 4 0,bs.getD 5 0,bs.getD 6 0,bs.getD 7 0,bs.getD 8 0,bs.getD 9 0,bs.getD 10 0,gA bs 11,gA bs 19,0⟩
  else if bs.getD 1 0=2 then ⟨2,bs.getD 2 0,bs.getD 3 0,bs.getD 4 0,bs.getD 5 0,bs.getD 6 0,bs.getD 7 0,bs.getD 8 0,bs.getD 9 0,0,0,0,gA bs 10⟩
  else if bs.getD 1 0=3\/bs.getD 1 0=4 then ⟨bs.getD 1 0,bs.getD 2 0,bs.getD 3 0,bs.getD 4 0,bs.getD 5 0,bs.getD 6 0,bs.getD 7 0,bs.getD 8 0,bs.getD 9 0,0,0,0,0⟩
  else ⟨bs.getD 1 0,0,0,0,0,0,0,0,0,0,0,0,0⟩
 else Rq.zero
structure Rp where
 c:Int
 a:Int
 b:Int
def bh (c a b:Int):List Int:=[17,c] ++ bI a ++ bI b
def Rq.key (q:Rq):Ky:=⟨q.k0,q.k1,q.k2,q.k3,q.k4,q.k5,q.k6,q.k7⟩
structure Ky.ok (k:Ky):Prop where
 h0:0<=k.k0/\k.k0<=255
 h1:0<=k.k1/\k.k1<=255
 h2:0<=k.k2/\k.k2<=255
 h3:0<=k.k3/\k.k3<=255
 h4:0<=k.k4/\k.k4<=255
 h5:0<=k.k5/\k.k5<=255
 h6:0<=k.k6/\k.k6<=255
 h7:0<=k.k7/\k.k7<=255
abbrev cM (a x y:Int):Prop:=(a=1/\1<=x)\/(a=2/\1<=y)
structure Qt.ok (q:Qt):Prop where
 kd:cM q.kd q.x q.y
 x:U7 q.x
 y:U7 q.y
 lv:U7 q.lv
 wn:U7 q.wn
def aG (q:Qt)(a:Int):Qt:=if q.kd=1 then q else if a / q.y=q.wn then q else ⟨q.kd,q.x,q.y,0,a / q.y⟩
def bn (q:Qt)(a:Int):Int:=if q.lv<a then a else q.lv
def mo (q:Qt)(a n:Int):Qt×Rp:=
 if n=0 then (q,⟨2,q.lv,q.wn⟩)
 else if 18446744073709551615<bn q a+n * q.x then (q,⟨3,18446744073709551615,0⟩)
 else if q.y<(n - 1) * q.x then (q,⟨3,18446744073709551615,0⟩)
 else if al (a+q.y)<bn q a+(n - 1) * q.x then (q,⟨3,bn q a+(n - 1) * q.x - q.y,0⟩)
 else (⟨q.kd,q.x,q.y,bn q a+n * q.x,q.wn⟩,⟨2,bn q a+n * q.x,q.wn⟩)
def nZ (q:Qt)(n:Int):Qt×Rp:=
 if q.lv+n<=q.x then (⟨q.kd,q.x,q.y,q.lv+n,q.wn⟩,⟨2,q.lv+n,q.wn⟩)
 else if q.x<n then (q,⟨3,18446744073709551615,0⟩)
 else (q,⟨3,al (q.wn * q.y+q.y),0⟩)
def aI (q:Qt)(a n:Int):Qt×Rp:=if q.kd=1 then mo q a n else nZ (aG q a) n
def eM (q:Qt)(a n:Int):Qt×Rp:=(if (aI q a n).2.c=2/\n≠0 then (aI q a n).1 else q,(aI q a n).2)
def aZ (k:Ky):List (Ky×Qt)->Option Qt
 | []=>none
 | (k',q) :: r=>if k'=k then some q else aZ k r
def jH (k:Ky)(q:Qt):List (Ky×Qt)->List (Ky×Qt)
 | []=>[]
 | (k',q') :: r=>if k'=k then (k',q) :: r else (k',q') :: jH k q r
def del (k:Ky):List (Ky×Qt)->List (Ky×Qt)
 | []=>[]
 | (k',q') :: r=>if k'=k then r else (k',q') :: del k r
structure Ld where
 time:Int
 adm:Int
 ks:List (Ky×Qt)
structure Ld.ok (L:Ld):Prop where
 time:U7 L.time
 adm:U7 L.adm
 key:∀ p∈L.ks,p.1.ok
 qt:∀ p∈L.ks,p.2.ok
 nd:(L.ks.map Prod.fst).Nodup
 len:L.ks.length<=12
def aS (L:Ld)(q:Rq):Ld×Rp:=
 if q.op=1 then
  if ¬cM q.kd q.x q.y then (L,⟨8,0,0⟩)
  else if (aZ q.key L.ks).isSome then (L,⟨9,0,0⟩)
  else if 12<=L.ks.length then (L,⟨5,0,0⟩)
  else (⟨L.time,L.adm,L.ks ++ [(q.key,⟨q.kd,q.x,q.y,0,0⟩)]⟩,⟨1,0,0⟩)
 else if q.op=2 then
  match aZ q.key L.ks with
  | none=>(L,⟨4,0,0⟩)
  | some a=>(⟨L.time,if (eM a L.time q.n).2.c=2 then (L.adm+q.n) % 18446744073709551616 else L.adm,jH q.key (eM a L.time q.n).1 L.ks⟩,(eM a L.time q.n).2)
 else if q.op=3 then
  match aZ q.key L.ks with
  | none=>(L,⟨4,0,0⟩)
  | some a=>(L,⟨1,(aG a L.time).lv,(aG a L.time).wn⟩)
 else if q.op=4 then
  match aZ q.key L.ks with
  | none=>(L,⟨4,0,0⟩)
  | some _=>(⟨L.time,L.adm,del q.key L.ks⟩,⟨1,0,0⟩)
 else if q.op=6 then (L,⟨1,L.time,0⟩)
 else (L,⟨1,0,0⟩)
def gH:Nat->Ld->List Int->Ld×List Rp×List Int×Int
 | 0,L,bs=>(L,[],bs,aF bs)
 | n+1,L,bs=>
  if aF bs=0 then
   ((gH n (aS L (rdQ bs)).1 (bs.drop (dT bs).toNat)).1,(aS L (rdQ bs)).2 :: (gH n (aS L (rdQ bs)).1 (bs.drop (dT bs).toNat)).2.1,(gH n (aS L (rdQ bs)).1 (bs.drop (dT bs).toNat)).2.2)
  else (L,[],bs,aF bs)
structure Cn where
 waits:List Int
 bad:Bool
def aW (L:Ld)(a:Int):Ld:=⟨if L.time<a then a else L.time,L.adm,L.ks⟩
def gu (L:Ld)(c:Cn)(a:Int)(bs:List Int):Ld×Cn×List Rp:=
 if c.bad then (aW L a,c,[])
 else
  if (gH (c.waits ++ bs).length (aW L a) (c.waits ++ bs)).2.2.2=2 then
   ((gH (c.waits ++ bs).length (aW L a) (c.waits ++ bs)).1,⟨[],true⟩,(gH (c.waits ++ bs).length (aW L a) (c.waits ++ bs)).2.1 ++ [⟨6,0,0⟩])
  else ((gH (c.waits ++ bs).length (aW L a) (c.waits ++ bs)).1,⟨(gH (c.waits ++ bs).length (aW L a) (c.waits ++ bs)).2.2.1,false⟩,(gH (c.waits ++ bs).length (aW L a) (c.waits ++ bs)).2.1)
def bG (rs:List Rp):List Int:=rs.flatMap fun a=>bh a.c a.a a.b
theorem iy (a:Option Addr)(n c:Nat)(w:World):Calls prog 104 #[.slice a n c] w fun e w'=>e=.returned (.pointer (some ⟨w.heap.size,0,none⟩))/\w'=w.alloc (.cells #[.slice a n c] 264):=by
 go_enter func104,ntmps104
 go_wp2
 go_ret
 exact⟨rfl,rfl⟩
theorem iT {w b:World}{F c g:Nat}(v:Value)(a:w.grownBy b (some F))(e:c=F\/w.heap.size<=c):w.grownBy (b.setCell ⟨c,g,none⟩ v) (some F):=by
 refine⟨a.os,a.tape,a.output,by simpa using a.size,fun d i f=>?_⟩
 refine (Below.heap_setCell b ⟨c,g,none⟩ v d ?_).trans (a.block d i f)
 show d≠c;rcases e with rfl | e
 ·exact fun h=>f (by rw [h])
 ·omega
theorem St.of_grown {w c a f:World}{g:Nat}{p v:Value}{k:Array Value}(S:St w c a g p k)(i:a.grownBy f (some c.heap.size))(l:f.cell? ⟨c.heap.size,0,none⟩=some v)(m:f.frozen? ⟨c.heap.size,0,none⟩=false):St w c f g v k:=by
 have q:=S.h2;have r:=S.hg;have j:=S.sz;have s:=i.size;have h:∀ d,d≠c.heap.size->d<a.heap.size->f.heap[d]?=a.heap[d]?:=fun d n o=>i.block d o (by intro e;injection e with e;exact n e);refine⟨l,m,fun b=>?_,fun b=>?_,fun b=>?_,fun b=>?_,fun b=>?_,S.B.grown i (by have:=S.B.size;omega) (by intro _ e;injection e with e;omega),by omega,S.hg,S.h2⟩
 ·exact (World.cell?_of_block (w:=a) (h (c.heap.size+1) (by omega) j)).trans (S.r b)
 ·exact (World.frozen?_of_block (w:=a) (h (c.heap.size+1) (by omega) j)).trans (S.rf b)
 ·exact (World.cell?_of_block (w:=a) (h w.heap.size (by omega) (by omega))).trans (S.R b)
 ·exact (World.frozen?_of_block (w:=a) (h w.heap.size (by omega) (by omega))).trans (S.Rf b)
 ·exact (World.cell?_of_block (w:=a) (h g (by omega) (by omega))).trans (S.G b)
theorem ts (F g o c:Nat)(x:Int)(k l:Nat->Int)(w:World)(H:F<w.heap.size)(R:g≠F)(I:g<w.heap.size)(G:w.cell? ⟨F,0,none⟩=some (.slice (some ⟨g,o,none⟩) c c))(V:w.frozen? ⟨F,0,none⟩=false)(a6:17<=c)(a7:c<=255)(S:w.cell? ⟨g,o,none⟩=some (.int .u8 x))(P:∀ a,a<8->w.cell? ⟨g,o+1+a,none⟩=some (.int .u8 (k a)))(T:∀ a,0<=k a/\k a<=255)(Q:∀ a,a<8->w.cell? ⟨g,o+9+a,none⟩=some (.int .u8 (l a)))(U:∀ a,0<=l a/\l a<=255) :
  Calls prog 107 #[pO F 0] w fun e w'=>e=.returned (ot x (cu k 8) (cu l 8))/\(∃ i,w'.cell? ⟨F,0,none⟩=some (.slice i (c - 17) (c - 17))/\(17<c->i=some ⟨g,o+17,none⟩))/\w'.frozen? ⟨F,0,none⟩=false/\w.grownBy w' (some F):=by
 have av:=aa P;have a1:=aa Q;have a0:=aa T;have a2:=aa U;clear P Q T U;go_enter func107,ntmps107
 go_wp2_with fail
 obtain⟨d,h⟩:∃ d,d=w.alloc (uR):=⟨_,rfl⟩;rw [<-h];have j:∀ b a,b<w.heap.size->d.cell? ⟨b,a,none⟩=w.cell? ⟨b,a,none⟩:=fun b a f=>by rw [h,World.cell?_alloc_lt _ _ ⟨b,a,none⟩ f]
 have p:d.frozen? ⟨F,0,none⟩=false:=by rw [h];exact (World.frozen?_of_block (w:=w) ((World.grownBy_alloc w _ none).block F H (by simp))).trans V
 have W:∀ a,d.cell? ⟨w.heap.size,a,none⟩=(#[.int .u8 0,.int .u64 0,.int .u64 0]:Array Value)[a]?:=fun a=>by rw [h];exact World.cell?_alloc_at _ _ _ _ rfl
 have X:∀ a,d.frozen? ⟨w.heap.size,a,none⟩=false:=fun a=>by rw [h];simp
 have O:w.grownBy d (some F):=by rw [h];exact World.grownBy_alloc _ _ _
 clear h;refine (eG F g o c x d ((j F 0 H).trans G) p (by omega) (by omega) ((j g o I).trans S)).mono ?_
 rintro e m ⟨rfl,r⟩;have A:∀ b a,b≠F->m.cell? ⟨b,a,none⟩=d.cell? ⟨b,a,none⟩:=fun b a f=>by rw [r];exact cf _ _ _ _ _ _ f
 have y:m.cell? ⟨F,0,none⟩=some (.slice (some ⟨g,o+1,none⟩) (c - 1) (c - 1)):=by rw [r];exact World.cell?_setCell_same d _ _ ((j F 0 H).trans G)
 have C:∀ b a,d.frozen? ⟨b,a,none⟩=false->m.frozen? ⟨b,a,none⟩=false:=fun b a f=>by rw [r,World.frozen?_setCell];exact f
 have L:w.grownBy m (some F):=by rw [r];exact iT _ O (il rfl)
 clear r;go_wp2_with fail
 refine (ix F g (o+1) (c - 1) k m y (C _ _ p) (by omega) (by omega) (fun a J=>(A g _ R).trans ((j g _ I).trans (av.out a J))) a0.out).mono ?_
 rintro e n ⟨rfl,i,s,q⟩;obtain rfl:=q (by omega);clear q;have B:∀ b a,b≠F->n.cell? ⟨b,a,none⟩=d.cell? ⟨b,a,none⟩:=fun b a f=>by rw [s];exact (cf _ _ _ _ _ _ f).trans (A b a f)
 have z:n.cell? ⟨F,0,none⟩=some (.slice (some ⟨g,o+9,none⟩) (c - 9) (c - 9)):=by rw [s];exact World.cell?_setCell_same m _ _ y
 have D:∀ b a,d.frozen? ⟨b,a,none⟩=false->n.frozen? ⟨b,a,none⟩=false:=fun b a f=>by rw [s,World.frozen?_setCell];exact C b a f
 have M:w.grownBy n (some F):=by rw [s];exact iT _ L (il rfl)
 clear s;go_wp2_with fail
 refine (ix F g (o+9) (c - 9) l n z (D _ _ p) (by omega) (by omega) (fun a J=>(B g _ R).trans ((j g _ I).trans (a1.out a J))) a2.out).mono ?_
 rintro e u ⟨rfl,i,t,q⟩;have a4:∀ a,u.cell? ⟨w.heap.size,a,none⟩=(#[.int .u8 0,.int .u64 0,.int .u64 0]:Array Value)[a]?:=fun a=>by rw [t];exact ((cf _ _ _ _ _ _ (by omega)).trans (B _ a (by omega))).trans (W a)
 have K:u.cell? ⟨F,0,none⟩=some (.slice i (c - 17) (c - 17)):=by rw [t];exact World.cell?_setCell_same n _ _ z
 have E:∀ b a,d.frozen? ⟨b,a,none⟩=false->u.frozen? ⟨b,a,none⟩=false:=fun b a f=>by rw [t,World.frozen?_setCell];exact D b a f
 have N:w.grownBy u (some F):=by rw [t];exact iT _ M (il rfl)
 have a8:∀ a,u.frozen? ⟨w.heap.size,a,none⟩=false:=fun a=>E _ _ (X a);have Y:=E _ _ p;clear t C D E A B j W X G V S p O L M y z;have a5:¬F=w.heap.size:=by omega
 have ad:=aa K;have Z:=aa q;have ao:=aa N;have a3:=aa Y;clear K q N Y;go_wp2
 refine bodyPost_ret (v:=(ot x (cu k 8) (cu l 8))) (by simp [results,results107,go_sem,a4]) rfl ⟨rfl,?_⟩
 refine⟨⟨i,?_,fun f=>?_⟩,?_,?_⟩
 ·repeat rw [cf _ _ _ _ _ _ a5]
  exact ad.out
 ·exact Z.out (by omega)
 ·repeat rw [World.frozen?_setCell]
  exact a3.out
 ·repeat (refine iT _ ?_ (ir lz))
  exact ao.out
theorem jeR (g o l:Nat)(b c d e f h i j:Int)(w:World)(A:g<w.heap.size)(B:8<=l)
  (q:w.cell? ⟨g,o,none⟩=some (.int .u8 b))
  (r:w.cell? ⟨g,o+1,none⟩=some (.int .u8 c))
  (s:w.cell? ⟨g,o+2,none⟩=some (.int .u8 d))
  (t:w.cell? ⟨g,o+3,none⟩=some (.int .u8 e))
  (u:w.cell? ⟨g,o+4,none⟩=some (.int .u8 f))
  (v:w.cell? ⟨g,o+5,none⟩=some (.int .u8 h))
  (x:w.cell? ⟨g,o+6,none⟩=some (.int .u8 i))
  (y:w.cell? ⟨g,o+7,none⟩=some (.int .u8 j)) :
  (Builtin.copy_ #[76,76] 3 #[.slice (some ⟨w.heap.size+1,0,none⟩) 8 8,.slice (some ⟨g,o,none⟩) l l]).run prog (((w.alloc (ow)).alloc (ow)).drew)
   = .ok (.int .i64 8) (((w.alloc (ow)).alloc (uw b c d e f h i j)).drew):=by
 have z:(((w.alloc (ow)).alloc (ow)).drew).heap[w.heap.size+1]?=some (.cells #[.int .u8 0,.int .u8 0,.int .u8 0,.int .u8 0,.int .u8 0,.int .u8 0,.int .u8 0,.int .u8 0] 63 (0,0)):=by
  show ((w.heap.push _).push _)[w.heap.size+1]?=_;rw [Array.getElem?_push,if_pos (by simp)]
 have D:∀ k m,([.int .u8 b,.int .u8 c,.int .u8 d,.int .u8 e,.int .u8 f,.int .u8 h,.int .u8 i,.int .u8 j]:List Value)[k]?=some m->(((w.alloc (ow)).alloc (ow)).drew).cell? ((⟨g,o,none⟩:Addr).add k)=some m:=by
  intro k m a;rw [Addr.add_lit];show ((w.alloc (ow)).alloc (ow)).cell? ⟨g,o+k,none⟩=some m;rw [World.cell?_alloc_lt _ _ ⟨g,o+k,none⟩ (by simp;omega),World.cell?_alloc_lt _ _ ⟨g,o+k,none⟩ A];match k,a with
  | 0,a=>simp at a;subst a;exact q
  | 1,a=>simp at a;subst a;exact r
  | 2,a=>simp at a;subst a;exact s
  | 3,a=>simp at a;subst a;exact t
  | 4,a=>simp at a;subst a;exact u
  | 5,a=>simp at a;subst a;exact v
  | 6,a=>simp at a;subst a;exact x
  | 7,a=>simp at a;subst a;exact y
 have C:Nat.min l 8=8:=Nat.min_eq_right B;rw [run_copy_row (P:=prog) _ 76 76 3 5 (w.heap.size+1) 0 8 8 ⟨g,o,none⟩ l l _ 63 [.int .u8 b,.int .u8 c,.int .u8 d,.int .u8 e,.int .u8 f,.int .u8 h,.int .u8 i,.int .u8 j] underlying76 (by kernel_rfl) z (by rw [C];rfl) D (by simp) (by simp [Value.oneCell'])];have p:(((w.alloc (ow)).alloc (ow)).drew).setRow (w.heap.size+1) #[.int .u8 b,.int .u8 c,.int .u8 d,.int .u8 e,.int .u8 f,.int .u8 h,.int .u8 i,.int .u8 j]=((w.alloc (ow)).alloc (uw b c d e f h i j)).drew:=by
  show (((w.alloc (ow)).alloc (ow)).setRow (w.heap.size+1) #[.int .u8 b,.int .u8 c,.int .u8 d,.int .u8 e,.int .u8 f,.int .u8 h,.int .u8 i,.int .u8 j]).drew=_;have n:=World.setRow_alloc_new (w.alloc (ow)) #[.int .u8 0,.int .u8 0,.int .u8 0,.int .u8 0,.int .u8 0,.int .u8 0,.int .u8 0,.int .u8 0] #[.int .u8 b,.int .u8 c,.int .u8 d,.int .u8 e,.int .u8 f,.int .u8 h,.int .u8 i,.int .u8 j] 63;rw [World.size_alloc] at n;rw [n]
 simp only [List.take_zero,List.nil_append,List.length_cons,List.length_nil];exact congrArg _ p
theorem qI (F g o a:Nat)(b c d f h i j k:Int)(w:World)(y:F<w.heap.size)(u:g<w.heap.size)(A:8<a)(B:a<=255)(x:w.cell? ⟨F,0,none⟩=some (.slice (some ⟨g,o,none⟩) a a))(E:w.frozen? ⟨F,0,none⟩=false)
  (l:w.cell? ⟨g,o,none⟩=some (.int .u8 b))
  (m:w.cell? ⟨g,o+1,none⟩=some (.int .u8 c))
  (n:w.cell? ⟨g,o+2,none⟩=some (.int .u8 d))
  (p:w.cell? ⟨g,o+3,none⟩=some (.int .u8 f))
  (q:w.cell? ⟨g,o+4,none⟩=some (.int .u8 h))
  (r:w.cell? ⟨g,o+5,none⟩=some (.int .u8 i))
  (s:w.cell? ⟨g,o+6,none⟩=some (.int .u8 j))
  (t:w.cell? ⟨g,o+7,none⟩=some (.int .u8 k)) :
  Calls prog 106 #[pO F 0] w fun e w'=>e=.returned (oE b c d f h i j k)/\Below w.heap.size (w.setCell ⟨F,0,none⟩ (.slice (some ⟨g,o+8,none⟩) (a - 8) (a - 8))) w':=by
 have z:=jeR g o a b c d f h i j k w u (by omega) l m n p q r s t;have D:¬a=8:=by omega
 have C:(8:Int)<=a:=by omega
 clear l m n p q r s t;go_enter func106,ntmps106
 go_wp2
 go_region
 go_wp2
 exact bodyPost_ret (v:=(oE b c d f h i j k)) (by simp [results,results106,go_sem]) rfl ⟨rfl,(((Below.refl _ _).alloc (by simp) _).alloc (by simp) _).drew⟩
theorem qH (F g o:Nat)(a b c d f h i j:Int)(w:World)(x:F<w.heap.size)(t:g<w.heap.size)(u:w.cell? ⟨F,0,none⟩=some (.slice (some ⟨g,o,none⟩) 8 8))(z:w.frozen? ⟨F,0,none⟩=false)
  (k:w.cell? ⟨g,o,none⟩=some (.int .u8 a))
  (l:w.cell? ⟨g,o+1,none⟩=some (.int .u8 b))
  (m:w.cell? ⟨g,o+2,none⟩=some (.int .u8 c))
  (n:w.cell? ⟨g,o+3,none⟩=some (.int .u8 d))
  (p:w.cell? ⟨g,o+4,none⟩=some (.int .u8 f))
  (q:w.cell? ⟨g,o+5,none⟩=some (.int .u8 h))
  (r:w.cell? ⟨g,o+6,none⟩=some (.int .u8 i))
  (s:w.cell? ⟨g,o+7,none⟩=some (.int .u8 j)) :
  Calls prog 106 #[pO F 0] w fun e w'=>e=.returned (oE a b c d f h i j)/\∃ v,Below w.heap.size (w.setCell ⟨F,0,none⟩ v) w':=by
 have y:=jeR g o 8 a b c d f h i j w t (by omega) k l m n p q r s;clear k l m n p q r s;go_enter func106,ntmps106
 go_wp2
 go_region
 go_wp2
 exact bodyPost_ret (v:=(oE a b c d f h i j)) (by simp [results,results106,go_sem]) rfl ⟨rfl,_,(((Below.refl _ _).alloc (by simp) _).alloc (by simp) _).drew⟩
theorem ab {w:World}{b:Nat}{c:Array Value}{t:TypeId}{d:Nat×Nat}(e:w.heap[b]?=some (.cells c t d))(a:Nat):w.cell? ⟨b,a,none⟩=c[a]?:=by
 simp [World.cell?,e]
theorem ag {w:World}{b:Nat}{c:Array Value}{t:TypeId}(a:w.heap[b]?=some (.cells c t))(d:Nat):w.frozen? ⟨b,d,none⟩=false:=by
 simp [World.frozen?,a]
theorem am {w:World}{b:Nat}{o:Obj}(a:w.heap[b]?=some o):b<w.heap.size:=(Array.getElem?_eq_some_iff.1 a).1
theorem af (w:World)(o:Obj):(w.alloc o).heap[w.heap.size]?=some o:=(MapKept.heap_alloc w o).1
theorem aC {w:World}{o:Obj}{k:Nat}(a:k=w.heap.size):(w.alloc o).heap[k]?=some o:=a▸af w o
theorem aE (w:World)(k:Nat):w.drew.heap[k]?=w.heap[k]?:=rfl
theorem ah (w:World)(o:Obj){k:Nat}(a:k<w.heap.size):(w.alloc o).heap[k]?=w.heap[k]?:=Below.heap_alloc w o k a
theorem ai {w:World}{b:Nat}{c:Array Value}{t:TypeId}{a:Nat×Nat}(e:w.heap[b]?=some (.cells c t a))(d:Nat)(v:Value):(w.setCell ⟨b,d,none⟩ v).heap[b]?=some (.cells (c.setIfInBounds d v) t a):=by
 simp [World.setCell,Array.getElem?_modify,e]
theorem ac {w:World}{b k:Nat}(c:k≠b)(a:Nat)(v:Value):(w.setCell ⟨b,a,none⟩ v).heap[k]?=w.heap[k]?:=Below.heap_setCell w ⟨b,a,none⟩ v k c
theorem jbV {w:World}{b:Nat}{f g h:Value}{t:TypeId}{e:Nat×Nat}(i:w.heap[b]?=some (.cells #[f,g,h] t e))(a c d:Value) :
  (((w.setCell ⟨b,0,none⟩ a).setCell ⟨b,1,none⟩ c).setCell ⟨b,2,none⟩ d).heap[b]?=some (.cells #[a,c,d] t e):=by
 simpa using ai (ai (ai i 0 a) 1 c) 2 d
theorem aB {w:World}{b:Nat}{x:Obj}(a:w.heap[b]?=some x)(o:Obj):(w.alloc o).heap[b]?=some x:=(ah w o (am a)).trans a
theorem ce {w:World}{b:Nat}{c:Array Value}{t:TypeId}{d:Nat×Nat}(e:w.heap[b]?=some (.cells c t d))(o:Obj)(a:Nat):(w.alloc o).cell? ⟨b,a,none⟩=c[a]?:=ab (aB e o) a
theorem jG {w:World}{b:Nat}{c:Array Value}{t:TypeId}(d:w.heap[b]?=some (.cells c t))(o:Obj)(a:Nat):(w.alloc o).frozen? ⟨b,a,none⟩=false:=ag (aB d o) a
structure ae (S:NP)(w w':World):Prop where
 os:w'.os=w.os
 tape:w'.tape=w.tape
 output:w'.output=w.output
 size:w.heap.size<=w'.heap.size
 block:∀ k,k<w.heap.size->¬S k->w'.heap[k]?=w.heap[k]?
theorem ae.refl (S:NP)(w:World):ae S w w:=⟨rfl,rfl,rfl,lz,fun _ _ _=>rfl⟩
theorem ae.of_below {S:NP}{w w':World}(a:B7 w w'):ae S w w':=⟨a.os,a.tape,a.output,a.size,fun c b _=>a.block c b⟩
theorem ae.mono {S T:NP}{w w':World}(a:ae S w w')(e:∀ k,S k->k<w.heap.size->T k):ae T w w':=⟨a.os,a.tape,a.output,a.size,fun k b d=>a.block k b (fun c=>d (e k c b))⟩
theorem ae.trans {S:NP}{a b c:World}(d:ae S a b)(k:ae S b c):ae S a c:=
 ⟨k.os.trans d.os,k.tape.trans d.tape,k.output.trans d.output,lq d.size k.size,fun g f e=>(k.block g (ll f d.size) e).trans (d.block g f e)⟩
theorem ae.then {S T:NP}{a b c:World}(d:ae S a b)(k:ae T b c)(h:∀ i,i<a.heap.size->T i->S i):ae S a c:=
 ⟨k.os.trans d.os,k.tape.trans d.tape,k.output.trans d.output,lq d.size k.size,fun i e f=>(k.block i (ll e d.size) (fun g=>f (h i e g))).trans (d.block i e f)⟩
theorem ae.alloc {S:NP}{a w:World}(b:ae S a w)(o:Obj):ae S a (w.alloc o):=
 ⟨b.os,b.tape,b.output,by rw [World.size_alloc];exact Nat.le_succ_of_le b.size,fun e c d=>(ah w o (ll c b.size)).trans (b.block e c d)⟩
theorem ae.drew {S:NP}{a w:World}(b:ae S a w):ae S a w.drew:=⟨b.os,b.tape,b.output,b.size,b.block⟩
theorem ae.set {S:NP}{a w:World}(c:ae S a w){b:Nat}(d:S b\/a.heap.size<=b)(f:Nat)(v:Value):ae S a (w.setCell ⟨b,f,none⟩ v):=
 ⟨c.os,c.tape,c.output,by rw [World.size_setCell];exact c.size,fun i h e=>(ac (fun g=>by subst g;rcases d with d | d;exact e d;omega) f v).trans (c.block i h e)⟩
theorem ae.below {S:NP}{w w':World}(a:ae S w w'){B:Nat}(b:B<=w.heap.size)(c:∀ k,S k->B<=k):Below B w w':=
 ⟨a.os,a.tape,a.output,a.size,fun k d=>a.block k (ll d b) (fun e=>by have:=c k e;omega)⟩
end Go.Proofs.YtnlgndpcddngoaaGreatDoor
