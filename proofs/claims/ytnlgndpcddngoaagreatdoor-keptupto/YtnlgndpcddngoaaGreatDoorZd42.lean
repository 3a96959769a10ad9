import Derived.Test.YtnlgndpcddngoaaGreatDoorZd40
import Derived.Test.YtnlgndpcddngoaaGreatDoorZd36
set_option linter.unusedVariables false
set_option linter.unusedSimpArgs false
set_option maxRecDepth 100000
set_option maxHeartbeats 4000000
namespace Go.Proofs.YtnlgndpcddngoaaGreatDoor
open Go.RowKit Go.Maps
def StOk (blk T:Int)(l:Ln)(a b:Int):Prop:=if l.kd=2 then (b=T / l.y∧¬(0<l.at_∧b<l.in_))∧(if l.in_=b then l.at_≤a∧a - l.at_≤blk else 0≤a∧a≤blk) else b=0∧l.at_≤a∧a - l.at_≤blk
structure LwR (W:World)(wb bb:Nat)(lv:Value)(blk T:Int):Prop where
 k1:W.cell? ⟨wb,1,none⟩=some (.pointer (some ⟨bb,0,none⟩))
 k3:W.cell? ⟨wb,3,none⟩=some (.int .u64 blk)
 k5:W.cell? ⟨wb,5,none⟩=some (.bool false)
 t:W.heap[bb]?=some (.cells #[lv,.int .u64 T] 60)
theorem LwR.below {W W':World}{wb bb:Nat}{lv:Value}{blk T:Int}(h:LwR W wb bb lv blk T)(hb:Below W.heap.size W W'):LwR W' wb bb lv blk T:=
 ⟨(hb.cell (p:=⟨wb,1,none⟩) (jaN h.k1)).trans h.k1,(hb.cell (p:=⟨wb,3,none⟩) (jaN h.k3)).trans h.k3,(hb.cell (p:=⟨wb,5,none⟩) (jaN h.k5)).trans h.k5,(hb.block bb (ltB h.t)).trans h.t⟩
theorem jiX (wb bb:Nat)(lv:Value)(blk T:Int)(l:Ln)(c a b:Int)(W:World)(H:LwR W wb bb lv blk T)(hl:l.ok)(hT:0≤T∧T≤18446744073709551615)(ha:0≤a∧a≤18446744073709551615)(hbl:0≤blk)(hs:StOk blk T l a b) :
  Calls Tryz.prog 62 #[.pointer (some ⟨wb,0,none⟩),.agg #[.int .u8 l.k.k0,.int .u8 l.k.k1,.int .u8 l.k.k2,.int .u8 l.k.k3,.int .u8 l.k.k4,.int .u8 l.k.k5,.int .u8 l.k.k6,.int .u8 l.k.k7,.int .u8 l.kd,.int .u64 l.x,.int .u64 l.y,.int .u64 l.at_,.int .u64 l.in_],.agg #[.int .u8 c,.int .u64 a,.int .u64 b]] W fun e w'=>e=.returned (.bool true)∧Below W.heap.size W w':=by
 obtain⟨V,hV⟩:∃ V,V=(W.alloc (.cells #[.int .u8 l.k.k0,.int .u8 l.k.k1,.int .u8 l.k.k2,.int .u8 l.k.k3,.int .u8 l.k.k4,.int .u8 l.k.k5,.int .u8 l.k.k6,.int .u8 l.k.k7,.int .u8 l.kd,.int .u64 l.x,.int .u64 l.y,.int .u64 l.at_,.int .u64 l.in_] 151)).alloc (.cells #[.int .u8 c,.int .u64 a,.int .u64 b] 40):=⟨_,rfl⟩
 have v0:V.heap[W.heap.size]?=some (.cells #[.int .u8 l.k.k0,.int .u8 l.k.k1,.int .u8 l.k.k2,.int .u8 l.k.k3,.int .u8 l.k.k4,.int .u8 l.k.k5,.int .u8 l.k.k6,.int .u8 l.k.k7,.int .u8 l.kd,.int .u64 l.x,.int .u64 l.y,.int .u64 l.at_,.int .u64 l.in_] 151):=hV▸upB (ja1 _ _) _
 have v1:V.heap[W.heap.size+1]?=some (.cells #[.int .u8 c,.int .u64 a,.int .u64 b] 40):=hV▸heapN (by simp)
 have hBV:Below W.heap.size W V:=hV▸((Below.refl _ W).alloc (Nat.le_refl _) _).alloc (by simp) _
 have HV:=H.below hBV
 obtain⟨k1,k3,k5,t0⟩:=HV
 have t1:=cellB t0
 have e0:=cellB v0
 have e1:=cellB v1
 have hat:=hl.at_
 have HBV:=hide hBV
 have hkd:=hl.kd
 clear v0 v1 hBV t0 H
 rcases hkd with ⟨hk,hx⟩ | ⟨hk,hy⟩
 ·have hs':b=0∧l.at_≤a∧a - l.at_≤blk:=by unfold StOk at hs;rw [if_neg (by omega)] at hs;exact hs
  obtain⟨rfl,h1,h2⟩:=hs'
  rw [hk] at e0
  have hw:IntKind.u64.wrap (a - l.at_)=a - l.at_:=by rw [IntKind.wrap_u64];omega
  clear hs
  rw [hk] at hV ⊢
  go_enter Tryz.func62,Tryz.ntmps62
  go_upto_region 1 with fail
  rw [←hV]
  clear hV
  by_cases hle:a≤l.at_
  ·go_wp2_with (go_quiet (fail))
   go_ret
   exact⟨rfl,by first | exact below_drewN HBV.out _ | exact below_drewN (below_drewN HBV.out _) _ | exact below_drewN (below_drewN (below_drewN HBV.out _) _) _ | exact below_drewN (below_drewN (below_drewN (below_drewN HBV.out _) _) _) _⟩
  ·go_wp2_with (go_quiet (fail))
   go_ret
   exact⟨rfl,by first | exact below_drewN HBV.out _ | exact below_drewN (below_drewN HBV.out _) _ | exact below_drewN (below_drewN (below_drewN HBV.out _) _) _ | exact below_drewN (below_drewN (below_drewN (below_drewN HBV.out _) _) _) _⟩
 ·have hs':(b=T / l.y∧¬(0<l.at_∧b<l.in_))∧(if l.in_=b then l.at_≤a∧a - l.at_≤blk else 0≤a∧a≤blk):=by unfold StOk at hs;rw [if_pos hk] at hs;exact hs
  clear hs
  obtain⟨⟨hbq,hlt⟩,hrest⟩:=hs'
  have hyn:¬l.y=0:=by omega
  have htd:T.tdiv l.y=b:=by rw [hbq];exact Int.tdiv_eq_ediv_of_nonneg hT.1
  have hb0:0≤b∧b≤18446744073709551615:=by rw [hbq];exact⟨Int.ediv_nonneg hT.1 (by omega),Int.le_trans (Int.ediv_le_self _ hT.1) hT.2⟩
  have hwb:IntKind.u64.wrap b=b:=by rw [IntKind.wrap_u64];omega
  clear hbq
  rw [hk] at e0
  rw [hk] at hV ⊢
  go_enter Tryz.func62,Tryz.ntmps62
  go_upto_region 1 with fail
  rw [←hV]
  clear hV
  by_cases hin:l.in_=b
  ·rw [if_pos hin] at hrest
   obtain⟨h1,h2⟩:=hrest
   have hw:IntKind.u64.wrap (a - l.at_)=a - l.at_:=by rw [IntKind.wrap_u64];omega
   have hnb:¬b<l.in_:=by omega
   clear hlt
   rw [hin] at e0 ⊢
   have hbb:¬b<b:=by omega
   by_cases hp:0<l.at_
   ·by_cases hle:a≤l.at_
    ·go_wp2_with (go_quiet (fail))
     go_ret
     exact⟨rfl,by first | exact below_drewN HBV.out _ | exact below_drewN (below_drewN HBV.out _) _ | exact below_drewN (below_drewN (below_drewN HBV.out _) _) _ | exact below_drewN (below_drewN (below_drewN (below_drewN HBV.out _) _) _) _⟩
    ·go_wp2_with (go_quiet (fail))
     go_ret
     exact⟨rfl,by first | exact below_drewN HBV.out _ | exact below_drewN (below_drewN HBV.out _) _ | exact below_drewN (below_drewN (below_drewN HBV.out _) _) _ | exact below_drewN (below_drewN (below_drewN (below_drewN HBV.out _) _) _) _⟩
   ·by_cases hle:a≤l.at_
    ·go_wp2_with (go_quiet (fail))
     go_ret
     exact⟨rfl,by first | exact below_drewN HBV.out _ | exact below_drewN (below_drewN HBV.out _) _ | exact below_drewN (below_drewN (below_drewN HBV.out _) _) _ | exact below_drewN (below_drewN (below_drewN (below_drewN HBV.out _) _) _) _⟩
    ·go_wp2_with (go_quiet (fail))
     go_ret
     exact⟨rfl,by first | exact below_drewN HBV.out _ | exact below_drewN (below_drewN HBV.out _) _ | exact below_drewN (below_drewN (below_drewN HBV.out _) _) _ | exact below_drewN (below_drewN (below_drewN (below_drewN HBV.out _) _) _) _⟩
  ·rw [if_neg hin] at hrest
   obtain⟨h1,h2⟩:=hrest
   have hw:IntKind.u64.wrap (a - 0)=a:=by rw [IntKind.wrap_u64];omega
   have hw':IntKind.u64.wrap a=a:=by rw [IntKind.wrap_u64];omega
   by_cases hp:0<l.at_
   ·have hnb:¬b<l.in_:=fun h=>hlt ⟨hp,h⟩
    clear hlt
    by_cases hle:a≤0
    ·go_wp2_with (go_quiet (fail))
     go_ret
     exact⟨rfl,by first | exact below_drewN HBV.out _ | exact below_drewN (below_drewN HBV.out _) _ | exact below_drewN (below_drewN (below_drewN HBV.out _) _) _ | exact below_drewN (below_drewN (below_drewN (below_drewN HBV.out _) _) _) _⟩
    ·go_wp2_with (go_quiet (fail))
     go_ret
     exact⟨rfl,by first | exact below_drewN HBV.out _ | exact below_drewN (below_drewN HBV.out _) _ | exact below_drewN (below_drewN (below_drewN HBV.out _) _) _ | exact below_drewN (below_drewN (below_drewN (below_drewN HBV.out _) _) _) _⟩
   ·clear hlt
    by_cases hle:a≤0
    ·go_wp2_with (go_quiet (fail))
     go_ret
     exact⟨rfl,by first | exact below_drewN HBV.out _ | exact below_drewN (below_drewN HBV.out _) _ | exact below_drewN (below_drewN (below_drewN HBV.out _) _) _ | exact below_drewN (below_drewN (below_drewN (below_drewN HBV.out _) _) _) _⟩
    ·go_wp2_with (go_quiet (fail))
     go_ret
     exact⟨rfl,by first | exact below_drewN HBV.out _ | exact below_drewN (below_drewN HBV.out _) _ | exact below_drewN (below_drewN (below_drewN HBV.out _) _) _ | exact below_drewN (below_drewN (below_drewN (below_drewN HBV.out _) _) _) _⟩
end Go.Proofs.YtnlgndpcddngoaaGreatDoor
