import Derived.Test.YtnlgndpcddngoaaGreatDoorZd29
import Derived.Maps.AppendAt
import Derived.Deep.RegionLaw
import Derived.Test.YtnlgndpcddngoaaGreatDoorZd28
import Derived.Test.YtnlgndpcddngoaaGreatDoorZd21
import Derived.Lib.AppendStr
import Derived.Test.YtnlgndpcddngoaaGreatDoorZd33
import Derived.Test.YtnlgndpcddngoaaGreatDoorZd34
import Derived.Test.YtnlgndpcddngoaaGreatDoorZd00
import Derived.Defers
import Derived.Test.YtnlgndpcddngoaaGreatDoorZd22
import Derived.Test.YtnlgndpcddngoaaGreatDoorZd11
import Derived.Test.YtnlgndpcddngoaaGreatDoorZd17
import Derived.BigQuiet
set_option linter.unusedVariables false
set_option linter.unusedSimpArgs false
set_option maxRecDepth 100000
set_option maxHeartbeats 8000000
namespace Go.Proofs.YtnlgndpcddngoaaGreatDoor
open Go.RowKit
theorem jda (ls:List Ln):∀ u∈lncs ls,u.oneCell'=true:=fun u hu=>by
 obtain⟨l,_,h⟩:=List.mem_flatMap.1 hu
 simp only [lnc,List.mem_cons,List.not_mem_nil,or_false] at h
 rcases h with rfl | rfl | rfl | rfl | rfl | rfl | rfl | rfl | rfl | rfl | rfl | rfl | rfl <;> rfl
theorem jcC:∀ (ls:List Ln) (i:Nat),lncs (ls.eraseIdx i)=(lncs ls).take (i * 13) ++ (lncs ls).drop ((i+1) * 13)
 | [],i=>by simp [lncs]
 | l :: r,0=>by
  have h13:(lnc l).length=13:=rfl
  simp only [List.eraseIdx_cons_zero,Nat.zero_mul,List.take_zero,List.nil_append,Nat.zero_add,Nat.one_mul]
  unfold lncs
  rw [List.flatMap_cons,List.drop_append_of_le_length (by omega),List.drop_of_length_le (by omega),List.nil_append]
 | l :: r,i+1=>by
  have h13:(lnc l).length=13:=rfl
  have ih:=jcC r i
  simp only [List.eraseIdx_cons_succ]
  unfold lncs at ih ⊢
  rw [List.flatMap_cons,List.flatMap_cons,ih,List.take_append,List.drop_append,h13]
  rw [show List.take ((i+1) * 13) (lnc l)=lnc l from List.take_of_length_le (by omega),show List.drop ((i+1+1) * 13) (lnc l)=[] from List.drop_of_length_le (by omega),List.nil_append,List.append_assoc]
  congr 3
  ·omega
  ·omega
theorem jc2 {w:World}{b b' e sz:Nat}{v:Value}{n:Nat}{xs:List Value}(h:w.ownsRow b e sz v n xs)(hb:b'≤b):w.ownsRow b' e sz v n xs:=by
 obtain⟨h1,h2⟩:=h
 refine⟨h1,?_⟩
 rcases h2 with h2 | ⟨g,cap,cur,hv,hg,r⟩
 ·exact Or.inl h2
 ·exact Or.inr ⟨g,cap,cur,hv,Nat.le_trans hb hg,r⟩
theorem jgB {w w1 w6:World}{bb base i:Nat}{lv v6:Value}{B:Bk}{R n6:Nat}{o:Obj}(hA:BookAt w1 bb base lv B)(hK:∀ k,k<w1.heap.size→w6.heap[k]?=w1.heap[k]?)(hs:w1.heap.size≤w6.heap.size)(ho:w6.os=w1.os∧w6.tape=w1.tape∧w6.output=w1.output)
  (ho6:w6.ownsRow w1.heap.size 151 13 v6 n6 ((lncs B.ls).take (i * 13) ++ (lncs B.ls).drop ((i+1) * 13))) (hn6:n6=(B.ls.eraseIdx i).length) (hbase:base≤w1.heap.size) (hBE:Below w.heap.size w w1) (hR:w1.heap[R]?=some o) (hRb:R≠bb) :
  BookAt (w6.setCell ⟨bb,0,none⟩ v6) bb base v6 ⟨B.time,B.ls.eraseIdx i⟩∧(w6.setCell ⟨bb,0,none⟩ v6).heap[R]?=some o∧Keep (fun b=>b=bb∨lv.ownBlock=some b) w (w6.setCell ⟨bb,0,none⟩ v6)∧(∀ g,v6.ownBlock=some g→lv.ownBlock=some g∨w.heap.size≤g):=by
 have hb6:=(hK bb (ltB hA.hb)).trans hA.hb
 have hsw:=hBE.size
 refine⟨⟨by simpa using ja4 hb6 0 v6,?_⟩,?_,⟨ho.1.trans hBE.os,ho.2.1.trans hBE.tape,ho.2.2.trans hBE.output,by rw [World.size_setCell];omega,fun k hk hn=>?_⟩,fun g hg=>Or.inr (Nat.le_trans hsw (ja5 ho6 hg).1)⟩
 ·rw [jcC,←hn6]
  exact ja7 (jc2 ho6 hbase) (fun g hg=>ja0 (jab ho6 hg hb6 (by decide)) _ _)
 ·rw [ja0 hRb]
  exact (hK R (ltB hR)).trans hR
 ·rw [ja0 (fun e=>hn (Or.inl e))]
  exact (hK k (by omega)).trans (hBE.block k hk)
theorem jkL (bb base:Nat)(lv:Value)(B:Bk)(q:Rq)(w:World)(h:BookAt w bb base lv B)(hB:B.ok)(hq:q.ok)(ho:q.op=2)(i:Nat)(hi:idx q.key B.ls=some i) :
  Calls Tryz.prog 61 #[.pointer (some ⟨bb,0,none⟩),rqv q] w (AskPost bb base lv B q w):=by
 obtain⟨W,hW⟩:∃ W,W=(w.alloc (.cells #[.int .u8 q.op,.int .u8 q.k0,.int .u8 q.k1,.int .u8 q.k2,.int .u8 q.k3,.int .u8 q.k4,.int .u8 q.k5,.int .u8 q.k6,.int .u8 q.k7,.int .u8 q.kd,.int .u64 q.x,.int .u64 q.y,.int .u64 q.n] 65)).alloc (.cells #[.int .u8 0,.int .u64 0,.int .u64 0] 40):=⟨_,rfl⟩
 have hq0:W.heap[w.heap.size]?=some (.cells #[.int .u8 q.op,.int .u8 q.k0,.int .u8 q.k1,.int .u8 q.k2,.int .u8 q.k3,.int .u8 q.k4,.int .u8 q.k5,.int .u8 q.k6,.int .u8 q.k7,.int .u8 q.kd,.int .u64 q.x,.int .u64 q.y,.int .u64 q.n] 65):=hW▸upB (ja1 _ _) _
 have hr0:W.heap[w.heap.size+1]?=some (.cells #[.int .u8 0,.int .u64 0,.int .u64 0] 40):=hW▸heapN (by simp)
 have hBW:Below w.heap.size w W:=hW▸((Below.refl _ w).alloc (Nat.le_refl _) _).alloc (by simp) _
 have hAW:=h.below hBW (Nat.le_refl _)
 have hbl:=ltB h.hb
 have hgl:∀ g,lv.ownBlock=some g→g<w.heap.size:=fun g hg=>(ja5 h.ho hg).2
 have h84:=jbd bb base lv B q.key W hAW hB.len
 have hl12:=hB.len
 have hTm:=hB.time
 obtain⟨l,hl⟩:∃ l,B.ls[i]?=some l:=⟨_,List.getElem?_eq_getElem (jcR hi)⟩
 have hgd:B.ls.getD i ⟨q.key,0,0,0,0,0⟩=l:=by simp [List.getD,hl]
 have em:askM B q=jaz B i l q.n:=by unfold askM;rw [if_neg (by omega),if_neg (by omega),if_neg (by omega),hi];dsimp only;rw [if_neg (by omega),if_neg (by omega),hgd]
 have hii:idxI q.key B.ls=(i:Int):=by unfold idxI;rw [hi]
 rw [hii] at h84
 have hi0:(0:Int)≤(i:Int):=by omega
 have hin:¬(i:Int)<0:=by omega
 have hlo:=hB.ln l (List.mem_of_getElem? hl)
 have HE:=hide em
 have HL:=hide hl
 have HLO:=hide hlo
 have hqn:=hq.n
 clear em hi hii hgd hl hlo
 have H84:=hide h84
 have HAW:=hide hAW
 have HQ0:=hide hq0
 have HR0:=hide hr0
 have HBW:=hide hBW
 have HGL:=hide hgl
 have HB:=hide hB
 have HH:=hide h
 clear h84 hAW hq0 hr0 hBW hgl hB h
 have HO:=hide ho
 clear ho
 go_enter Tryz.func61,Tryz.ntmps61
 go_wp2_with fail
 have h84:=H84.out
 rw [hW] at h84
 refine h84.mono ?_
 rw [←hW]
 rintro e w1 ⟨rfl,hb1⟩
 have hA1:=HAW.out.below hb1 (Nat.le_refl _)
 have hq1:=(hb1.block _ (ltB HQ0.out)).trans HQ0.out
 have hr1:=(hb1.block _ (ltB HR0.out)).trans HR0.out
 have x0:=cellB hq1
 have x1:=cellB hr1
 have x2:=ja2 hr1
 have y1:=cellB hA1.hb
 have HA1:=hide hA1
 have HR1:=hide hr1
 have HQ1:=hide hq1
 have HBE:=hide (HBW.out.trans (hb1.mono HBW.out.size))
 have hbR:bb≠w.heap.size+1:=by omega
 have hbR':w.heap.size+1≠bb:=by omega
 clear h84 hW hA1 hq1 hr1 hb1
 have ho:=HO.out
 go_wp2_with fail
 refine (jk4 bb base lv B i l q.n _ HA1.out HL.out hl12 HLO.out hqn hTm (hide (fun bb lv T l n w a b c d e=>jh6 bb lv T l n w a b c d e))).mono ?_
 rintro e w2 ⟨rfl,hA2,hK2⟩
 obtain⟨B',⟨c,a,b⟩,hab⟩:∃ B' r,jaz B i l q.n=(B',r):=⟨_,_,rfl⟩
 rw [hab] at hA2 ⊢
 have HE2:=HE.out
 rw [hab] at HE2
 have HE3:=hide HE2
 have hlr:w.heap.size+1<w1.heap.size:=ltB HR1.out
 have hr2:=(hK2.block _ hlr (fun e=>by have:=HGL.out _ e;omega)).trans HR1.out
 have z1:=cellB hr2
 have z2:=ja2 hr2
 have HA2:=hide hA2
 have HKK:Hid (Keep (fun b=>b=bb∨lv.ownBlock=some b) w w2):=hide ((Keep.of_below HBE.out).then hK2 (fun i _ h=>Or.inr h))
 clear x0 x1 x2 y1 HE2 hab hr2 hA2 hK2
 go_wp2_with fail
 exact bodyPost_ret (v:=.agg #[.int .u8 c,.int .u64 a,.int .u64 b]) (by simp [results,Tryz.results61,go_sem,z1]) rfl (AskPost.mk' HA2.out HE3.out (Nat.le_succ _) hbR (fun g hg=>by have:=HGL.out g hg;omega) HKK.out (fun g hg=>Or.inl hg))
theorem jjR (bb base:Nat)(lv:Value)(B:Bk)(q:Rq)(w:World)(h:BookAt w bb base lv B)(hB:B.ok)(_hq:q.ok)(ho:q.op=4)(i:Nat)(hi:idx q.key B.ls=some i) :
  Calls Tryz.prog 61 #[.pointer (some ⟨bb,0,none⟩),rqv q] w (AskPost bb base lv B q w):=by
 obtain⟨W,hW⟩:∃ W,W=(w.alloc (.cells #[.int .u8 q.op,.int .u8 q.k0,.int .u8 q.k1,.int .u8 q.k2,.int .u8 q.k3,.int .u8 q.k4,.int .u8 q.k5,.int .u8 q.k6,.int .u8 q.k7,.int .u8 q.kd,.int .u64 q.x,.int .u64 q.y,.int .u64 q.n] 65)).alloc (.cells #[.int .u8 0,.int .u64 0,.int .u64 0] 40):=⟨_,rfl⟩
 have hq0:W.heap[w.heap.size]?=some (.cells #[.int .u8 q.op,.int .u8 q.k0,.int .u8 q.k1,.int .u8 q.k2,.int .u8 q.k3,.int .u8 q.k4,.int .u8 q.k5,.int .u8 q.k6,.int .u8 q.k7,.int .u8 q.kd,.int .u64 q.x,.int .u64 q.y,.int .u64 q.n] 65):=hW▸upB (ja1 _ _) _
 have hr0:W.heap[w.heap.size+1]?=some (.cells #[.int .u8 0,.int .u64 0,.int .u64 0] 40):=hW▸heapN (by simp)
 have hBW:Below w.heap.size w W:=hW▸((Below.refl _ w).alloc (Nat.le_refl _) _).alloc (by simp) _
 have hAW:=h.below hBW (Nat.le_refl _)
 have hbl:=ltB h.hb
 have hgl:∀ g,lv.ownBlock=some g→g<w.heap.size:=fun g hg=>(ja5 h.ho hg).2
 have h84:=jbd bb base lv B q.key W hAW hB.len
 have hl12:=hB.len
 have hTm:=hB.time
 have hlt:=jcR hi
 have em:askM B q=(⟨B.time,B.ls.eraseIdx i⟩,⟨1,0,0⟩):=by unfold askM;rw [if_neg (by omega),if_neg (by omega),if_neg (by omega),hi];dsimp only;rw [if_neg (by omega),if_pos ho]
 have hii:idxI q.key B.ls=(i:Int):=by unfold idxI;rw [hi]
 rw [hii] at h84
 have hi0:(0:Int)≤(i:Int):=by omega
 have hin:¬(i:Int)<0:=by omega
 obtain⟨g,cap,hv,hgb,hgl2⟩:=h.ho.form (by omega)
 obtain⟨m,hm⟩:∃ m,m=B.ls.length:=⟨_,rfl⟩
 rw [←hm] at hv
 subst hv
 have hml:i<m:=by omega
 have hm12:m≤12:=by omega
 have hmi:(i:Int)<(m:Int):=by omega
 have hmc:m≤cap:=by
  rcases h.ho.2 with ⟨h1,_⟩ | ⟨g',cap',cur,hv,_,_,hnc,_⟩
  ·simp at h1
  ·injection hv with _ _ e3
   omega
 have hcm:cap≤maxLen:=by
  rcases h.ho.2 with ⟨h1,_⟩ | ⟨g',cap',cur,hv,_,_,hnc,hcm,_⟩
  ·simp at h1
  ·injection hv with _ _ e3
   omega
 have HE:=hide em
 have HM:=hide hm
 clear em hi hii hlt hm
 have H84:=hide h84
 have HAW:=hide hAW
 have HQ0:=hide hq0
 have HR0:=hide hr0
 have HBW:=hide hBW
 have HGL:=hide hgl
 have HB:=hide hB
 have HH:=hide h
 clear h84 hAW hq0 hr0 hBW hgl hB h
 have HO:=hide ho
 clear ho
 go_enter Tryz.func61,Tryz.ntmps61
 go_wp2_with fail
 have h84:=H84.out
 rw [hW] at h84
 refine h84.mono ?_
 rw [←hW]
 rintro e w1 ⟨rfl,hb1⟩
 have hA1:=HAW.out.below hb1 (Nat.le_refl _)
 have hq1:=(hb1.block _ (ltB HQ0.out)).trans HQ0.out
 have hr1:=(hb1.block _ (ltB HR0.out)).trans HR0.out
 have x0:=cellB hq1
 have x1:=cellB hr1
 have x2:=ja2 hr1
 have y1:=cellB hA1.hb
 have HA1:=hide hA1
 have HR1:=hide hr1
 have HQ1:=hide hq1
 have HBE:=hide (HBW.out.trans (hb1.mono HBW.out.size))
 have hbR:bb≠w.heap.size+1:=by omega
 have hbR':w.heap.size+1≠bb:=by omega
 clear h84 hW hA1 hq1 hr1 hb1
 have ho:=HO.out
 obtain⟨i0,hi,hz0,hz1,hz2⟩:=info_parts Tryz.info139
 have hA1:=HA1.out
 have hrow:∀ j,j<m * 13→w1.cell? ⟨g,j,none⟩=(lncs B.ls)[j]?:=fun j hj=>by
  have ho:=hA1.ho
  rw [←HM.out] at ho
  exact ho.cellAt j hj
 have hlenc:(lncs B.ls).length=m * 13:=by rw [jeP,←HM.out]
 have HNW:Hid (∀ j u,((lncs B.ls).take (i * 13))[j]?=some u→w1.cell? ((⟨g,0,none⟩:Addr).add j)=some u):=hide (fun j u hj=>by
   have hj':j<i * 13:=by
     have:=(List.getElem?_eq_some_iff.1 hj).1
     rw [List.length_take] at this
     omega
   rw [Addr.add_lit,Nat.zero_add,hrow j (by omega),←hj,List.getElem?_take,if_pos hj'])
 have HNL:Hid (((lncs B.ls).take (i * 13)).length=i * 13):=hide (by rw [List.length_take,hlenc];omega)
 have HN1:Hid (∀ u∈(lncs B.ls).take (i * 13),u.oneCell'=true):=hide (fun u hu=>jda B.ls u (List.mem_of_mem_take hu))
 have HLB:Hid (∀ k,k=bb∨(Value.slice (some ⟨g,0,none⟩) m cap).ownBlock=some k→k<w1.heap.size):=hide (fun k hk=>by
   rcases hk with rfl | hk
   · exact ltB hA1.hb
   · exact (ja5 hA1.ho hk).2)
 have HRW:=hide hrow
 have HLC:=hide hlenc
 clear hA1 hrow hlenc
 have HN2:Hid (∀ u∈(lncs B.ls).drop ((i+1) * 13),u.oneCell'=true):=hide (fun u hu=>jda B.ls u (List.mem_of_mem_drop hu))
 have HM2:Hid (((lncs B.ls).drop ((i+1) * 13)).length=(m - (i+1)) * 13):=hide (by rw [List.length_drop,HLC.out];omega)
 have HNW2:Hid (∀ w4:World,(∀ k,k<w1.heap.size→w4.heap[k]?=w1.heap[k]?)→∀ j u,((lncs B.ls).drop ((i+1) * 13))[j]?=some u→w4.cell? ((⟨g,(i+1) * 13,none⟩:Addr).add j)=some u):=hide (fun w4 hk j u hj=>by
   have hj':j<(m - (i+1)) * 13:=by
     have:=(List.getElem?_eq_some_iff.1 hj).1
     rw [HM2.out] at this
     exact this
   have hj2:(i+1) * 13+j<m * 13:=by omega
   rw [Addr.add_lit,World.cell?_of_block (w:=w1) (hk g (HLB.out g (Or.inr rfl))),HRW.out _ hj2,←hj,List.getElem?_drop])
 by_cases hce:cap=i+1
 ·have hmm:m=i+1:=by omega
  have hd:(lncs B.ls).drop ((i+1) * 13)=[]:=List.drop_of_length_le (by rw [HLC.out,hmm];exact Nat.le_refl _)
  have HD:=hide hd
  subst hce
  subst hmm
  clear hd HN2 HM2 HNW2
  go_wp2_with (first | (at_builtin;refine wpList_append_own_at _ rfl _ _ 58 rfl w1.heap.size 151 i0 ZL 13 48 Tryz.underlying58 hi hz0 hz1 hz2 rfl (by decide) (.slice none 0 0) 0 [] rfl (World.ownsRow_nil _ _ _ _) ⟨g,0,none⟩ i (i+1) ((lncs B.ls).take (i * 13)) rfl HNL.out HNW.out HN1.out (by unfold maxLen;omega) (by omega) (Nat.le_refl _) ?_;intro v5 w4 hown4 hgr4 hnil4 hloc4;rw [Nat.zero_add,List.nil_append] at hown4;have hk4:∀ k,k<w1.heap.size→w4.heap[k]?=w1.heap[k]?:=fun k hk=>hgr4.block k hk (by simp [Value.ownBlock]);have hA4:=HA1.out.kept (fun k hk=>hk4 k (HLB.out k hk));have y4:=cellB hA4.hb;have HO4:=hide hown4;have HK4:=hide hk4;have HA4:=hide hA4;have HG4:=hide hgr4;obtain⟨ya,yc,hyw⟩:=ja8 hown4;subst hyw;clear hown4 hgr4 hnil4 hk4 hA4 y1) | (at_builtin;refine wpList_append_own_at _ rfl _ _ 58 rfl w1.heap.size 151 i0 ZL 13 48 Tryz.underlying58 hi hz0 hz1 hz2 rfl (by decide) (.slice ya i yc) i ((lncs B.ls).take (i * 13)) rfl HO4.out ⟨g,0,none⟩ 0 0 [] rfl rfl (fun j u hj=>absurd hj (by simp)) (fun u hu=>absurd hu (by simp)) (by unfold maxLen;omega) (by omega) HG4.out.size ?_;intro v6 w6 hown6 hgr6 hnil6 hloc6;obtain⟨yb,yd,hyw⟩:=ja8 hown6;subst hyw;have hk6:∀ k,k<w1.heap.size→w6.heap[k]?=w1.heap[k]?:=fun k hk=>(hgr6.block k (Nat.lt_of_lt_of_le hk HG4.out.size) (fun e=>absurd (ja5 HO4.out e.symm).1 (Nat.not_le.2 hk))).trans (HK4.out k hk);have hb6:=(hk6 bb (ltB HA1.out.hb)).trans HA1.out.hb;have f1:=cellB hb6;have f2:=ja2 hb6;have hr6:=(hk6 _ (ltB HR1.out)).trans HR1.out;have f3:=cellB hr6;have f4:=ja2 hr6;have HK6:=hide hk6;have HO6:=hide hown6;have HG6:=hide hgr6;clear hk6 hown6 hgr6 hnil6 hb6 hr6 y4))
  have hend:=jgB (w:=w) (i:=i) (R:=w.heap.size+1) HA1.out HK6.out (Nat.le_trans HG4.out.size HG6.out.size) ⟨HG6.out.os.trans HG4.out.os,HG6.out.tape.trans HG4.out.tape,HG6.out.output.trans HG4.out.output⟩ (by rw [HD.out];exact HO6.out) (by rw [List.length_eraseIdx_of_lt (by rw [←HM.out];exact hml),←HM.out];omega) (Nat.le_trans hgb (Nat.le_of_lt (HLB.out g (Or.inr rfl)))) HBE.out HR1.out hbR'
  exact bodyPost_ret (v:=.agg #[.int .u8 1,.int .u64 0,.int .u64 0]) (by simp [results,Tryz.results61,go_sem,f3]) rfl (AskPost.mk' hend.1 HE.out (Nat.le_succ _) hbR (fun z hz=>jab hend.1.ho hz hend.2.1 (by decide)) hend.2.2.1 hend.2.2.2)
 ·have hce':¬i+1=cap:=fun e=>hce e.symm
  go_wp2_with (first | (at_builtin;refine wpList_append_own_at _ rfl _ _ 58 rfl w1.heap.size 151 i0 ZL 13 48 Tryz.underlying58 hi hz0 hz1 hz2 rfl (by decide) (.slice none 0 0) 0 [] rfl (World.ownsRow_nil _ _ _ _) ⟨g,0,none⟩ i cap ((lncs B.ls).take (i * 13)) rfl HNL.out HNW.out HN1.out (by unfold maxLen;omega) (by omega) (Nat.le_refl _) ?_;intro v5 w4 hown4 hgr4 hnil4 hloc4;rw [Nat.zero_add,List.nil_append] at hown4;have hk4:∀ k,k<w1.heap.size→w4.heap[k]?=w1.heap[k]?:=fun k hk=>hgr4.block k hk (by simp [Value.ownBlock]);have hA4:=HA1.out.kept (fun k hk=>hk4 k (HLB.out k hk));have y4:=cellB hA4.hb;have HO4:=hide hown4;have HK4:=hide hk4;have HA4:=hide hA4;have HG4:=hide hgr4;obtain⟨ya,yc,hyw⟩:=ja8 hown4;subst hyw;clear hown4 hgr4 hnil4 hk4 hA4 y1) | (at_builtin;refine wpList_append_own_at _ rfl _ _ 58 rfl w1.heap.size 151 i0 ZL 13 48 Tryz.underlying58 hi hz0 hz1 hz2 rfl (by decide) (.slice ya i yc) i ((lncs B.ls).take (i * 13)) rfl HO4.out ⟨g,(i+1) * 13,none⟩ (m - (i+1)) (cap - (i+1)) ((lncs B.ls).drop ((i+1) * 13)) rfl HM2.out (HNW2.out w4 HK4.out) HN2.out (by unfold maxLen;omega) (by omega) HG4.out.size ?_;intro v6 w6 hown6 hgr6 hnil6 hloc6;obtain⟨yb,yd,hyw⟩:=ja8 hown6;subst hyw;have hk6:∀ k,k<w1.heap.size→w6.heap[k]?=w1.heap[k]?:=fun k hk=>(hgr6.block k (Nat.lt_of_lt_of_le hk HG4.out.size) (fun e=>absurd (ja5 HO4.out e.symm).1 (Nat.not_le.2 hk))).trans (HK4.out k hk);have hb6:=(hk6 bb (ltB HA1.out.hb)).trans HA1.out.hb;have f1:=cellB hb6;have f2:=ja2 hb6;have hr6:=(hk6 _ (ltB HR1.out)).trans HR1.out;have f3:=cellB hr6;have f4:=ja2 hr6;have HK6:=hide hk6;have HO6:=hide hown6;have HG6:=hide hgr6;clear hk6 hown6 hgr6 hnil6 hb6 hr6 y4))
  have hend:=jgB (w:=w) (i:=i) (R:=w.heap.size+1) HA1.out HK6.out (Nat.le_trans HG4.out.size HG6.out.size) ⟨HG6.out.os.trans HG4.out.os,HG6.out.tape.trans HG4.out.tape,HG6.out.output.trans HG4.out.output⟩ HO6.out (by rw [List.length_eraseIdx_of_lt (by rw [←HM.out];exact hml),←HM.out];omega) (Nat.le_trans hgb (Nat.le_of_lt (HLB.out g (Or.inr rfl)))) HBE.out HR1.out hbR'
  exact bodyPost_ret (v:=.agg #[.int .u8 1,.int .u64 0,.int .u64 0]) (by simp [results,Tryz.results61,go_sem,f3]) rfl (AskPost.mk' hend.1 HE.out (Nat.le_succ _) hbR (fun z hz=>jab hend.1.ho hz hend.2.1 (by decide)) hend.2.2.1 hend.2.2.2)
def rqM:Nat→List Int→List Rq×List Int×Int
 | 0,bs=>([],bs,rdErr bs)
 | n+1,bs=>if rdErr bs=0 then (rdQ bs :: (rqM n (bs.drop (rdN bs).toNat)).1,(rqM n (bs.drop (rdN bs).toNat)).2) else ([],bs,rdErr bs)
theorem ji8:∀ (n:Nat) (bs:List Int),bs.length≤n→rqM n bs=rqM bs.length bs:=by
 intro n
 induction n using Nat.strongRecOn with
 | ind n ih=>
  intro bs h
  cases n with
  | zero=>rw [show bs.length=0 by omega]
  | succ n=>
   cases hb:bs.length with
   | zero=>
    have e:bs=[]:=List.length_eq_zero_iff.1 hb
    subst e
    simp [rqM,rdErr]
   | succ m=>
    unfold rqM
    by_cases h0:rdErr bs=0
    ·rw [if_pos h0,if_pos h0]
     obtain⟨r1,r2,_,_⟩:=jbf bs h0
     have hl:(bs.drop (rdN bs).toNat).length≤m:=by rw [List.length_drop];omega
     rw [ih n (by omega) _ (by omega),ih m (by omega) _ hl]
    ·rw [if_neg h0,if_neg h0]
def rqL (bs:List Int):List Rq×List Int×Int:=rqM bs.length bs
theorem jaG (bs:List Int)(h:rdErr bs≠0):rqL bs=([],bs,rdErr bs):=by
 unfold rqL
 cases hb:bs.length with
 | zero=>rfl
 | succ n=>unfold rqM;rw [if_neg h]
theorem jbI (bs:List Int)(h:rdErr bs=0):rqL bs=(rdQ bs :: (rqL (bs.drop (rdN bs).toNat)).1,(rqL (bs.drop (rdN bs).toNat)).2):=by
 obtain⟨r1,r2,_,_⟩:=jbf bs h
 have e:rqL bs=rqM bs.length bs:=rfl
 rw [e]
 cases hb:bs.length with
 | zero=>omega
 | succ n=>
  have hl:(bs.drop (rdN bs).toNat).length≤n:=by rw [List.length_drop];omega
  conv=>lhs;unfold rqM
  rw [if_pos h,ji8 n _ hl]
  rfl
def doL:Ld→List Rq→Ld×List Rp
 | L,[]=>(L,[])
 | L,q :: t=>((doL (doM L q).1 t).1,(doM L q).2 :: (doL (doM L q).1 t).2)
theorem jih:∀ (n:Nat) (bs:List Int) (L:Ld),bs.length≤n→runL L bs=((doL L (rqL bs).1).1,(doL L (rqL bs).1).2,(rqL bs).2):=by
 intro n
 induction n with
 | zero=>
  intro bs L h
  have e:bs=[]:=List.length_eq_zero_iff.1 (by omega)
  subst e
  rw [jbE L [] (by simp [rdErr]),jaG [] (by simp [rdErr])]
  rfl
 | succ n ih=>
  intro bs L h
  by_cases h0:rdErr bs=0
  ·obtain⟨r1,r2,_,_⟩:=jbf bs h0
   rw [jbH L bs h0,jbI bs h0,ih _ _ (by rw [List.length_drop];omega)]
   rfl
  ·rw [jbE L bs h0,jaG bs h0]
   rfl
abbrev rqw (q:Rq):List Value:=[.int .u8 q.op,.int .u8 q.k0,.int .u8 q.k1,.int .u8 q.k2,.int .u8 q.k3,.int .u8 q.k4,.int .u8 q.k5,.int .u8 q.k6,.int .u8 q.k7,.int .u8 q.kd,.int .u64 q.x,.int .u64 q.y,.int .u64 q.n]
def rqws (l:List Rq):List Value:=l.flatMap rqw
theorem jdr (l:List Rq)(q:Rq):rqws (l ++ [q])=rqws l ++ rqw q:=by simp [rqws]
theorem jkF (s:ByteArray):Go.Lib.strCells s=(jaa s).map (Value.int .u8):=by
 simp [Go.Lib.strCells,jaa]
abbrev ZR:Value:=.agg #[.int .u8 0,.int .u8 0,.int .u8 0,.int .u8 0,.int .u8 0,.int .u8 0,.int .u8 0,.int .u8 0,.int .u8 0,.int .u8 0,.int .u64 0,.int .u64 0,.int .u64 0]
theorem Tryz.info58:(Tryz.prog.info? 65).map (fun i=>(i.zero,i.size,i.bytes))=some (some ZR,13,48):=by kernel_rfl
structure SfI (w wl:World)(tb:Nat)(bs0 bs:List Int)(qs:List Rq)(v6 v7:Value)(rv:Value)(wr:World):Prop where
 run:rqL bs0=(qs ++ (rqL bs).1,(rqL bs).2)
 sl:Sl wr v6 bs
 le:2 * qs.length+bs.length≤bs0.length
 by_:Bytes bs
 own:wr.ownsRow wl.heap.size 65 13 v7 qs.length (rqws qs)
 F:∀ g o n c,v6=.slice (some ⟨g,o,none⟩) n c→w.heap.size≤g∧g<wl.heap.size
 st:wr.heap[tb]?=some (.cells #[rv,.bool false] 103)
 keep:Keep (fun _=>False) wl wr
theorem jkd (tb:Nat)(rv:Value)(rest:List Int)(s:ByteArray)(w:World)(hb:w.heap[tb]?=some (.cells #[rv,.bool false] 103))(hs:Sl w rv rest)(hby:Bytes rest)(hlen:rest.length+s.size≤100000)
  (bs0:List Int) (hbs:bs0=rest ++ jaa s) (l:List Rq) (hl:l=(rqL bs0).1) (bd:Bool) (hbd:bd=decide ((rqL bs0).2.2=2)) (lf:List Int) (hlf:lf=if (rqL bs0).2.2=2 then [] else (rqL bs0).2.1) :
  Calls Tryz.prog 55 #[.pointer (some ⟨tb,0,none⟩),.string s] w fun e w'=>∃ ov rv',e=.returned (.tuple #[ov,.bool bd])∧w'.ownsRow w.heap.size 65 13 ov l.length (rqws l)∧Keep (fun b=>b=tb) w w'∧
   w'.heap[tb]?=some (.cells #[rv',.bool bd] 103)∧Sl w' rv' lf∧(∀ g o n c,rv'=.slice (some ⟨g,o,none⟩) n c→w.heap.size≤g):=by
 have HL:=hide hl
 have HBD:=hide hbd
 have HLF:=hide hlf
 clear hl hbd hlf
 obtain⟨i0,hi,hz0,hz1,hz2⟩:=info_parts Tryz.info5
 obtain⟨i1,hj,hy0,hy1,hy2⟩:=info_parts Tryz.info58
 have c1:=cellB hb
 have f1:=ja2 hb
 have lb:=ltB hb
 have HS:=hide hs
 have HBS:=hide hbs
 have HB:=hide hb
 have HLEN:=hide hlen
 clear hs hbs hb hlen
 go_enter Tryz.func55,Tryz.ntmps55
 go_wp2_with (first
   | (at_builtin;refine jau rfl _ _ rfl w.heap.size (.slice none 0 0) 0 [] rfl (World.ownsRow_nil _ _ _ _) rv rest rfl HS.out.src (by have:=HLEN.out;omega) (Nat.le_refl _) ?_;intro v1 w1 hown1 hgr1 hloc1)
   | (at_builtin;refine Go.Lib.wpList_append_own_string (w:=w1) rfl _ _ 76 9 rfl w.heap.size 5 i0 Tryz.underlying76 Tryz.underlying9 hi hz0 hz1 hz2 v1 (0+rest.length) _ rfl hown1 s rfl (by unfold maxLen;have:=HLEN.out;omega) (by have:=HLEN.out;omega) hgr1.size ?_;intro v2 w2 hown2 hgr2 _))
 obtain⟨wl,hwl⟩:∃ wl,wl=w2:=⟨_,rfl⟩
 have hs1:=hgr1.size
 have hs2:=hgr2.size
 have hn1:∀ z,z<w.heap.size→v1.ownBlock≠some z:=fun z hz e=>by
  rcases hloc1 with h | h
  ·rw [h] at e;simp [Value.ownBlock] at e
  ·rw [h] at e;injection e with e;omega
 have hk2:∀ z,z<w.heap.size→w2.heap[z]?=w.heap[z]?:=fun z hz=>(hgr2.block z (by omega) (fun e=>hn1 z hz e.symm)).trans (hgr1.block z hz (by simp [Value.ownBlock]))
 have hK2:Keep (fun b=>b=tb) w w2:=⟨hgr2.os.trans hgr1.os,hgr2.tape.trans hgr1.tape,hgr2.output.trans hgr1.output,by omega,fun z hz _=>hk2 z hz⟩
 have hb2:w2.heap[tb]?=some (.cells #[rv,.bool false] 103):=(hk2 tb lb).trans HB.out
 have hsl2:Sl w2 v2 bs0:=by
  refine Sl.of_own (n:=0+rest.length+s.size) (base:=w.heap.size) ?_
  rw [HBS.out,List.map_append,←jkF s]
  exact hown2
 have hF2:∀ g o n c,v2=.slice (some ⟨g,o,none⟩) n c→w.heap.size≤g∧g<w2.heap.size:=fun g o n c h=>by
  have:=hown2.lt g (by rw [h];rfl)
  omega
 have hby0:Bytes bs0:=by rw [HBS.out];exact hby.app (jbi s)
 have hl0:bs0.length≤100000:=by rw [HBS.out,List.length_append,jap];exact HLEN.out
 subst hwl
 have HK2:=hide hK2
 have HF2:=hide hF2
 have HK:=hide hk2
 clear hown1 hgr1 hloc1 hown2 hgr2 hn1 hk2 hK2 hF2 c1 f1 HS HB HBS HLEN hby
 go_loopw [6,7] (fun s6 s7 wr=>∃ bs qs,SfI w wl tb bs0 bs qs s6 s7 rv wr) (fun s6 _ _=>jbn s6)
 case atStart=>exact⟨bs0,[],⟨by simp,hsl2,by simp,hby0,World.ownsRow_nil _ _ _ _,HF2.out,hb2,Keep.refl _ _⟩⟩
 case round=>
  obtain⟨bs,qs,I⟩:=hrel
  have hle:=I.le
  have hst:=I.st
  have lst:=ltB hst
  obtain⟨a6,c6,h6⟩:=I.sl.shape
  subst h6
  have hI:=hide I
  clear I
  go_wp2_with fail
  refine (jlu _ bs wr hI.out.sl (by omega) (fun j=>hI.out.by_.getD j) _ rfl _ _ rfl rfl).mono ?_
  rintro e w3 ⟨rfl,hb3⟩
  have hst3:=(hb3.block tb lst).trans hst
  have d1:=fun o j=>upC hst3 o j
  have d2:=fun o j=>upF hst3 o j
  have hkw:=hI.out.keep.size
  have hs3:=hb3.size
  have HB3:=hide hb3
  clear hst hb3
  have hk1:Keep (fun b=>b=tb) w w3:=(HK2.out.trans (hI.out.keep.mono (fun _ h _=>h.elim))).trans (Keep.of_below HB3.out)
  have hwl2:w.heap.size≤wl.heap.size:=by omega
  have hX:∀ z o,z<wr.heap.size→(w3.alloc o).heap[z]?=wr.heap[z]?:=fun z o hz=>(ja3 w3 o (by omega)).trans (HB3.out.block z hz)
  have HX:=hide hX
  have HK1:=hide hk1
  clear hk1 hX
  rcases jbt bs with h | h | h
  ·obtain⟨r1,r2,r3,r4⟩:=jbf bs h
   obtain⟨g,o,c,hv,hc,hg,hcell,hp⟩:∃ g o c,Value.slice a6 bs.length c6=.slice (some ⟨g,o,none⟩) bs.length c∧bs.length≤c∧g<wr.heap.size∧(∀ j,j<bs.length→wr.cell? ⟨g,o+j,none⟩=some (.int .u8 (bs.getD j 0)))∧0<bs.length:=by
    rcases hI.out.sl with ⟨hnil,_⟩ | ⟨hp,g,o,c,hv,hc,hg,hcell⟩
    ·rw [hnil] at h;simp [rdErr] at h
    ·exact⟨g,o,c,hv,hc,hg,hcell,hp⟩
   injection hv with hv1 _ hv3
   subst hv1 hv3
   obtain⟨q,hq⟩:∃ q,q=rdQ bs:=⟨_,rfl⟩
   obtain⟨m,hm⟩:∃ m,m=(rdN bs).toNat:=⟨_,rfl⟩
   obtain⟨n,hn⟩:∃ n,n=bs.length:=⟨_,rfl⟩
   rw [h,r3]
   rw [←hm] at r1 r2 r4 ⊢
   rw [←hn] at r2 hc hp ⊢
   rw [←hq]
   have hF:=hI.out.F g o n c6 (by rw [hn])
   have HO2:Hid (∀ o1 o2,((w3.alloc o1).alloc o2).ownsRow wl.heap.size 65 13 u7 qs.length (rqws qs)):=hide (fun o1 o2=>ja7 hI.out.own (fun z hz=>by
     have:=ja5 hI.out.own hz
     exact (ja3 _ _ (by simp;omega)).trans (HX.out z o1 (by omega))))
   have hmn:(m:Int)≤(n:Int):=by omega
   have hm0:(0:Int)≤(m:Int):=by omega
   have HM:=hide hm
   have HN:=hide hn
   have HQ:=hide hq
   have HEV:=hide h
   have HCE:=hide hcell
   have hql:qs.length≤100000:=by omega
   have hqn:2 * qs.length+n≤bs0.length:=by omega
   clear hm hn hq h r3 hcell hle
   go_wp2_with (at_builtin;refine wpList_append_own_at _ rfl _ _ 28 rfl wl.heap.size 65 i1 ZR 13 48 Tryz.underlying28 hj hy0 hy1 hy2 rfl (by decide) u7 qs.length (rqws qs) rfl (HO2.out _ _) ⟨w3.heap.size+1,0,none⟩ 1 1 (rqw q) rfl rfl (fun j u hju=>by rw [Addr.add_lit,Nat.zero_add,←hju];exact (cellB (heapN (by simp)) j).trans (by simp)) (by simp [Value.oneCell']) (by unfold maxLen;omega) (by omega) (by simp;omega) ?_;intro v5 w4 hown4 hgr4 hnil4 hloc4;obtain⟨ya,yc,hyw⟩:=ja8 hown4;subst hyw;have HO4:=hide hown4;have HG4:=hide hgr4;clear hown4 hgr4 hnil4 hloc4)
   have hn7:∀ z,z<wl.heap.size→u7.ownBlock≠some z:=fun z hz e=>by have:=ja5 hI.out.own e;omega
   have hk4:=((hI.out.keep.trans (Keep.of_below HB3.out)).alloc (.cells (rqc q) 65)).alloc (.cells (rqc q) 65)
   have hX4:∀ z,z<wr.heap.size→u7.ownBlock≠some z→w4.heap[z]?=wr.heap[z]?:=fun z hz hne=>(HG4.out.block z (by simp;omega) (fun e=>hne e.symm)).trans ((ja3 _ _ (by simp;omega)).trans (HX.out z _ hz))
   have hsz:=HG4.out.size
   have hbd:(bs.drop m).length=n - m:=by rw [List.length_drop,←HN.out]
   refine⟨⟨bs.drop m,qs ++ [q],⟨?_,?_,?_,hI.out.by_.drop m,?_,?_,?_,?_⟩⟩,?_⟩
   ·have hstep:=jbI bs HEV.out
    rw [←HQ.out,←HM.out] at hstep
    rw [hI.out.run,hstep,List.append_assoc];rfl
   ·by_cases hrem:n - m=0
    ·left
     refine⟨List.length_eq_zero_iff.1 (hbd.trans hrem),Or.inr ?_⟩
     rw [hrem]
     split
     ·exact⟨_,_,_,rfl⟩
     ·exact⟨_,_,_,rfl⟩
    ·right
     rw [if_neg (by omega),hbd]
     refine⟨by omega,g,o+m,c6 - m,rfl,by omega,by simp at hsz;omega,fun j hj=>?_⟩
     rw [World.cell?_of_block (w:=wr) (hX4 g hg (hn7 g hF.2)),Nat.add_assoc,HCE.out (m+j) (by rw [←HN.out];omega)]
     simp [List.getD,List.getElem?_drop]
   ·rw [List.length_append,hbd,List.length_singleton]
    omega
   ·rw [jdr,List.length_append,List.length_singleton];exact HO4.out
   ·intro g' o' n' c' hh
    have hgg:g'=g:=by
     split at hh <;> (injection hh with h1 _ _;injection h1 with h1;injection h1 with h1 _;exact h1.symm)
    rw [hgg];exact hF
   ·exact (hX4 tb lst (hn7 tb (by omega))).trans hI.out.st
   ·exact⟨HG4.out.os.trans hk4.os,HG4.out.tape.trans hk4.tape,HG4.out.output.trans hk4.output,Nat.le_trans hk4.size hsz,fun z hz hS=>(HG4.out.block z (Nat.lt_of_lt_of_le hz hk4.size) (fun e=>hn7 z hz e.symm)).trans (hk4.block z hz hS)⟩
   ·show n - m<bs.length
    rw [←HN.out];omega
  ·have e1:rqL bs0=(qs,bs,1):=by
    have hrun:=hI.out.run
    rw [jaG bs (by omega),h] at hrun
    simpa using hrun
   have el:l=qs:=HL.out.trans (by rw [e1])
   have eb:bd=false:=HBD.out.trans (by rw [e1];rfl)
   have ef:lf=bs:=HLF.out.trans (by rw [e1];rfl)
   subst eb
   have EL:=hide el
   have EF:=hide ef
   clear e1 el ef HL HBD HLF
   rw [h]
   go_wp2_with fail
   refine bodyPost_ret (v:=.tuple #[u7,.bool false]) (by simp [results,Tryz.results55,go_sem]) rfl ?_
   rw [EL.out,EF.out]
   refine⟨u7,.slice a6 bs.length c6,rfl,?_,(HK1.out.alloc _).set (Or.inl rfl) _ _,by simpa using ja4 (upB hst3 _) 0 _,?_,fun g o n c hh=>(hI.out.F g o n c hh).1⟩
   ·refine jc2 (ja7 hI.out.own (fun z hz=>?_)) hwl2
    have:=ja5 hI.out.own hz
    exact (ja0 (by omega) _ _).trans (HX.out z _ (by omega))
   ·refine hI.out.sl.kept (by simp;omega) (fun g o n c hh hg=>?_)
    have:=hI.out.F g o n c hh
    exact (ja0 (by omega) _ _).trans (HX.out g _ hg)
  ·have e1:rqL bs0=(qs,bs,2):=by
    have hrun:=hI.out.run
    rw [jaG bs (by omega),h] at hrun
    simpa using hrun
   have el:l=qs:=HL.out.trans (by rw [e1])
   have eb:bd=true:=HBD.out.trans (by rw [e1];rfl)
   have ef:lf=[]:=HLF.out.trans (by rw [e1];rfl)
   subst eb
   have EL:=hide el
   have EF:=hide ef
   clear e1 el ef HL HBD HLF
   rw [h]
   go_wp2_with fail
   refine bodyPost_ret (v:=.tuple #[u7,.bool true]) (by simp [results,Tryz.results55,go_sem]) rfl ?_
   rw [EL.out,EF.out]
   refine⟨u7,.slice none 0 0,rfl,?_,((HK1.out.alloc _).set (Or.inl rfl) _ _).set (Or.inl rfl) _ _,by simpa using ja4 (ja4 (upB hst3 _) 1 _) 0 _,Or.inl ⟨rfl,Or.inl rfl⟩,fun g o n c hh=>by simp at hh⟩
   ·refine jc2 (ja7 hI.out.own (fun z hz=>?_)) hwl2
    have:=ja5 hI.out.own hz
    exact (ja0 (by omega) _ _).trans ((ja0 (by omega) _ _).trans (HX.out z _ (by omega)))
theorem jee (tb:Nat)(rv:Value)(s:ByteArray)(w:World)(hb:w.heap[tb]?=some (.cells #[rv,.bool true] 103)) :
  Calls Tryz.prog 55 #[.pointer (some ⟨tb,0,none⟩),.string s] w fun e w'=>e=.returned (.tuple #[.slice none 0 0,.bool false])∧w'=w:=by
 have c1:=cellB hb
 go_enter Tryz.func55,Tryz.ntmps55
 go_wp2_with fail
 exact bodyPost_ret (v:=.tuple #[.slice none 0 0,.bool false]) (by simp [results,Tryz.results55,go_sem]) rfl ⟨rfl,rfl⟩
theorem ask57 (bb base:Nat)(lv:Value)(B:Bk)(q:Rq)(w:World)(h:BookAt w bb base lv B)(hB:B.ok)(hq:q.ok)(ho:q.op∈[1,2,3,4,5,6])(hba:base≤w.heap.size) :
  Calls Tryz.prog 61 #[.pointer (some ⟨bb,0,none⟩),rqv q] w (AskPost bb base lv B q w):=by
 simp only [List.mem_cons,List.not_mem_nil,or_false] at ho
 rcases ho with ho | ho | ho | ho | ho | ho
 ·by_cases hs:jaL q.kd q.x q.y
  ·cases hi:idx q.key B.ls with
   | none=>
    by_cases hf:B.ls.length=12
    ·exact jfe bb base lv B q w h hB hq ho hs hi hf
    ·exact jgw bb base lv B q w h hB hq ho hs hi hf hba
   | some i=>exact jdw bb base lv B q w h hB hq ho hs i hi
  ·exact jhm bb base lv B q w h hB hq ho hs
 ·cases hi:idx q.key B.ls with
  | none=>exact jd0 bb base lv B q w h hB hq (Or.inl ho) hi
  | some i=>exact jkL bb base lv B q w h hB hq ho i hi
 ·cases hi:idx q.key B.ls with
  | none=>exact jd0 bb base lv B q w h hB hq (Or.inr (Or.inl ho)) hi
  | some i=>exact jjS bb base lv B q w h hB hq ho i hi
 ·cases hi:idx q.key B.ls with
  | none=>exact jd0 bb base lv B q w h hB hq (Or.inr (Or.inr ho)) hi
  | some i=>exact jjR bb base lv B q w h hB hq ho i hi
 ·exact jjB bb base lv B q w h hB hq ho
 ·exact jk9 bb base lv B q w h hB hq ho
theorem jh8 (B:Bk)(i:Nat)(l:Ln)(n:Int)(hB:B.ok)(hl:l.ok)(hn:0≤n∧n≤18446744073709551615):(jaz B i l n).1.ok:=by
 have hT:=hB.time
 have hx:=hl.x
 have hy:=hl.y
 have hat:=hl.at_
 unfold jaz
 split
 ·rename_i hok
  dsimp only
  split
  ·refine⟨hT,by rw [List.length_set];exact hB.len,fun l' hl'=>?_⟩
   rcases List.mem_or_eq_of_mem_set hl' with h | rfl
   ·exact hB.ln l' h
   ·have hw:0≤lnWin B.time l∧lnWin B.time l≤18446744073709551615:=by
     unfold lnWin
     split
     ·omega
     ·rename_i hk
      have:=hl.yp hk
      have h1:0≤B.time / l.y:=Int.ediv_nonneg (by omega) (by omega)
      have h2:B.time / l.y≤B.time:=Int.ediv_le_self _ (by omega)
      omega
    have ha:0≤(lnAdm B.time l n).1∧(lnAdm B.time l n).1≤18446744073709551615:=by
     unfold lnAdm at hok ⊢
     split
     ·rename_i hk
      rw [if_pos hk] at hok
      have hkx:1≤l.x:=by rcases hl.kd with h | h <;> omega
      have hnx:0≤n * l.x:=Int.mul_nonneg hn.1 (by omega)
      unfold jaD
      generalize hS:(if l.at_<B.time then B.time else l.at_)=S
      have hS0:0≤S:=by rw [←hS];split <;> omega
      split
      ·exact hat
      ·split
       ·exact⟨Int.le_refl _,(by decide:(0:Int)≤18446744073709551615)⟩
       ·rename_i h1
        split
        ·dsimp only
         omega
        ·exact⟨Int.le_refl _,(by decide:(0:Int)≤18446744073709551615)⟩
     ·rename_i hk
      unfold jaB
      have hs:0≤(jae B.time l).1:=by
       unfold jae
       rw [if_neg hk]
       split <;> dsimp only <;> omega
      split
      ·dsimp only;omega
      ·split <;> exact⟨Int.le_refl _,(by decide:(0:Int)≤18446744073709551615)⟩
    exact⟨hl.kd,hx,hy,ha,hw⟩
  ·exact hB
 ·exact hB
theorem jjV (B:Bk)(q:Rq)(hB:B.ok)(hq:q.ok):(askM B q).1.ok:=by
 unfold askM
 split
 ·split
  ·exact hB
  ·rename_i hs
   split
   ·exact hB
   ·split
    ·exact hB
    ·rename_i hf
     refine⟨hB.time,?_,fun l hl=>?_⟩
     ·have:=hB.len
      show (B.ls ++ [_]).length≤12
      rw [List.length_append,List.length_singleton]
      omega
     ·rcases List.mem_append.1 hl with h | h
      ·exact hB.ln l h
      ·simp at h
       subst h
       exact⟨Decidable.not_not.1 hs,hq.x,hq.y,by simp,by simp⟩
 ·split
  ·exact hB
  ·split
   ·exact hB
   ·cases hi:idx q.key B.ls with
    | none=>exact hB
    | some i=>
     dsimp only
     split
     ·exact hB
     ·split
      ·refine⟨hB.time,?_,fun l hl=>hB.ln l (List.mem_of_mem_eraseIdx hl)⟩
       exact Nat.le_trans (List.length_eraseIdx_le _ _) hB.len
      ·have hlt:=jcR hi
       have hgd:B.ls.getD i ⟨q.key,0,0,0,0,0⟩=B.ls[i]:=by simp [List.getD,List.getElem?_eq_getElem hlt]
       rw [hgd]
       exact jh8 B i _ q.n hB (hB.ln _ (List.getElem_mem hlt)) hq.n
end Go.Proofs.YtnlgndpcddngoaaGreatDoor
namespace Go.Proofs.YtnlgndpcddngoaaGreatDoor
open Go.RowKit Go.Maps
theorem LedAt.count {w w':World}{st:Int}{sb db k:Nat}{c:Led}{F:Nat→Prop}{t:Int}(h:LedAt w st sb db k c F)(hs:∃ s2 s3 s4 s5,w.heap[sb]?=some (.cells #[.int .i32 st,.int .u32 0,s2,s3,s4,s5,.int .u64 c.adm] 130)∧w'.heap[sb]?=some (.cells #[.int .i32 st,.int .u32 0,s2,s3,s4,s5,.int .u64 t] 130))(hk:Keep (fun b=>b=sb) w w'):OutL w st sb db k ⟨c.time,t,c.blk,c.es,c.turn,c.fsD,c.fsN⟩ F w':=by
 obtain⟨mp,g,FD,h1,h2,h3,h4,h5,h6,h7,h8,h9,h10,h11,h12,h13⟩:=h.mem
 obtain⟨s2,s3,s4,s5,e1,e2⟩:=hs
 rw [h1] at e1
 simp at e1
 obtain⟨rfl,rfl,rfl,rfl⟩:=e1
 exact⟨F,⟨⟨mp,g,FD,e2,MapG.kept h2 (hk.block mp (h.lt mp h6) (fun e=>h13 e.symm)),h3.kept (hk.block g (h.lt g h7) (fun e=>h12 e.symm)),h4.kept hk.size (fun b hb=>hk.block b (h.lt b (h5 b hb)) (fun e=>h11 (e▸hb))),h5,h6,h7,h8,h9,h10,h11,h12,h13⟩,h.own,fun b hb=>Nat.lt_of_lt_of_le (h.lt b hb) hk.size⟩,hk.mono (fun b e _=>e▸h.own),fun b hb=>Or.inl hb⟩
theorem jjW (sb:Nat)(st:Int)(db kk:Nat)(cc:Led)(F:Nat→Prop)(q:Rq)(w:World)(h1:q.op≠1)(h2:q.op≠2)(h3:q.op≠3)(h4:q.op≠4)(h6:q.op≠6)(hS:LedAt w st sb db (kk+4) cc F)
  (hc:Hid (∀ w1,LedAt w1 st sb db (kk+4) cc F→Calls Tryz.prog 115 #[.pointer (some ⟨sb,2,none⟩)] w1 fun e w'=>e=.returned (.agg #[.int .u8 1,.int .u64 0,.int .u64 0])∧OutQ w1 st sb db kk cc F cc.ld (some true) w')) :
  Calls Tryz.prog 74 #[.pointer (some ⟨sb,0,none⟩),.agg #[.int .u8 q.op,.int .u8 q.k0,.int .u8 q.k1,.int .u8 q.k2,.int .u8 q.k3,.int .u8 q.k4,.int .u8 q.k5,.int .u8 q.k6,.int .u8 q.k7,.int .u8 q.kd,.int .u64 q.x,.int .u64 q.y,.int .u64 q.n]] w fun e w'=>e=.returned (.agg #[.int .u8 1,.int .u64 0,.int .u64 0])∧OutQ w st sb db kk cc F cc.ld (some true) w':=by
 have n1:(q.op==1)=false:=by simpa using h1
 have n2:(q.op==2)=false:=by simpa using h2
 have n3:(q.op==3)=false:=by simpa using h3
 have n4:(q.op==4)=false:=by simpa using h4
 have n6:(q.op==6)=false:=by simpa using h6
 clear h1 h2 h3 h4 h6
 have hFl:=hS.lt
 obtain⟨W,hW⟩:∃ W,W=(w.alloc (.cells #[.int .u8 q.op,.int .u8 q.k0,.int .u8 q.k1,.int .u8 q.k2,.int .u8 q.k3,.int .u8 q.k4,.int .u8 q.k5,.int .u8 q.k6,.int .u8 q.k7,.int .u8 q.kd,.int .u64 q.x,.int .u64 q.y,.int .u64 q.n] 65)).alloc (.cells #[.int .u8 0,.int .u64 0,.int .u64 0] 40):=⟨_,rfl⟩
 have hB:Below w.heap.size w W:=hW▸((Below.refl _ w).alloc (Nat.le_refl _) _).alloc (by simp) _
 have hk0:W.heap[w.heap.size]?=some (.cells #[.int .u8 q.op,.int .u8 q.k0,.int .u8 q.k1,.int .u8 q.k2,.int .u8 q.k3,.int .u8 q.k4,.int .u8 q.k5,.int .u8 q.k6,.int .u8 q.k7,.int .u8 q.kd,.int .u64 q.x,.int .u64 q.y,.int .u64 q.n] 65):=hW▸upB (ja1 _ _) _
 have hr0:W.heap[w.heap.size+1]?=some (.cells #[.int .u8 0,.int .u64 0,.int .u64 0] 40):=hW▸heapN (by simp)
 have hSW:=hS.below hB (Nat.le_refl _)
 have a1:=cellB hk0
 have lr:=ltB hr0
 go_enter Tryz.func74,Tryz.ntmps74
 go_upto_region 1 with fail
 rw [←hW]
 clear hW
 go_wp2_with fail
 refine (hc.out _ hSW).mono ?_
 rintro e w2 ⟨rfl,c',hc1,hc2,hc3,F',ho1,ho2,ho3⟩
 have hr2:=(ho2.block _ lr (fun h=>by have:=hFl _ h;omega)).trans hr0
 have c2:=cellB hr2
 have f2:=ja2 hr2
 have HC:=hide (And.intro hc1 (And.intro hc2 hc3))
 have HO1:=hide ho1
 clear a1 hc1 hc2 hc3 ho1
 go_wp2
 refine bodyPost_ret (v:=.agg #[.int .u8 1,.int .u64 0,.int .u64 0]) (by simp [results,Tryz.results74,go_sem,c2]) rfl ⟨rfl,?_⟩
 exact⟨c',HC.out.1,HC.out.2.1,⟨HC.out.2.2.1,fun D hD=>HC.out.2.2.2.1 D (hD.imp id (fun h=>⟨trivial,h.2⟩)),(fun h=>absurd h (by simp)),HC.out.2.2.2.2.2⟩,OutL.fin hB lr hFl HO1.out ho2 ho3 _ _ _⟩
def durB (q:Rq)(r:Rp):Bool:=(decide (q.op=1) || decide (q.op=4) || !(decide (q.op=2) || decide (q.op=3) || decide (q.op=6))) && oneB r
def modB (q:Rq)(r:Rp):Option Bool:=if q.op=3∨q.op=6 then none else some (durB q r)
theorem do74 (st:Int)(sb db kk:Nat)(c:Led)(F:Nat→Prop)(q:Rq)(w:World)(hS4:LedAt w st sb db (kk+4) c F)(hcc:c.ok)(hq:q.ok)
  (hsn:Hid (∀ w1,LedAt w1 st sb db (kk+4) c F→Calls Tryz.prog 115 #[.pointer (some ⟨sb,2,none⟩)] w1 fun e w'=>e=.returned (.agg #[.int .u8 1,.int .u64 0,.int .u64 0])∧OutQ w1 st sb db kk c F c.ld (some true) w')) :
  Calls Tryz.prog 74 #[.pointer (some ⟨sb,0,none⟩),.agg #[.int .u8 q.op,.int .u8 q.k0,.int .u8 q.k1,.int .u8 q.k2,.int .u8 q.k3,.int .u8 q.k4,.int .u8 q.k5,.int .u8 q.k6,.int .u8 q.k7,.int .u8 q.kd,.int .u64 q.x,.int .u64 q.y,.int .u64 q.n]] w fun e w'=>e=.returned (.agg #[.int .u8 (doM c.ld q).2.c,.int .u64 (doM c.ld q).2.a,.int .u64 (doM c.ld q).2.b])∧OutQ w st sb db kk c F (doM c.ld q).1 (modB q (doM c.ld q).2) w':=by
 have hS:LedAt w st sb db (kk+2) c F:=hS4.less (by omega)
 by_cases o1:q.op=1
 ·have eb:modB q (doM c.ld q).2=some (oneB (doM c.ld q).2):=by simp [modB,durB,o1]
  rw [eb]
  exact jh4 sb st db kk c _ _ F q _ _ _ w o1 hS (hide (fun w1 h1=>jeb st sb db kk c F q w1 o1 hq h1 hcc))
 by_cases o2:q.op=2
 ·have ea:(doM c.ld q).2=(admB c.ld q).2:=by
   unfold doM admB;rw [if_neg o1,if_pos o2]
   cases fnd q.key c.ld.ks <;> rfl
  have eb:modB q (admB c.ld q).2=some false:=by simp [modB,durB,o2]
  rw [ea,eb]
  refine jiw sb st db kk c (admB c.ld q).1 _ F q _ _ _ w o2 hS (hide (fun w1 h1=>jiu st sb db kk c F q w1 hq h1 hcc)) (hide (fun w1 F1 c1 k1 e1 h1=>?_))
  obtain⟨mp,g,FD,m1,m2,_⟩:=h1.mem
  have hadm:c1.adm=c.adm:=by
   have:c1.ld.adm=(admB c.ld q).1.adm:=by rw [e1]
   have e2:(admB c.ld q).1.adm=c.adm:=by
    unfold admB
    cases fnd q.key c.ld.ks <;> rfl
   exact this.trans e2
  by_cases h2:(admB c.ld q).2.c=2
  ·have eL:(doM c.ld q).1=⟨c1.time,(c1.adm+q.n) % 18446744073709551616,jad c1.es⟩:=by
    have e3:(doM c.ld q).1=⟨(admB c.ld q).1.time,((admB c.ld q).1.adm+q.n) % 18446744073709551616,(admB c.ld q).1.ks⟩:=by
     unfold doM admB at *
     rw [if_neg o1,if_pos o2]
     cases hf:fnd q.key c.ld.ks with
     | none=>rw [hf] at h2;simp at h2
     | some z=>
      rw [hf] at h2
      show (⟨_,if (admM z c.ld.time q.n).2.c=2 then _ else _,_⟩:Ld)=_
      rw [if_pos h2]
    rw [e3,←e1];rfl
   rw [h2,eL]
   refine (jgs sb _ _ _ _ _ _ c1.adm q.n ((c1.adm+q.n) % 18446744073709551616) _ _ (by rw [IntKind.wrap_u64]) w1 m1).mono ?_
   rintro e w' ⟨rfl,g1,g2⟩
   exact⟨rfl,⟨c1.time,(c1.adm+q.n) % 18446744073709551616,c1.blk,c1.es,c1.turn,c1.fsD,c1.fsN⟩,⟨k1.time,by show 0≤(c1.adm+q.n) % 18446744073709551616∧(c1.adm+q.n) % 18446744073709551616≤18446744073709551615;omega,k1.blk,k1.turn,k1.nd,k1.key,k1.qt,k1.fit,k1.len,k1.dur⟩,rfl,⟨rfl,fun D hD=>hD.elim id (fun h=>absurd h.1 (by simp)),(fun h=>absurd h (by simp)),id⟩,h1.count ⟨_,_,_,_,m1,g1⟩ g2⟩
  ·have eL:(doM c.ld q).1=c1.ld:=by
    rw [e1]
    unfold doM admB at *
    rw [if_neg o1,if_pos o2]
    cases hf:fnd q.key c.ld.ks with
    | none=>rfl
    | some z=>
     rw [hf] at h2
     show (⟨_,if (admM z c.ld.time q.n).2.c=2 then _ else _,_⟩:Ld)=_
     rw [if_neg h2]
   rw [eL]
   refine (jfH sb q.n _ _ _ (by simpa using h2) w1).mono ?_
   rintro e w' ⟨rfl,hb⟩
   exact⟨rfl,c1,k1,rfl,⟨rfl,fun D hD=>hD.elim id (fun h=>absurd h.1 (by simp)),(fun h=>absurd h (by simp)),id⟩,OutL.same h1 hb⟩
 by_cases o3:q.op=3
 ·have eb:modB q (doM c.ld q).2=none:=by simp [modB,o3]
  rw [eb]
  exact jid sb st db kk c _ _ F q _ _ _ w o3 hS (hide (fun w1 h1=>jfj st sb db kk c F q w1 o3 hq h1 hcc))
 by_cases o4:q.op=4
 ·have eb:modB q (doM c.ld q).2=some (oneB (doM c.ld q).2):=by simp [modB,durB,o4]
  rw [eb]
  exact jhp sb st db kk c _ _ F q _ _ _ w o4 hS (hide (fun w1 h1=>je8 st sb db kk c F q w1 o4 hq h1 hcc))
 by_cases o6:q.op=6
 ·have e:doM c.ld q=(c.ld,⟨1,c.time,0⟩):=by unfold doM;rw [if_neg o1,if_neg o2,if_neg o3,if_neg o4,if_pos o6];rfl
  have eb:modB q ⟨1,c.time,0⟩=none:=by simp [modB,o6]
  rw [e,eb]
  exact jif sb st db kk c F q w o6 hcc hS
 ·have e:doM c.ld q=(c.ld,⟨1,0,0⟩):=by unfold doM;rw [if_neg o1,if_neg o2,if_neg o3,if_neg o4,if_neg o6]
  have eb:modB q ⟨1,0,0⟩=some true:=by simp [modB,durB,oneB,o1,o2,o3,o4,o6]
  rw [e,eb]
  exact jjW sb st db kk c F q w o1 o2 o3 o4 o6 hS4 hsn
end Go.Proofs.YtnlgndpcddngoaaGreatDoor
namespace Go.Proofs.YtnlgndpcddngoaaGreatDoor
open Go.RowKit
structure Dx where
 t:Int
 z:Bool
def Led.hx (c:Led)(D:Dx):Prop:=c.has D.t∧(D.z=true→∀ p∈c.es,p.2.2=p.2.1)∧Sm c.fsD c.fsN
def doD (D:Dx)(L:Ld)(q:Rq):Dx:=match modB q (doM L q).2 with
 | none=>D
 | some b=>⟨if b then L.time else D.t,false⟩
def SrvK (db:Nat)(blk:Int)(D:Dx)(k:Nat)(w:World)(st:Int)(sb:Nat)(L:Ld)(F:Nat→Prop):Prop:=∃ c:Led,c.ok∧c.ld=L∧(c.blk=blk∧c.hx D)∧LedAt w st sb db k c F
theorem SrvK.lt {db:Nat}{blk:Int}{D:Dx}{k:Nat}{w:World}{st:Int}{sb:Nat}{L:Ld}{F:Nat→Prop}(h:SrvK db blk D k w st sb L F):∀ b,F b→b<w.heap.size:=by
 obtain⟨c,_,_,_,h⟩:=h
 exact h.lt
theorem SrvK.lok {db:Nat}{blk:Int}{D:Dx}{k:Nat}{w:World}{st:Int}{sb:Nat}{L:Ld}{F:Nat→Prop}(h:SrvK db blk D k w st sb L F):L.ok:=by
 obtain⟨c,h1,h2,_,_⟩:=h
 exact h2▸h1.ld
theorem SrvK.kept {db:Nat}{blk:Int}{D:Dx}{k:Nat}{w w':World}{st:Int}{sb:Nat}{L:Ld}{F:Nat→Prop}(h:SrvK db blk D k w st sb L F)(hs:w.heap.size≤w'.heap.size)(hb:∀ b,F b→w'.heap[b]?=w.heap[b]?):SrvK db blk D k w' st sb L F:=by
 obtain⟨c,h1,h2,h3,h4⟩:=h
 exact⟨c,h1,h2,h3,h4.kept hs hb⟩
theorem SrvK.below {db:Nat}{blk:Int}{D:Dx}{k:Nat}{w w':World}{st:Int}{sb:Nat}{L:Ld}{F:Nat→Prop}(h:SrvK db blk D k w st sb L F){B:Nat}(hb:Below B w w')(hB:w.heap.size≤B):SrvK db blk D k w' st sb L F:=
 h.kept hb.size fun b hF=>hb.block b (Nat.lt_of_lt_of_le (h.lt b hF) hB)
theorem SrvK.drew {db:Nat}{blk:Int}{D:Dx}{k:Nat}{w:World}{st:Int}{sb:Nat}{L:Ld}{F:Nat→Prop}(h:SrvK db blk D k w st sb L F):SrvK db blk D k w.drew st sb L F:=h.kept (Nat.le_refl _) fun _ _=>rfl
theorem SrvK.less {db:Nat}{blk:Int}{D:Dx}{k k':Nat}{w:World}{st:Int}{sb:Nat}{L:Ld}{F:Nat→Prop}(h:SrvK db blk D k w st sb L F)(hk:k'≤k):SrvK db blk D k' w st sb L F:=by
 obtain⟨c,h1,h2,h3,h4⟩:=h
 exact⟨c,h1,h2,h3,h4.less hk⟩
def OutK (db:Nat)(blk:Int)(D:Dx)(k:Nat)(w:World)(st:Int)(sb:Nat)(L:Ld)(F:Nat→Prop)(w':World):Prop:=
 ∃ F',SrvK db blk D k w' st sb L F'∧Keep F w w'∧∀ b,F' b→F b∨w.heap.size≤b
theorem OutQ.k {db:Nat}{blk:Int}{D:Dx}{k:Nat}{w w':World}{st:Int}{sb:Nat}{c:Led}{q:Rq}{F:Nat→Prop}(hb:c.blk=blk∧c.hx D)(h:OutQ w st sb db k c F (doM c.ld q).1 (modB q (doM c.ld q).2) w'):OutK db blk (doD D c.ld q) k w st sb (doM c.ld q).1 F w':=by
 obtain⟨c',h1,h2,h3,F',h4,h5,h6⟩:=h
 refine⟨F',⟨c',h1,h2,⟨h3.1.trans hb.1,?_⟩,h4⟩,h5,h6⟩
 unfold doD
 split
 ·rename_i hd
  rw [h3.2.2.1 hd]
  exact hb.2
 ·rename_i b hd
  refine⟨?_,(fun h=>absurd h (by simp)),h3.2.2.2 hb.2.2.2⟩
  cases b
  ·exact h3.2.1 _ (Or.inl hb.2.1)
  ·exact h3.2.1 _ (Or.inr ⟨hd,rfl⟩)
def runDM:Nat→Dx→Ld→List Int→Dx
 | 0,D,_,_=>D
 | n+1,D,L,bs=>if rdErr bs=0 then runDM n (doD D L (rdQ bs)) (doM L (rdQ bs)).1 (bs.drop (rdN bs).toNat) else D
def runDL (D:Dx)(L:Ld)(bs:List Int):Dx:=runDM bs.length D L bs
theorem jg5:∀ (n:Nat) (D:Dx) (L:Ld) (bs:List Int),bs.length≤n→runDM n D L bs=runDM bs.length D L bs:=by
 intro n
 induction n using Nat.strongRecOn with
 | ind n ih=>
  intro D L bs h
  cases n with
  | zero=>rw [show bs.length=0 by omega]
  | succ n=>
   cases hb:bs.length with
   | zero=>
    have e:bs=[]:=List.length_eq_zero_iff.1 hb
    subst e
    unfold runDM
    rw [if_neg (by simp [rdErr])]
   | succ m=>
    unfold runDM
    by_cases h0:rdErr bs=0
    ·obtain⟨r1,r2,_,_⟩:=jbf bs h0
     rw [if_pos h0,if_pos h0,ih n (by omega) _ _ _ (by rw [List.length_drop];omega),ih m (by omega) _ _ _ (by rw [List.length_drop];omega)]
    ·rw [if_neg h0,if_neg h0]
theorem jbr (D:Dx)(L:Ld)(bs:List Int)(h:rdErr bs≠0):runDL D L bs=D:=by
 unfold runDL
 cases hb:bs.length with
 | zero=>rfl
 | succ n=>unfold runDM;rw [if_neg h]
theorem jbl (D:Dx)(L:Ld)(bs:List Int)(h:rdErr bs=0):runDL D L bs=runDL (doD D L (rdQ bs)) (doM L (rdQ bs)).1 (bs.drop (rdN bs).toNat):=by
 obtain⟨r1,r2,_,_⟩:=jbf bs h
 have e:runDL D L bs=runDM bs.length D L bs:=rfl
 rw [e]
 cases hb:bs.length with
 | zero=>omega
 | succ n=>
  unfold runDM
  rw [if_pos h,jg5 n _ _ _ (by rw [List.length_drop];omega)]
  rfl
structure RdI (db:Nat)(blk:Int)(D:Dx)(k0:Nat)(w:World)(F:Nat→Prop)(st:Int)(sb cb rb:Nat)(cc:Array Value)(L0:Ld)(bs0:List Int)(D':Dx)(L:Ld)(bs:List Int)(rs:List Rp)(F':Nat→Prop)(v1 v5:Value)(wr:World):Prop where
 runD:runDL D L0 bs0=runDL D' L bs
 run:runL L0 bs0=((runL L bs).1,rs ++ (runL L bs).2.1,(runL L bs).2.2)
 sl:Sl wr v1 bs
 le:18 * rs.length+9 * bs.length≤9 * bs0.length
 by_:Bytes bs
 own:wr.ownsRow w.heap.size 5 1 v5 (encs rs).length ((encs rs).map (Value.int .u8))
 req:wr.heap[rb]?=some (.cells (rqc (rdQ bs)) 65)
 srv:SrvK db blk D' (4 * bs.length+k0) wr st sb L F'
 lok:L.ok
 F1:∀ b,F' b→F b∨w.heap.size≤b
 F2:¬F' rb
 F3:∀ g,v5.ownBlock=some g→¬F' g∧g≠rb
 F4:∀ g o n c,v1=.slice (some ⟨g,o,none⟩) n c→g<w.heap.size∧¬F g
 conn:wr.heap[cb]?=some (.cells cc 112)
 keep:Keep F w wr
theorem jlI (db:Nat)(blk:Int)(D:Dx)(k0:Nat)(st:Int)(sb cb:Nat)(F:Nat→Prop)(L0:Ld)(bs0:List Int)(vb cw cbad:Value)(w:World)(hS:SrvK db blk D (4 * bs0.length+k0) w st sb L0 F)(hL:L0.ok)(hcb:w.heap[cb]?=some (.cells #[.pointer (some ⟨sb,0,none⟩),cw,cbad] 112))(hFc:¬F cb)
  (hs:Sl w vb bs0) (hsF:∀ g o n c,vb=.slice (some ⟨g,o,none⟩) n c→g<w.heap.size∧¬F g) (hby:Bytes bs0) (hlen:bs0.length≤100000)
  (hdo:Hid (∀ kk w1 D L F1 q,SrvK db blk D (kk+4) w1 st sb L F1→L.ok→q.ok→Calls Tryz.prog 74 #[.pointer (some ⟨sb,0,none⟩),.agg #[.int .u8 q.op,.int .u8 q.k0,.int .u8 q.k1,.int .u8 q.k2,.int .u8 q.k3,.int .u8 q.k4,.int .u8 q.k5,.int .u8 q.k6,.int .u8 q.k7,.int .u8 q.kd,.int .u64 q.x,.int .u64 q.y,.int .u64 q.n]] w1 fun e w'=>e=.returned (.agg #[.int .u8 (doM L q).2.c,.int .u64 (doM L q).2.a,.int .u64 (doM L q).2.b])∧OutK db blk (doD D L q) kk w1 st sb (doM L q).1 F1 w')) :
  Calls Tryz.prog 48 #[.pointer (some ⟨cb,0,none⟩),vb] w fun e w'=>∃ rv F',e=.returned rv∧SrvK db blk (runDL D L0 bs0) k0 w' st sb (runL L0 bs0).1 F'∧(∀ b,F' b→F b∨w.heap.size≤b)∧Keep (fun b=>F b∨b=cb) w w'∧
   ((runL L0 bs0).2.2.2=2∧w'.heap[cb]?=some (.cells #[.pointer (some ⟨sb,0,none⟩),.slice none 0 0,.bool true] 112)∧w'.ownsRow w.heap.size 5 1 rv (encs ((runL L0 bs0).2.1 ++ [⟨6,0,0⟩])).length ((encs ((runL L0 bs0).2.1 ++ [⟨6,0,0⟩])).map (Value.int .u8))∨
    (runL L0 bs0).2.2.2≠2∧∃ wv,w'.heap[cb]?=some (.cells #[.pointer (some ⟨sb,0,none⟩),wv,cbad] 112)∧w'.ownsRow w.heap.size 5 1 wv (runL L0 bs0).2.2.1.length ((runL L0 bs0).2.2.1.map (Value.int .u8))∧(∀ g,wv.ownBlock=some g→¬F' g)∧w'.ownsRow w.heap.size 5 1 rv (encs (runL L0 bs0).2.1).length ((encs (runL L0 bs0).2.1).map (Value.int .u8))):=by
 have hFl:=hS.lt
 have lc:=ltB hcb
 have HCB:=hide hcb
 have HBY:=hide hby
 have HS:=hide hs
 have HSF:=hide hsF
 clear hcb hby hs hsF
 go_enter Tryz.func48,Tryz.ntmps48
 go_wp2_with fail
 refine (jgS vb bs0 w HS.out (by omega) (fun j=>HBY.out.getD j) _ rfl _ _ rfl rfl).mono ?_
 rintro e w1 ⟨rfl,hb1⟩
 go_wp2_with fail
 go_loopw [1,5,7,8] (fun s1 s5 s7 s8 wr=>∃ D' L bs rs F',RdI db blk D k0 w F st sb cb w1.heap.size #[.pointer (some ⟨sb,0,none⟩),cw,cbad] L0 bs0 D' L bs rs F' s1 s5 wr∧s7=.int .i64 (rdN bs)∧s8=errV (rdErr bs)) (fun s1 _ _ _ _=>jbn s1)
 case atStart=>
  have hs1:=hb1.size
  refine⟨D,L0,bs0,[],F,⟨rfl,by simp,(HS.out.below hb1 (Nat.le_refl _)).kept (by simp) (fun g _ _ _ _ hg=>ja3 _ _ hg),by simp,HBY.out,World.ownsRow_nil _ _ _ _,ja1 _ _,(hS.below hb1 (Nat.le_refl _)).kept (by simp) (fun b hb=>ja3 _ _ (by have:=hFl b hb;omega)),hL,fun b hb=>Or.inl hb,fun h=>by have:=hFl _ h;omega,fun g hg=>by simp [Value.ownBlock] at hg,HSF.out,upB ((hb1.block cb lc).trans HCB.out) _,(Keep.of_below hb1).alloc _⟩,rfl,rfl⟩
 case round=>
  obtain⟨D',L,bs,rs,F',I,rfl,rfl⟩:=hrel
  have hs1:=hb1.size
  by_cases h0:rdErr bs=0
  ·obtain⟨r1,r2,r3,r4⟩:=jbf bs h0
   have eV:errV (rdErr bs)=.nilIface:=by rw [h0];rfl
   rw [eV,r3]
   have hI:=hide I
   rcases I.sl with ⟨hnil,_⟩ | ⟨hp,g,o,c,hv,hc,hg,hcell⟩
   ·rw [hnil] at h0;simp [rdErr] at h0
   subst hv
   obtain⟨q,hq⟩:∃ q,q=rdQ bs:=⟨_,rfl⟩
   obtain⟨m,hm⟩:∃ m,m=(rdN bs).toNat:=⟨_,rfl⟩
   obtain⟨n,hn⟩:∃ n,n=bs.length:=⟨_,rfl⟩
   rw [←hm] at r1 r2 r4 ⊢
   rw [←hn] at r2 hc hp ⊢
   have hqok:q.ok:=hq▸jf4 bs I.by_
   obtain⟨L2,r,hdm⟩:∃ L2 r,doM L q=(L2,r):=⟨_,_,rfl⟩
   obtain⟨D2,hD2⟩:∃ D2,D2=doD D' L q:=⟨_,rfl⟩
   have hd:∀ w1,SrvK db blk D' (4 * n+k0) w1 st sb L F'→Calls Tryz.prog 74 #[.pointer (some ⟨sb,0,none⟩),.agg #[.int .u8 q.op,.int .u8 q.k0,.int .u8 q.k1,.int .u8 q.k2,.int .u8 q.k3,.int .u8 q.k4,.int .u8 q.k5,.int .u8 q.k6,.int .u8 q.k7,.int .u8 q.kd,.int .u64 q.x,.int .u64 q.y,.int .u64 q.n]] w1 fun e w'=>e=.returned (.agg #[.int .u8 r.c,.int .u64 r.a,.int .u64 r.b])∧OutK db blk D2 (4 * (n - m)+k0) w1 st sb L2 F' w':=fun w1 h=>by
    have:=hdo.out (4 * (n - m)+k0) w1 D' L F' q (h.less (by omega)) I.lok hqok
    rw [hdm,←hD2] at this
    exact this
   have hdk:=jcB L q I.lok hqok
   rw [hdm] at hdk
   have HD:=hide hd
   have HD2:=hide hD2
   clear hD2
   have hconn:=I.conn
   have hreq:wr.heap[w1.heap.size]?=some (.cells #[.int .u8 q.op,.int .u8 q.k0,.int .u8 q.k1,.int .u8 q.k2,.int .u8 q.k3,.int .u8 q.k4,.int .u8 q.k5,.int .u8 q.k6,.int .u8 q.k7,.int .u8 q.kd,.int .u64 q.x,.int .u64 q.y,.int .u64 q.n] 65):=hq▸I.req
   have hF2:=I.F2
   have hF4:=I.F4 g o _ c (by rw [←hn])
   have hFcb:¬F' cb:=fun h=>(I.F1 _ h).elim hFc (fun h=>by omega)
   have hFg:¬F' g:=fun h=>(I.F1 _ h).elim hF4.2 (fun h=>by omega)
   have hbase:=I.keep.size
   have lrb:=ltB hreq
   have HO:=hide I.own
   have hk5:(encs rs).length+18≤4194304:=by have:=I.le;rw [jb6];omega
   have HF3:=hide I.F3
   have HRP:=hide hdk.2
   have HSR:Hid (SrvK db blk D' (4 * n+k0) wr st sb L F'):=hide (hn▸I.srv)
   have HM:=hide hm
   have HN:=hide hn
   have HQ:=hide hq
   have HR3:=hide r3
   have HDM:=hide hdm
   have HEV:=hide h0
   clear hd hdk I hcell hm hn hq r3 hdm h0 eV
   go_wp2_with fail
   go_region_held3 (fun w'=>w'.cell? ⟨cb,0,none⟩=some (.pointer (some ⟨sb,0,none⟩))∧w'.cell? ⟨w1.heap.size,0,none⟩=some (.int .u8 q.op)∧w'.cell? ⟨w1.heap.size,1,none⟩=some (.int .u8 q.k0)∧w'.cell? ⟨w1.heap.size,2,none⟩=some (.int .u8 q.k1)∧w'.cell? ⟨w1.heap.size,3,none⟩=some (.int .u8 q.k2)∧w'.cell? ⟨w1.heap.size,4,none⟩=some (.int .u8 q.k3)∧w'.cell? ⟨w1.heap.size,5,none⟩=some (.int .u8 q.k4)∧w'.cell? ⟨w1.heap.size,6,none⟩=some (.int .u8 q.k5)∧w'.cell? ⟨w1.heap.size,7,none⟩=some (.int .u8 q.k6)∧w'.cell? ⟨w1.heap.size,8,none⟩=some (.int .u8 q.k7)∧w'.cell? ⟨w1.heap.size,9,none⟩=some (.int .u8 q.kd)∧w'.cell? ⟨w1.heap.size,10,none⟩=some (.int .u64 q.x)∧w'.cell? ⟨w1.heap.size,11,none⟩=some (.int .u64 q.y)∧w'.cell? ⟨w1.heap.size,12,none⟩=some (.int .u64 q.n))
    (first | (exact⟨cellB hc4 0,cellB hr4 0,cellB hr4 1,cellB hr4 2,cellB hr4 3,cellB hr4 4,cellB hr4 5,cellB hr4 6,cellB hr4 7,cellB hr4 8,cellB hr4 9,cellB hr4 10,cellB hr4 11,cellB hr4 12⟩) | (exact⟨cellB hc3 0,cellB hr3 0,cellB hr3 1,cellB hr3 2,cellB hr3 3,cellB hr3 4,cellB hr3 5,cellB hr3 6,cellB hr3 7,cellB hr3 8,cellB hr3 9,cellB hr3 10,cellB hr3 11,cellB hr3 12⟩) | (exact⟨cellB hc2 0,cellB hr2 0,cellB hr2 1,cellB hr2 2,cellB hr2 3,cellB hr2 4,cellB hr2 5,cellB hr2 6,cellB hr2 7,cellB hr2 8,cellB hr2 9,cellB hr2 10,cellB hr2 11,cellB hr2 12⟩) | (exact⟨cellB hconn 0,cellB hreq 0,cellB hreq 1,cellB hreq 2,cellB hreq 3,cellB hreq 4,cellB hreq 5,cellB hreq 6,cellB hreq 7,cellB hreq 8,cellB hreq 9,cellB hreq 10,cellB hreq 11,cellB hreq 12⟩))
    (first | (go_at_call 74;(refine (HD.out _ HSR.out.drew).mono ?_;rintro e w2 ⟨rfl,F2,o1,o2,o3⟩;have hc2:=(o2.block cb (ltB hconn) hFcb).trans hconn;have hr2:=(o2.block w1.heap.size lrb hF2).trans hreq))
           | (go_at_call 73;(refine (wrep r.c r.a r.b _ HRP.out.a.1 HRP.out.a.2 HRP.out.b.1 HRP.out.b.2).mono ?_;rintro e w3 ⟨rfl,hown3,hb3⟩;have hc3:=(hb3.block cb (ltB hc2)).trans hc2;have hr3:=(hb3.block w1.heap.size (ltB hr2)).trans hr2))
           | ((refine jcf (by rfl) _ _ (by rfl) w.heap.size u5 (encs rs).length (encs rs) (by rfl) (jaV HO.out (fun z hz=>(hb3.block z (Nat.lt_of_lt_of_le (HO.out.lt z hz).2 o2.size)).trans (o2.block z (HO.out.lt z hz).2 (HF3.out z hz).1))) ⟨w2.heap.size+1,0,none⟩ 18 18 (jai r.c r.a r.b) (by rfl) (by simp [jai,be8]) (fun j u hj=>by rw [Addr.add_lit,Nat.zero_add];exact (hown3.cellAt j (by have:=(List.getElem?_eq_some_iff.1 hj).1;simp [jai,be8] at this;omega)).trans hj) hk5 (by have:=hb3.size;have:=o2.size;have:wr.drew.heap.size=wr.heap.size:=rfl;omega) ?_;intro v5 w4 hown4 hgr4 hloc4;have hz4:∀ z,z<w3.heap.size→(∀ y,u5.ownBlock=some y→y≠z)→w4.heap[z]?=w3.heap[z]?:=fun z hz hy=>hgr4.block z hz (fun e=>hy z e.symm rfl);have hc4:=(hz4 cb (ltB hc3) (fun y hy e=>by have:=(HO.out.lt y hy).1;omega)).trans hc3;have hr4:=(hz4 w1.heap.size (ltB hr3) (fun y hy e=>(HF3.out y hy).2 e)).trans hr3)))
   have hs3:=hb3.size
   have hs2:=o2.size
   have hsd:wr.drew.heap.size=wr.heap.size:=rfl
   have hs4:=hgr4.size
   have hnF:∀ z,F2 z→(∀ y,u5.ownBlock=some y→y≠z):=fun z hz y hy e=>by
    subst e
    rcases o3 _ hz with h | h
    ·exact (HF3.out y hy).1 h
    ·have:=(HO.out.lt y hy).2;omega
   have hsrv4:SrvK db blk D2 (4 * (n - m)+k0) w4 st sb L2 F2:=o1.kept (by omega) (fun z hz=>(hz4 z (Nat.lt_of_lt_of_le (o1.lt z hz) hs3) (hnF z hz)).trans (hb3.block z (o1.lt z hz)))
   have hgk:∀ z,z<w.heap.size→¬F z→w4.heap[z]?=wr.heap[z]?:=fun z hz hF=>(hz4 z (by omega) (fun y hy e=>by have:=(HO.out.lt y hy).1;omega)).trans ((hb3.block z (by omega)).trans (o2.block z (by show z<wr.heap.size;omega) (fun h=>(hI.out.F1 z h).elim hF (fun h=>by omega))))
   have hK4:Keep F w w4:=by
    have k1:Keep F w w2:=hI.out.keep.drew.then o2 (fun i hi h=>(hI.out.F1 i h).elim id (fun h=>absurd hi (Nat.not_lt.2 h)))
    have k2:Keep F w w3:=k1.trans (Keep.of_below hb3)
    exact⟨hgr4.os.trans k2.os,hgr4.tape.trans k2.tape,hgr4.output.trans k2.output,Nat.le_trans k2.size hs4,fun z hz hF=>(hz4 z (by omega) (fun y hy e=>by have:=(HO.out.lt y hy).1;omega)).trans (k2.block z hz hF)⟩
   have hbd:(bs.drop m).length=n - m:=by rw [List.length_drop,←HN.out]
   have HBD:=hide hbd
   clear hbd
   obtain⟨vd,hvd,hsl4,hvg⟩:∃ vd,(if c=m then Value.slice (some ⟨g,o,none⟩) (n - m) (c - m) else Value.slice (some ⟨g,o+m,none⟩) (n - m) (c - m))=vd∧Sl w4 vd (bs.drop m)∧(∀ g' o' n' c',vd=.slice (some ⟨g',o',none⟩) n' c'→g'=g):=by
    refine⟨_,rfl,?_,?_⟩
    ·rcases hI.out.sl with ⟨hnil,_⟩ | ⟨_,g',o',c',hv,hc',hg',hcell⟩
     ·rw [hnil] at HN;have:=HN.out;simp at this;omega
     ·injection hv with e1 e2 e3
      injection e1 with e1
      injection e1 with e4 e5
      subst e4 e5 e3
      by_cases hrem:n - m=0
      ·left
       refine⟨List.length_eq_zero_iff.1 (HBD.out.trans hrem),Or.inr ?_⟩
       rw [hrem]
       split
       ·exact⟨_,_,_,rfl⟩
       ·exact⟨_,_,_,rfl⟩
      ·right
       rw [if_neg (by omega),HBD.out]
       refine⟨by omega,g,o+m,c - m,rfl,by omega,by have:=hI.out.F4 g o _ c rfl;omega,fun j hj=>?_⟩
       have hF4':=hI.out.F4 g o _ c rfl
       rw [World.cell?_of_block (w:=wr) (hgk g hF4'.1 hF4'.2),Nat.add_assoc,hcell (m+j) (by rw [←HN.out];omega)]
       simp [List.getD,List.getElem?_drop]
    ·intro g' o' n' c' h
     split at h <;> (injection h with h1 _ _;injection h1 with h1;injection h1 with h1 _;exact h1.symm)
   have HSL:=hide hsl4
   have HSV:=hide hsrv4
   have HVD:=hide hvd
   have HVG:=hide hvg
   have HK4:=hide hK4
   have hmn:(m:Int)≤(n:Int):=by omega
   have hm0:(0:Int)≤(m:Int):=by omega
   clear hsl4 hsrv4 hvd hvg hK4 hgk hnF hown3 hb3 hgr4
   have HL4:=hide hloc4
   have HO4:=hide hown4
   clear hloc4 hown4
   go_wp2_with fail
   ·have h:=HVD.out
    rw [if_pos (by omega),show c - m=0 by omega] at h
    subst h
    refine (jgS _ (bs.drop m) w4 HSL.out (by rw [HBD.out];have:=hI.out.le;have:=HN.out;omega) (fun j=>(hI.out.by_.drop m).getD j) _ rfl _ _ rfl rfl).mono ?_
    rintro e w5 ⟨rfl,hb5⟩
    have hr5:=(hb5.block w1.heap.size (ltB hr4)).trans hr4
    have hs5:=hb5.size
    have d1:=cellB hr5
    have d2:=ja2 hr5
    go_wp2
    go_roundw
    case rel=>
     have hrbF:¬F2 w1.heap.size:=fun h=>(o3 _ h).elim hF2 (fun h=>by have:wr.heap.size≤_:=h;omega)
     have hstep:=jbH L bs HEV.out
     rw [←HQ.out,HDM.out,←HM.out] at hstep
     have hdok:=jcB L q hI.out.lok (HQ.out▸jf4 bs hI.out.by_)
     rw [HDM.out] at hdok
     have hv5:∀ y,v5.ownBlock=some y→y≠w1.heap.size∧¬F2 y:=by
      intro y hy
      rcases HL4.out with h | h
      ·rw [h] at hy
       refine⟨(HF3.out y hy).2,fun hF=>(o3 _ hF).elim (HF3.out y hy).1 (fun h=>?_)⟩
       have:=(HO.out.lt y hy).2
       have:wr.heap.size≤_:=h
       omega
      ·rw [h] at hy
       injection hy with hy
       refine⟨by omega,fun hF=>?_⟩
       have:=o1.lt y hF
       omega
     refine⟨D2,L2,bs.drop m,rs ++ [r],F2,⟨?_,?_,?_,?_,hI.out.by_.drop m,?_,?_,?_,hdok.1,?_,hrbF,fun y hy=>⟨(hv5 y hy).2,(hv5 y hy).1⟩,fun g' o' n' c' h=>by rw [HVG.out g' o' n' c' h];exact hF4,?_,?_⟩,rfl,rfl⟩
     ·rw [hI.out.runD,jbl D' L bs HEV.out,←HQ.out,←HM.out,←HD2.out,HDM.out]
     ·rw [hI.out.run,hstep,List.append_assoc];rfl
     ·refine (HSL.out.below hb5 (Nat.le_refl _)).kept (by simp) (fun g' o' n' c' h hg'=>?_)
      have:=HVG.out g' o' n' c' h
      repeat (refine (ja0 (by omega) _ _).trans ?_)
      rfl
     ·have:=hI.out.le
      have:=HN.out
      rw [List.length_append,HBD.out]
      simp only [List.length_cons,List.length_nil]
      omega
     ·refine jaV (w:=w4) ?_ (fun y hy=>?_)
      ·have:=HO4.out
       rw [jcd,List.length_append]
       exact this
      ·have h1:=(hv5 y hy).1
       repeat (refine (ja0 h1 _ _).trans ?_)
       exact hb5.block y (HO4.out.lt y hy).2
     ·exact jdM hr5 _ _ _ _ _ _ _ _ _ _ _ _ _
     ·rw [HBD.out]
      refine HSV.out.kept (by simp;omega) (fun z hz=>?_)
      have h1:z≠w1.heap.size:=fun e=>hrbF (e▸hz)
      repeat (refine (ja0 h1 _ _).trans ?_)
      exact hb5.block z (HSV.out.lt z hz)
     ·exact fun z hz=>(o3 z hz).elim (hI.out.F1 z) (fun h=>Or.inr (by have:wr.heap.size≤z:=h;omega))
     ·repeat (refine (ja0 (by omega) _ _).trans ?_)
      exact (hb5.block cb (ltB hc4)).trans hc4
     ·repeat (refine Keep.set ?_ (Or.inr (by omega)) _ _)
      exact HK4.out.trans (Keep.of_below hb5)
    case measure=>simp [jbn];omega
   ·have h:=HVD.out
    rw [if_neg (by omega)] at h
    subst h
    refine (jgS _ (bs.drop m) w4 HSL.out (by rw [HBD.out];have:=hI.out.le;have:=HN.out;omega) (fun j=>(hI.out.by_.drop m).getD j) _ rfl _ _ rfl rfl).mono ?_
    rintro e w5 ⟨rfl,hb5⟩
    have hr5:=(hb5.block w1.heap.size (ltB hr4)).trans hr4
    have hs5:=hb5.size
    have d1:=cellB hr5
    have d2:=ja2 hr5
    go_wp2
    go_roundw
    case rel=>
     have hrbF:¬F2 w1.heap.size:=fun h=>(o3 _ h).elim hF2 (fun h=>by have:wr.heap.size≤_:=h;omega)
     have hstep:=jbH L bs HEV.out
     rw [←HQ.out,HDM.out,←HM.out] at hstep
     have hdok:=jcB L q hI.out.lok (HQ.out▸jf4 bs hI.out.by_)
     rw [HDM.out] at hdok
     have hv5:∀ y,v5.ownBlock=some y→y≠w1.heap.size∧¬F2 y:=by
      intro y hy
      rcases HL4.out with h | h
      ·rw [h] at hy
       refine⟨(HF3.out y hy).2,fun hF=>(o3 _ hF).elim (HF3.out y hy).1 (fun h=>?_)⟩
       have:=(HO.out.lt y hy).2
       have:wr.heap.size≤_:=h
       omega
      ·rw [h] at hy
       injection hy with hy
       refine⟨by omega,fun hF=>?_⟩
       have:=o1.lt y hF
       omega
     refine⟨D2,L2,bs.drop m,rs ++ [r],F2,⟨?_,?_,?_,?_,hI.out.by_.drop m,?_,?_,?_,hdok.1,?_,hrbF,fun y hy=>⟨(hv5 y hy).2,(hv5 y hy).1⟩,fun g' o' n' c' h=>by rw [HVG.out g' o' n' c' h];exact hF4,?_,?_⟩,rfl,rfl⟩
     ·rw [hI.out.runD,jbl D' L bs HEV.out,←HQ.out,←HM.out,←HD2.out,HDM.out]
     ·rw [hI.out.run,hstep,List.append_assoc];rfl
     ·refine (HSL.out.below hb5 (Nat.le_refl _)).kept (by simp) (fun g' o' n' c' h hg'=>?_)
      have:=HVG.out g' o' n' c' h
      repeat (refine (ja0 (by omega) _ _).trans ?_)
      rfl
     ·have:=hI.out.le
      have:=HN.out
      rw [List.length_append,HBD.out]
      simp only [List.length_cons,List.length_nil]
      omega
     ·refine jaV (w:=w4) ?_ (fun y hy=>?_)
      ·have:=HO4.out
       rw [jcd,List.length_append]
       exact this
      ·have h1:=(hv5 y hy).1
       repeat (refine (ja0 h1 _ _).trans ?_)
       exact hb5.block y (HO4.out.lt y hy).2
     ·exact jdM hr5 _ _ _ _ _ _ _ _ _ _ _ _ _
     ·rw [HBD.out]
      refine HSV.out.kept (by simp;omega) (fun z hz=>?_)
      have h1:z≠w1.heap.size:=fun e=>hrbF (e▸hz)
      repeat (refine (ja0 h1 _ _).trans ?_)
      exact hb5.block z (HSV.out.lt z hz)
     ·exact fun z hz=>(o3 z hz).elim (hI.out.F1 z) (fun h=>Or.inr (by have:wr.heap.size≤z:=h;omega))
     ·repeat (refine (ja0 (by omega) _ _).trans ?_)
      exact (hb5.block cb (ltB hc4)).trans hc4
     ·repeat (refine Keep.set ?_ (Or.inr (by omega)) _ _)
      exact HK4.out.trans (Keep.of_below hb5)
    case measure=>simp [jbn];omega
  ·have hrun:=I.run
   rw [jbE L bs h0] at hrun
   have HRD:Hid (runDL D L0 bs0=D'):=hide (I.runD.trans (jbr D' L bs h0))
   simp only [List.append_nil] at hrun
   have hI:=hide I
   have hbase:=I.keep.size
   have hconn:=I.conn
   have lcw:=ltB hconn
   have hle:18 * rs.length+9 * bs.length≤9 * bs0.length:=I.le
   rcases jbt bs with h | h | h
   ·exact absurd h h0
   ·rw [h] at hrun ⊢
    have eV:errV 1=.iface 53 (.int .i64 1):=rfl
    rw [eV]
    have HRUN:=hide hrun
    clear hrun I h h0 eV
    go_wp2_with fail
    refine (jeW 1 2 _ (by decide)).mono ?_
    rintro e wq ⟨rfl,rfl⟩
    go_wp2_with (at_builtin;refine jau rfl _ _ rfl w.heap.size (.slice none 0 0) 0 [] rfl (World.ownsRow_nil _ _ _ _) u1 bs rfl hI.out.sl.src (by omega) hbase ?_;intro wv w3 hown3 hgr3 hloc3;obtain⟨ya,yc,hyw⟩:=jdB hown3;subst hyw;have hc3:=(hgr3.block cb lcw (by simp [Value.ownBlock])).trans hconn;have d1:=cellB hc3;have d2:=ja2 hc3)
    go_ret
    have hs3:=hgr3.size
    have hwv:∀ y,(Value.slice ya (0+bs.length) yc).ownBlock=some y→y=wq.heap.size:=fun y hy=>by
     rcases hloc3 with h | h
     ·rw [h] at hy;simp [Value.ownBlock] at hy
     ·rw [h] at hy;injection hy with hy;exact hy.symm
    rw [HRUN.out,HRD.out]
    have hk3:∀ z,z<wq.heap.size→w3.heap[z]?=wq.heap[z]?:=fun z hz=>hgr3.block z hz (by simp [Value.ownBlock])
    have hcF:¬F' cb:=fun h=>(hI.out.F1 _ h).elim hFc (fun h=>by omega)
    refine⟨u5,F',rfl,(hI.out.srv.less (by omega)).kept (by simp;omega) (fun z hz=>?_),hI.out.F1,?_,Or.inr ⟨by simp,(Value.slice ya (0+bs.length) yc),by simpa using ja4 hc3 1 (Value.slice ya (0+bs.length) yc),?_,fun y hy hF=>?_,?_⟩⟩
    ·have hzc:z≠cb:=fun e=>hcF (e▸hz)
     exact (ja0 hzc _ _).trans (hk3 z (hI.out.srv.lt z hz))
    ·refine Keep.set ?_ (Or.inl (Or.inr rfl)) _ _
     exact⟨hgr3.os.trans hI.out.keep.os,hgr3.tape.trans hI.out.keep.tape,hgr3.output.trans hI.out.keep.output,by omega,fun z hz hn=>(hk3 z (by omega)).trans (hI.out.keep.block z hz (fun h=>hn (Or.inl h)))⟩
    ·refine jaV (w:=w3) ?_ (fun y hy=>ja0 (by have:=hwv y hy;omega) _ _)
     simpa using hown3
    ·have:=hwv y hy
     have:=hI.out.srv.lt y hF
     omega
    ·refine jaV (w:=wq) hI.out.own (fun y hy=>?_)
     have h1:=hI.out.own.lt y hy
     exact (ja0 (by omega) _ _).trans (hk3 y h1.2)
   ·rw [h] at hrun ⊢
    have eV:errV 2=.iface 53 (.int .i64 2):=rfl
    rw [eV]
    have HRUN:=hide hrun
    have d1:=cellB hconn
    have d2:=ja2 hconn
    clear hrun I h h0 eV
    go_wp2_with fail
    refine (jdm 2 _).mono ?_
    rintro e wq ⟨rfl,rfl⟩
    go_wp2_with fail
    have hcF:¬F' cb:=fun h=>(hI.out.F1 _ h).elim hFc (fun h=>by omega)
    obtain⟨V,hV⟩:∃ V,V=(wq.setCell ⟨cb,2,none⟩ (.bool true)).setCell ⟨cb,1,none⟩ (.slice none 0 0):=⟨_,rfl⟩
    rw [←hV]
    have hcV:V.heap[cb]?=some (.cells #[.pointer (some ⟨sb,0,none⟩),.slice none 0 0,.bool true] 112):=by
     rw [hV];simpa using ja4 (ja4 hconn 2 (.bool true)) 1 (.slice none 0 0)
    have hVo:∀ z,z≠cb→V.heap[z]?=wq.heap[z]?:=fun z hz=>by rw [hV,ja0 hz,ja0 hz]
    have hVs:V.heap.size=wq.heap.size:=by rw [hV];simp
    have hVk:Keep (fun b=>b=cb) wq V:=by
     rw [hV]
     exact Keep.set (S:=fun b=>b=cb) (b:=cb) (Keep.set (S:=fun b=>b=cb) (b:=cb) (Keep.refl _ wq) (Or.inl rfl) _ _) (Or.inl rfl) _ _
    clear hV d1 d2
    refine (wrep 6 0 0 V (by omega) (by omega) (by omega) (by omega)).mono ?_
    rintro e w3 ⟨rfl,hown3,hb3⟩
    have hs3:=hb3.size
    have hown5:w3.ownsRow w.heap.size 5 1 u5 (encs rs).length ((encs rs).map (Value.int .u8)):=jaV hI.out.own (fun y hy=>by
      have h1:=hI.out.own.lt y hy
      exact (hb3.block y (by omega)).trans (hVo y (by omega)))
    have hsrc3:Src w3 (.slice (some ⟨V.heap.size+1,0,none⟩) 18 18) (jai 6 0 0):=Src.of_own hown3
    have hel:(jai 6 0 0).length=18:=rfl
    have hbw3:w.heap.size≤w3.heap.size:=by omega
    have HVS:=hide hVs
    have HOV:=hide hVo
    clear hVs hVo
    have hk5:(encs rs).length+18≤4194304:=by rw [jb6];omega
    go_wp2_with (at_builtin;(refine jau rfl _ _ rfl w.heap.size u5 (encs rs).length (encs rs) rfl hown5 (.slice (some ⟨V.heap.size+1,0,none⟩) 18 18) (jai 6 0 0) rfl hsrc3 (by rw [hel];exact hk5) hbw3 ?_;intro rv w4 hown4 hgr4 hloc4))
    go_ret
    rw [HRUN.out,HRD.out]
    have hVs:=HVS.out
    have hVo:=HOV.out
    have hs4:=hgr4.size
    have hk4:∀ z,z<wq.heap.size→(∀ y,u5.ownBlock=some y→y≠z)→z≠cb→w4.heap[z]?=wq.heap[z]?:=fun z hz hy hc=>(hgr4.block z (by omega) (fun e=>hy z e.symm rfl)).trans ((hb3.block z (by omega)).trans (hVo z hc))
    have hu5:∀ y,u5.ownBlock=some y→w.heap.size≤y:=fun y hy=>(hI.out.own.lt y hy).1
    refine⟨rv,F',rfl,(hI.out.srv.less (by omega)).kept (by omega) (fun z hz=>?_),hI.out.F1,?_,Or.inl ⟨rfl,?_,?_⟩⟩
    ·exact hk4 z (hI.out.srv.lt z hz) (fun y hy e=>(hI.out.F3 y hy).1 (e▸hz)) (fun e=>hcF (e▸hz))
    ·have k1:Keep (fun b=>F b∨b=cb) w V:=(hI.out.keep.mono (fun k h _=>Or.inl h)).then hVk (fun i _ h=>Or.inr h)
     have k2:=k1.trans (Keep.of_below hb3)
     exact⟨hgr4.os.trans k2.os,hgr4.tape.trans k2.tape,hgr4.output.trans k2.output,by omega,fun z hz hn=>(hgr4.block z (by omega) (fun e=>by have:=hu5 z e.symm;omega)).trans (k2.block z hz hn)⟩
    ·exact (hgr4.block cb (by omega) (fun e=>by have:=hu5 cb e.symm;omega)).trans ((hb3.block cb (by omega)).trans hcV)
    ·rw [jcd,List.length_append]
     exact hown4
theorem SrvK.own {db:Nat}{blk:Int}{D:Dx}{k:Nat}{w:World}{st:Int}{sb:Nat}{L:Ld}{F:Nat→Prop}(h:SrvK db blk D k w st sb L F):F sb:=by
 obtain⟨c,_,_,_,h⟩:=h
 exact h.own
theorem SrvK.mem {db:Nat}{blk:Int}{D:Dx}{k:Nat}{w:World}{st:Int}{sb:Nat}{L:Ld}{F:Nat→Prop}(h:SrvK db blk D k w st sb L F):∃ mv mq ms,w.heap[sb]?=some (.cells #[.int .i32 st,.int .u32 0,.int .u64 L.time,mv,mq,ms,.int .u64 L.adm] 130):=by
 obtain⟨c,_,h2,_,h⟩:=h
 obtain⟨mp,g,FD,h1,_⟩:=h.mem
 subst h2
 exact⟨_,_,_,h1⟩
theorem SrvK.lock {db:Nat}{blk:Int}{D:Dx}{k:Nat}{w:World}{st:Int}{sb:Nat}{L:Ld}{F:Nat→Prop}(h:SrvK db blk D k w st sb L F)(st':Int):SrvK db blk D k (w.setCell ⟨sb,0,none⟩ (.int .i32 st')) st' sb L F:=by
 obtain⟨c,k1,k2,k3,h⟩:=h
 obtain⟨mp,g,FD,h1,h2,h3,h4,h5,h6,h7,h8,h9,h10,h11,h12,h13⟩:=h.mem
 exact⟨c,k1,k2,k3,⟨⟨mp,g,FD,by simpa using ja4 h1 0 (.int .i32 st'),MapG.kept h2 (ja0 (fun e=>h13 e.symm) _ _),h3.kept (ja0 (fun e=>h12 e.symm) _ _),h4.kept (by simp) (fun b hb=>ja0 (fun (e:b=sb)=>h11 (e▸hb)) _ _),h5,h6,h7,h8,h9,h10,h11,h12,h13⟩,h.own,fun b hF=>by rw [World.size_setCell];exact h.lt b hF⟩⟩
theorem SrvK.pass {db:Nat}{blk:Int}{D:Dx}{k:Nat}{w:World}{st:Int}{sb:Nat}{L:Ld}{F:Nat→Prop}(h:SrvK db blk D k w st sb L F)(now:Int)(h0:0≤now)(h9:now≤18446744073709551615){w':World}{mv mq ms:Value}(e1:w.heap[sb]?=some (.cells #[.int .i32 st,.int .u32 0,.int .u64 L.time,mv,mq,ms,.int .u64 L.adm] 130))(e2:w'.heap[sb]?=some (.cells #[.int .i32 st,.int .u32 0,.int .u64 (passM L now).time,mv,mq,ms,.int .u64 L.adm] 130))(hk:Keep (fun b=>b=sb) w w'):SrvK db blk D k w' st sb (passM L now) F:=by
 obtain⟨c,k1,k2,k3,h⟩:=h
 obtain⟨mp,g,FD,h1,h2,h3,h4,h5,h6,h7,h8,h9',h10,h11,h12,h13⟩:=h.mem
 subst k2
 rw [h1] at e1
 simp at e1
 obtain⟨_,rfl,rfl,rfl,_⟩:=e1
 have htp:c.time≤(passM c.ld now).time:=by unfold passM;show c.time≤if c.ld.time<now then now else c.ld.time;have e:c.ld.time=c.time:=rfl;rw [e];split <;> omega
 refine⟨⟨(passM c.ld now).time,c.adm,c.blk,c.es,c.turn,c.fsD,c.fsN⟩,⟨?_,k1.adm,k1.blk,k1.turn,k1.nd,k1.key,k1.qt,k1.fit,k1.len,k1.dur.pass htp⟩,rfl,⟨k3.1,Dur.pass k3.2.1 htp,k3.2.2⟩,⟨⟨mp,g,FD,e2,MapG.kept h2 (hk.block mp (h.lt mp h6) (fun e=>h13 e.symm)),h3.kept (hk.block g (h.lt g h7) (fun e=>h12 e.symm)),h4.kept hk.size (fun b hb=>hk.block b (h.lt b (h5 b hb)) (fun e=>h11 (e▸hb))),h5,h6,h7,h8,h9',h10,h11,h12,h13⟩,h.own,fun b hF=>Nat.lt_of_lt_of_le (h.lt b hF) hk.size⟩⟩
 have:=k1.time
 show 0≤(passM c.ld now).time∧(passM c.ld now).time≤18446744073709551615
 unfold passM
 show 0≤(if c.ld.time<now then now else c.ld.time)∧(if c.ld.time<now then now else c.ld.time)≤18446744073709551615
 have e:c.ld.time=c.time:=rfl
 rw [e]
 split <;> omega
theorem ji6 (L:Ld)(now:Int)(h:L.ok)(h0:0≤now)(h1:now≤18446744073709551615):(passM L now).ok:=by
 refine⟨?_,h.adm,h.key,h.qt,h.nd,h.len⟩
 have:=h.time
 unfold passM
 dsimp only
 split <;> omega
structure ConnAt (w:World)(sb cb:Nat)(c:Cn)(F:Nat→Prop):Prop where
 mem:∃ cw,w.heap[cb]?=some (.cells #[.pointer (some ⟨sb,0,none⟩),cw,.bool c.bad] 112)∧Src w cw c.waits∧∀ g o n d,cw=.slice (some ⟨g,o,none⟩) n d→¬F g∧g≠cb∧g<w.heap.size
 nF:¬F cb
theorem jg0 (db:Nat)(blk:Int)(D:Dx)(k0:Nat)(sb cb:Nat)(F:Nat→Prop)(L:Ld)(cw vb:Value)(now:Int)(w:World)(hS:SrvK db blk D k0 w 0 sb L F)(hcb:w.heap[cb]?=some (.cells #[.pointer (some ⟨sb,0,none⟩),cw,.bool true] 112))(hF:¬F cb)(h0:0≤now)(h1:now≤18446744073709551615) :
  Calls Tryz.prog 31 #[.pointer (some ⟨cb,0,none⟩),.int .u64 now,vb] w fun e w'=>e=.returned (.slice none 0 0)∧SrvK db blk D k0 w' 0 sb (passM L now) F∧Keep F w w':=by
 have hne:cb≠sb:=fun e=>hF (e▸hS.own)
 have a1:=cellB hcb
 obtain⟨mv,mq,ms,m1⟩:=hS.mem
 obtain⟨W,hW⟩:∃ W,W=w.setCell ⟨sb,0,none⟩ (.int .i32 1):=⟨_,rfl⟩
 have hS1:SrvK db blk D k0 W 1 sb L F:=hW▸hS.lock 1
 have hs1:W.heap[sb]?=some (.cells #[.int .i32 1,.int .u32 0,.int .u64 L.time,mv,mq,ms,.int .u64 L.adm] 130):=by rw [hW];simpa using ja4 m1 0 (.int .i32 1)
 have hc1:W.heap[cb]?=some (.cells #[.pointer (some ⟨sb,0,none⟩),cw,.bool true] 112):=hW▸(ja0 hne _ _).trans hcb
 have hK1:Keep F w W:=hW▸(Keep.refl F w).set (Or.inl hS.own) _ _
 have a2:=cellB hc1
 go_enter_defers Tryz.func31,Tryz.ntmps31
 go_wp2_with (first | (go_at_call 45;refine (lockA ⟨sb,0,none⟩ _ (cellB m1 0) (ja2 m1 0)).mono ?_;rintro e w' ⟨rfl,rfl⟩;rw [←hW];clear hW) | (go_at_call 47;refine (bpass sb _ _ _ _ _ _ L.time now (passM L now).time rfl _ hs1).mono ?_;rintro e w2 ⟨rfl,hs2,hk2⟩;have hc2:=(hk2.block cb (ltB hc1) hne).trans hc1;have a3:=cellB hc2))
 refine leaves_cons (f:=46) (args:=#[.pointer (some ⟨sb,0,none⟩)]) (by simp) (by simp [go_sem]) ?_
 refine (jev ⟨sb,0,none⟩ .returning _ (cellB hs2 0) (ja2 hs2 0)).mono ?_
 rintro e u' w'' ⟨rfl,rfl,rfl⟩
 have hS2:SrvK db blk D k0 w2 1 sb (passM L now) F:=hS1.pass now h0 h1 hs1 hs2 hk2
 exact⟨_,results_tmp rfl _ _ _,rfl,hS2.lock 0,(hK1.then hk2 (fun i _ h=>h▸hS.own)).set (Or.inl hS.own) _ _⟩
def NewW (sb cb:Nat)(w w':World)(c c':Cn):Prop:=∀ g,g<w.heap.size→(c.waits≠[]→∀ cw,w.heap[cb]?=some (.cells #[.pointer (some ⟨sb,0,none⟩),cw,.bool c.bad] 112)→cw.ownBlock≠some g)→c'.waits≠[]→∀ cw',w'.heap[cb]?=some (.cells #[.pointer (some ⟨sb,0,none⟩),cw',.bool c'.bad] 112)→cw'.ownBlock≠some g
def feedD (D:Dx)(L:Ld)(c:Cn)(now:Int)(bs:List Int):Dx:=if c.bad=true then D else runDL D (passM L now) (c.waits ++ bs)
def jd7 (db:Nat)(blk:Int)(D:Dx)(k0:Nat)(sb cb:Nat)(F:Nat→Prop)(L:Ld)(c:Cn)(now:Int)(bs:List Int)(w:World)(rv:Value)(w':World):Prop:=
 ∃ F',SrvK db blk (feedD D L c now bs) k0 w' 0 sb (feedM L c now bs).1 F'∧ConnAt w' sb cb (feedM L c now bs).2.1 F'∧(∀ b,F' b→F b∨w.heap.size≤b)∧Keep (fun b=>F b∨b=cb) w w'∧w'.ownsRow w.heap.size 5 1 rv (encs (feedM L c now bs).2.2).length ((encs (feedM L c now bs).2.2).map (Value.int .u8))∧NewW sb cb w w' c (feedM L c now bs).2.1
theorem jlc (db:Nat)(blk:Int)(D:Dx)(k0:Nat)(sb cb:Nat)(F:Nat→Prop)(L:Ld)(c:Cn)(vb:Value)(now:Int)(bs:List Int)(w:World)(hS:SrvK db blk D (4 * (c.waits.length+bs.length)+k0) w 0 sb L F)(hL:L.ok)(h0:0≤now)(h1:now≤18446744073709551615)(hC:ConnAt w sb cb c F)(hs:Src w vb bs)(hby:Bytes bs)(hbw:Bytes c.waits)(hlen:c.waits.length+bs.length≤100000)
  (hvF:∀ g o n d,vb=.slice (some ⟨g,o,none⟩) n d→¬F g)
  (hdo:Hid (∀ kk w1 D L F1 q,SrvK db blk D (kk+4) w1 1 sb L F1→L.ok→q.ok→Calls Tryz.prog 74 #[.pointer (some ⟨sb,0,none⟩),.agg #[.int .u8 q.op,.int .u8 q.k0,.int .u8 q.k1,.int .u8 q.k2,.int .u8 q.k3,.int .u8 q.k4,.int .u8 q.k5,.int .u8 q.k6,.int .u8 q.k7,.int .u8 q.kd,.int .u64 q.x,.int .u64 q.y,.int .u64 q.n]] w1 fun e w'=>e=.returned (.agg #[.int .u8 (doM L q).2.c,.int .u64 (doM L q).2.a,.int .u64 (doM L q).2.b])∧OutK db blk (doD D L q) kk w1 1 sb (doM L q).1 F1 w')) :
  Calls Tryz.prog 31 #[.pointer (some ⟨cb,0,none⟩),.int .u64 now,vb] w fun e w'=>∃ rv,e=.returned rv∧jd7 db blk D k0 sb cb F L c now bs w rv w':=by
 obtain⟨cw,hcb,hsw,hcw⟩:=hC.mem
 have hF:=hC.nF
 cases hb:c.bad with
 | true=>
  rw [hb] at hcb
  refine (jg0 db blk D k0 sb cb F L cw vb now w (hS.less (by omega)) hcb hF h0 h1).mono ?_
  rintro e w' ⟨rfl,g1,g2⟩
  have em:feedM L c now bs=(passM L now,c,[]):=by unfold feedM;rw [if_pos hb]
  have ed:feedD D L c now bs=D:=by unfold feedD;rw [if_pos hb]
  refine⟨_,rfl,F,?_,⟨⟨cw,?_,?_,fun g o n d h=>⟨(hcw g o n d h).1,(hcw g o n d h).2.1,Nat.lt_of_lt_of_le (hcw g o n d h).2.2 g2.size⟩⟩,?_⟩,fun b h=>Or.inl h,g2.mono (fun k h _=>Or.inl h),?_,?_⟩
  ·rw [em,ed];exact g1
  ·rw [em];rw [hb];exact (g2.block cb (ltB hcb) hF).trans hcb
  ·rw [em];exact hsw.kept g2.size (fun g o n d h hg=>g2.block g hg (hcw g o n d h).1)
  ·exact hF
  ·rw [em];exact World.ownsRow_nil _ _ _ _
  ·rw [em]
   intro g _ h hne0 cw' hcw'
   rw [hb] at h hcw'
   exact h hne0 cw' (((g2.block cb (ltB hcb) hF).symm.trans hcw'))
 | false=>
  rw [hb] at hcb
  have hne:cb≠sb:=fun e=>hF (e▸hS.own)
  have hFl:=hS.lt
  have a1:=cellB hcb
  obtain⟨mv,mq,ms,m1⟩:=hS.mem
  obtain⟨W,hW⟩:∃ W,W=w.setCell ⟨sb,0,none⟩ (.int .i32 1):=⟨_,rfl⟩
  have hS1:SrvK db blk D (4 * (c.waits.length+bs.length)+k0) W 1 sb L F:=hW▸hS.lock 1
  have hs1:W.heap[sb]?=some (.cells #[.int .i32 1,.int .u32 0,.int .u64 L.time,mv,mq,ms,.int .u64 L.adm] 130):=by rw [hW];simpa using ja4 m1 0 (.int .i32 1)
  have hc1:W.heap[cb]?=some (.cells #[.pointer (some ⟨sb,0,none⟩),cw,.bool false] 112):=hW▸(ja0 hne _ _).trans hcb
  have hK1:Keep F w W:=hW▸(Keep.refl F w).set (Or.inl hS.own) _ _
  have a2:=cellB hc1
  obtain⟨x1,c1,e1⟩:=hsw.shape
  obtain⟨x2,c2,e2⟩:=hs.shape
  have HSW:=hide hsw
  have HSB:=hide hs
  have HCW:=hide hcw
  have HVF:=hide hvF
  clear hsw hs hcw hvF
  subst e1 e2
  go_enter_defers Tryz.func31,Tryz.ntmps31
  go_wp2_with (first | (go_at_call 45;refine (lockA ⟨sb,0,none⟩ _ (cellB m1 0) (ja2 m1 0)).mono ?_;rintro e w' ⟨rfl,rfl⟩;rw [←hW];clear hW) | (go_at_call 47;refine (bpass sb _ _ _ _ _ _ L.time now (passM L now).time rfl _ hs1).mono ?_;rintro e w2 ⟨rfl,hs2,hk2⟩;have hc2:=(hk2.block cb (ltB hc1) hne).trans hc1;have a3:=cellB hc2))
  have hS2:SrvK db blk D (4 * (c.waits.length+bs.length)+k0) w2 1 sb (passM L now) F:=hS1.pass now h0 h1 hs1 hs2 hk2
  have hK2:Keep F w w2:=hK1.then hk2 (fun i _ h=>h▸hS.own)
  have hsz2:=hK2.size
  obtain⟨V,hV⟩:∃ V,V=w2.alloc (.cells #[.slice x1 c.waits.length c1,.slice x2 bs.length c2] 76):=⟨_,rfl⟩
  have hA:V.heap[w2.heap.size]?=some (.cells #[.slice x1 c.waits.length c1,.slice x2 bs.length c2] 76):=hV▸ja1 _ _
  have hKV:Keep F w V:=hV▸hK2.alloc _
  have hSV:SrvK db blk D (4 * (c.waits.length+bs.length)+k0) V 1 sb (passM L now) F:=hV▸hS2.kept (by simp) (fun b hb=>ja3 _ _ (hS2.lt b hb))
  have hcV:V.heap[cb]?=some (.cells #[.pointer (some ⟨sb,0,none⟩),.slice x1 c.waits.length c1,.bool false] 112):=hV▸upB hc2 _
  have hwV:Src V (.slice x1 c.waits.length c1) c.waits:=HSW.out.kept hKV.size (fun g o n d h hg=>hKV.block g hg (HCW.out g o n d h).1)
  have hbV:Src V (.slice x2 bs.length c2) bs:=HSB.out.kept hKV.size (fun g o n d h hg=>hKV.block g hg (HVF.out g o n d h))
  have hszV:=hKV.size
  rw [←hV]
  clear hV
  refine (jkH w2.heap.size _ _ c.waits bs _ V hA hwV hbV (by omega) (by omega)).mono ?_
  rintro e w3 ⟨v3,rfl,hown3,hb3⟩
  have hS3:=hSV.below hb3 (Nat.le_refl _)
  have hc3:=(hb3.block cb (ltB hcV)).trans hcV
  have hsz3:=hb3.size
  clear a1 a2 a3
  go_wp2_with fail
  refine (jlI db blk D k0 1 sb cb F (passM L now) (c.waits ++ bs) v3 _ _ w3 (by rw [List.length_append];exact hS3) (ji6 L now hL h0 h1) hc3 hF (Sl.of_own hown3) (fun g o n d h=>by
      have h2:=hown3.lt g (by rw [h];rfl)
      exact⟨h2.2,fun hFg=>by have:=hFl g hFg;omega⟩) (hbw.app hby) (by rw [List.length_append];exact hlen) hdo).mono ?_
  rintro e w4 ⟨rv,F',rfl,hS4,hF4,hK4,hpost⟩
  go_wp2_with fail
  obtain⟨mv4,mq4,ms4,m4⟩:=hS4.mem
  refine leaves_cons (f:=46) (args:=#[.pointer (some ⟨sb,0,none⟩)]) (by simp) (by simp [go_sem]) ?_
  refine (jev ⟨sb,0,none⟩ .returning _ (cellB m4 0) (ja2 m4 0)).mono ?_
  rintro e u' w'' ⟨rfl,rfl,rfl⟩
  refine⟨_,results_tmp rfl _ _ _,_,rfl,?_⟩
  have hKK:Keep (fun b=>F b∨b=cb) w w4:=((hKV.trans (Keep.of_below hb3)).mono (fun k h _=>Or.inl h)).then hK4 (fun i hi h=>h)
  have hsb:=hFl sb hS.own
  have hcl:cb<w.heap.size:=ltB hcb
  have hsz4:=hK4.size
  have hF'c:¬F' cb:=fun h=>(hF4 cb h).elim hF (fun h=>by omega)
  have em:feedM L c now bs=if (runL (passM L now) (c.waits ++ bs)).2.2.2=2 then ((runL (passM L now) (c.waits ++ bs)).1,⟨[],true⟩,(runL (passM L now) (c.waits ++ bs)).2.1 ++ [⟨6,0,0⟩]) else ((runL (passM L now) (c.waits ++ bs)).1,⟨(runL (passM L now) (c.waits ++ bs)).2.2.1,false⟩,(runL (passM L now) (c.waits ++ bs)).2.1):=by
   unfold feedM
   rw [if_neg (by rw [hb];simp)]
   rfl
  have ed:feedD D L c now bs=runDL D (passM L now) (c.waits ++ bs):=by unfold feedD;rw [if_neg (by rw [hb];simp)]
  have hFF:∀ b,F' b→F b∨w.heap.size≤b:=fun b h=>(hF4 b h).imp id (fun h=>by omega)
  have hown_set:∀ v n xs,w4.ownsRow w3.heap.size 5 1 v n xs→(w4.setCell ⟨sb,0,none⟩ (.int .i32 0)).ownsRow w.heap.size 5 1 v n xs:=fun v n xs h=>jaU (b:=w3.heap.size) (by omega) (jaV h (fun g hg=>ja0 (by have:=(h.lt g hg).1;omega) _ _))
  rcases hpost with ⟨p1,p2,p3⟩ | ⟨p1,wv,p2,p3,p4,p5⟩
  ·rw [if_pos p1] at em
   refine⟨F',?_,⟨⟨.slice none 0 0,?_,Or.inl ⟨by rw [em],Or.inl rfl⟩,fun g o n d h=>by simp at h⟩,hF'c⟩,hFF,hKK.set (Or.inl (Or.inl hS.own)) _ _,?_,?_⟩
   ·rw [em,ed];exact hS4.lock 0
   ·rw [em];exact (ja0 hne _ _).trans p2
   ·rw [em];exact hown_set _ _ _ p3
   ·rw [em]
    intro g _ _ _ cw' hcw'
    rw [ja0 hne,p2] at hcw'
    injection hcw' with hcw'
    injection hcw' with hcw' _ _
    simp at hcw'
    subst hcw'
    simp [Value.ownBlock]
  ·rw [if_neg p1] at em
   refine⟨F',?_,⟨⟨wv,?_,?_,fun g o n d h=>?_⟩,hF'c⟩,hFF,hKK.set (Or.inl (Or.inl hS.own)) _ _,?_,?_⟩
   ·rw [em,ed];exact hS4.lock 0
   ·rw [em];exact (ja0 hne _ _).trans p2
   ·rw [em];exact Src.of_own (hown_set _ _ _ p3)
   ·have hg:wv.ownBlock=some g:=by rw [h];rfl
    refine⟨p4 g hg,fun e=>?_,?_⟩
    ·have:=(p3.lt g hg).1
     omega
    ·rw [World.size_setCell];exact (p3.lt g hg).2
   ·rw [em];exact hown_set _ _ _ p5
   ·rw [em]
    intro g hg _ _ cw' hcw' hown
    rw [ja0 hne,p2] at hcw'
    injection hcw' with hcw'
    injection hcw' with hcw' _ _
    simp at hcw'
    subst hcw'
    have:=(p3.lt g hown).1
    omega
end Go.Proofs.YtnlgndpcddngoaaGreatDoor
namespace Go.Proofs.YtnlgndpcddngoaaGreatDoor
theorem jlF (bs:List Int)(h:rdErr bs=0):(rdQ bs).op∈[1,2,3,4,5,6]:=by
 have key:bs.getD 1 0=1∨bs.getD 1 0=2∨bs.getD 1 0=3∨bs.getD 1 0=4∨bs.getD 1 0=5∨bs.getD 1 0=6:=by
  match bs,h with
  | [],h=>simp [rdErr] at h
  | [b0],h=>
   simp only [rdErr] at h
   split at h <;> omega
  | b0 :: b1 :: t,h=>
   simp only [rdErr] at h
   split at h
   ·omega
   ·rename_i h1
    split at h
    ·rename_i h2
     show b1=1∨b1=2∨b1=3∨b1=4∨b1=5∨b1=6
     unfold jaf at h2
     split at h2
     ·omega
     ·split at h2
      ·omega
      ·split at h2
       ·omega
       ·split at h2
        ·omega
        ·omega
    ·omega
 simp only [List.mem_cons,List.not_mem_nil,or_false]
 rcases key with k | k | k | k | k | k
 ·rw [rdQ_1 bs h k];simp
 ·rw [rdQ_2 bs h k];simp
 ·rw [rdQ_3 bs h (Or.inl k)];simp only [];omega
 ·rw [rdQ_3 bs h (Or.inr k)];simp only [];omega
 ·rw [rdQ_5 bs h (Or.inl k)];simp only [];omega
 ·rw [rdQ_5 bs h (Or.inr k)];simp only [];omega
theorem ji5:∀ (n:Nat) (bs:List Int),bs.length≤n→Bytes bs→∀ q∈(rqL bs).1,q.ok∧q.op∈[1,2,3,4,5,6]:=by
 intro n
 induction n with
 | zero=>
  intro bs h _
  have e:bs=[]:=List.length_eq_zero_iff.1 (by omega)
  subst e
  rw [jaG [] (by simp [rdErr])]
  simp
 | succ n ih=>
  intro bs h hb
  by_cases h0:rdErr bs=0
  ·obtain⟨r1,r2,_,_⟩:=jbf bs h0
   rw [jbI bs h0]
   intro q hq
   rcases List.mem_cons.1 hq with rfl | hq
   ·exact⟨jf4 bs hb,jlF bs h0⟩
   ·exact ih _ (by rw [List.length_drop];omega) (hb.drop _) q hq
  ·rw [jaG bs h0]
   simp
theorem jdI (z:Qt)(T n:Int):(admM z T n).2.c=2∨(admM z T n).2.c=3:=by
 show (admQ z T n).2.c=2∨(admQ z T n).2.c=3
 unfold admQ admS admW
 repeat' split
 all_goals simp
theorem doM_7 (L:Ld)(q:Rq):(doM L q).2.c≠7:=by
 unfold doM
 by_cases h2:q.op=2
 ·rw [if_neg (by omega),if_pos h2]
  cases fnd q.key L.ks with
  | none=>simp
  | some z=>
   have:=jdI z L.time q.n
   simp only []
   omega
 ·rw [if_neg h2]
  repeat' split
  all_goals simp
theorem jjY (L:Ld)(q:Rq):(doM L q).1.adm=if (doM L q).2.c=2 then (L.adm+q.n) % 18446744073709551616 else L.adm:=by
 unfold doM
 repeat' split
 all_goals first
  | rfl
  | simp_all
structure Sim (d:Int)(L:Ld)(B:Bk):Prop where
 time:L.time=B.time
 lines:Lines B.time d L.ks B.ls
 lok:L.ok
 bok:B.ok
theorem Sim.step {d:Int}{L:Ld}{B:Bk}(h:Sim d L B)(q:Rq)(hq:q.ok)(ho:q.op∈[1,2,3,4,5,6]):(doM L q).2=(askM B q).2∧Sim d (doM L q).1 (askM B q).1:=by
 obtain⟨h1,h2,h3⟩:=jki d L B q h.lok hq h.time h.lines ho
 have ht:(doM L q).1.time=L.time:=by
  unfold doM
  repeat' split
  all_goals rfl
 refine⟨h1,?_,?_,(jcB L q h.lok hq).1,jjV B q h.bok hq⟩
 ·rw [ht,h.time,h2]
 ·rw [h2];exact h3
theorem Sim.pass {d:Int}{L:Ld}{B:Bk}(h:Sim d L B)(now:Int)(h0:0≤now)(h1:now≤18446744073709551615):Sim d (passM L now) (tellM B now):=by
 have hL:=jdK L now h.lok h0 h1
 have ht:(passM L now).time=(tellM B now).time:=by unfold passM tellM;rw [h.time]
 refine⟨ht,?_,hL,?_⟩
 ·refine Lines.mono (T:=B.time) ?_ h.lok.qt h.lines
  unfold tellM
  simp only []
  split <;> omega
 ·refine⟨?_,h.bok.len,h.bok.ln⟩
  rw [←ht]
  exact hL.time
theorem Sim.raise {d d':Int}{L:Ld}{B:Bk}(h:Sim d L B)(hd:d≤d'):Sim d' L B:=⟨h.time,h.lines.raise hd h.lok.qt,h.lok,h.bok⟩
theorem jj0 (L:Ld)(c:Cn)(now:Int)(bs:List Int)(hb:c.bad=false) :
  feedM L c now bs=if (rqL (c.waits ++ bs)).2.2=2 then ((doL (passM L now) (rqL (c.waits ++ bs)).1).1,⟨[],true⟩,(doL (passM L now) (rqL (c.waits ++ bs)).1).2 ++ [⟨6,0,0⟩])
   else ((doL (passM L now) (rqL (c.waits ++ bs)).1).1,⟨(rqL (c.waits ++ bs)).2.1,false⟩,(doL (passM L now) (rqL (c.waits ++ bs)).1).2):=by
 have h:=jih _ (c.waits ++ bs) (passM L now) (Nat.le_refl _)
 unfold runL at h
 unfold feedM
 rw [if_neg (by simp [hb]),h]
theorem jhA (L:Ld)(c:Cn)(now:Int)(bs:List Int)(hb:c.bad=true):feedM L c now bs=(passM L now,c,[]):=by
 unfold feedM
 rw [if_pos hb]
end Go.Proofs.YtnlgndpcddngoaaGreatDoor
namespace Go.Proofs.YtnlgndpcddngoaaGreatDoor
open Go.RowKit
theorem jeK (c n:Int)(w:World)(hn:0<n)(hn1:n≤1000000000)(h0:-9223372036854775808≤c)(h1:c≤9223372036854775807) :
  Calls Tryz.prog 24 #[.int .i64 c,.int .i64 n] w fun e w'=>e=.returned (.int .i64 (pickM c n))∧w'=w:=by
 have hnz:¬n=0:=by omega
 by_cases h:c<0
 ·have e:pickM c n=-((c+1).tmod n):=by unfold pickM;rw [if_pos h,←Int.neg_tmod,Int.tmod_eq_emod_of_nonneg (by omega)]
  have k1:IntKind.i64.wrap (c+1)=c+1:=by rw [IntKind.wrap_i64];omega
  have k2:IntKind.i64.wrap (-(c+1))=-(c+1):=by rw [IntKind.wrap_i64];omega
  rw [e]
  clear e
  go_enter Tryz.func24,Tryz.ntmps24
  go_wp2
  go_ret
  exact⟨rfl,rfl⟩
 ·have e:pickM c n=c % n:=by unfold pickM;rw [if_neg h]
  rw [e]
  clear e
  go_enter Tryz.func24,Tryz.ntmps24
  go_wp2
  go_ret
  exact⟨rfl,rfl⟩
theorem jeB (q:Rq)(hq:q.ok)(w:World) :
  Calls Tryz.prog 53 #[.agg #[.int .u8 q.op,.int .u8 q.k0,.int .u8 q.k1,.int .u8 q.k2,.int .u8 q.k3,.int .u8 q.k4,.int .u8 q.k5,.int .u8 q.k6,.int .u8 q.k7,.int .u8 q.kd,.int .u64 q.x,.int .u64 q.y,.int .u64 q.n]] w
   fun e w'=>∃ a c,e=.returned (.slice a q.enc.length c)∧w'.ownsRow w.heap.size 5 1 (.slice a q.enc.length c) q.enc.length (q.enc.map (Value.int .u8))∧Below w.heap.size w w':=by
 refine (jfw q.op q.k0 q.k1 q.k2 q.k3 q.k4 q.k5 q.k6 q.k7 q.kd q.x q.y q.n w hq.x.1 hq.x.2 hq.y.1 hq.y.2 hq.n.1 hq.n.2).mono ?_
 rintro e w' ⟨v,rfl,ho,hb⟩
 obtain⟨a,c,rfl⟩:=jdB ho
 exact⟨a,c,rfl,ho,hb⟩
theorem jgC (ao:Option Addr)(n cap:Nat)(qs:List Rq)(raw:ByteArray)(w:World)(hn:qs.length=n)(hnc:n≤cap)(hn1:n≤1000)(hr:raw.size≤20000)(hok:∀ q∈qs,q.ok)
  (hc:0<n→∃ A o,ao=some ⟨A,o,none⟩∧A<w.heap.size∧∀ i (h:i<qs.length) j,j<13→w.cell? ⟨A,o+i * 13+j,none⟩=(#[.int .u8 qs[i].op,.int .u8 qs[i].k0,.int .u8 qs[i].k1,.int .u8 qs[i].k2,.int .u8 qs[i].k3,.int .u8 qs[i].k4,.int .u8 qs[i].k5,.int .u8 qs[i].k6,.int .u8 qs[i].k7,.int .u8 qs[i].kd,.int .u64 qs[i].x,.int .u64 qs[i].y,.int .u64 qs[i].n]:Array Value)[j]?) :
  Calls Tryz.prog 36 #[.slice ao n cap,.string raw] w fun e w'=>e=.returned (.string (strOfNums (encQs qs) ++ raw))∧Below w.heap.size w w':=by
 have HC:=hide hc
 have HN:=hide hn
 have HOK:=hide hok
 clear hc hn hok
 go_enter Tryz.func36,Tryz.ntmps36
 go_wp2
 go_loopw [5,6] (fun s5 s6 wr=>∃ i:Nat,i≤n∧s6=.int .i64 i∧wr.ownsRow w.heap.size 5 1 s5 (encQs (qs.take i)).length ((encQs (qs.take i)).map (Value.int .u8))∧Below w.heap.size w wr) (fun _ s6 _=>n - (intOf s6).toNat)
 case atStart=>exact⟨0,by omega,rfl,World.ownsRow_nil _ _ _ _,Below.refl _ _⟩
 case round=>
  obtain⟨i,hi,rfl,hown,hb⟩:=hrel
  have hle:(encQs (qs.take i)).length≤27000:=by have:=jcw (qs.take i);rw [List.length_take] at this;omega
  have HOWN:=hide hown
  have hwr:=hb.size
  clear hown
  by_cases hlt:i<n
  ·have hil:i<qs.length:=by rw [HN.out];exact hlt
   obtain⟨A,o,rfl,hA,hcc⟩:=HC.out (by omega)
   obtain⟨q,hq⟩:∃ q,q=qs[i]:=⟨_,rfl⟩
   have hqo:q.ok:=hq▸HOK.out _ (List.getElem_mem hil)
   have hcell:∀ j,j<13→wr.cell? ⟨A,o+i * 13+j,none⟩=(#[.int .u8 q.op,.int .u8 q.k0,.int .u8 q.k1,.int .u8 q.k2,.int .u8 q.k3,.int .u8 q.k4,.int .u8 q.k5,.int .u8 q.k6,.int .u8 q.k7,.int .u8 q.kd,.int .u64 q.x,.int .u64 q.y,.int .u64 q.n]:Array Value)[j]?:=fun j hj=>by
    rw [hb.cell (p:=⟨A,o+i * 13+j,none⟩) hA,hq]
    exact hcc i hil j hj
   have k0:=hcell 0 (by omega)
   have k1:=hcell 1 (by omega)
   have k2:=hcell 2 (by omega)
   have k3:=hcell 3 (by omega)
   have k4:=hcell 4 (by omega)
   have k5:=hcell 5 (by omega)
   have k6:=hcell 6 (by omega)
   have k7:=hcell 7 (by omega)
   have k8:=hcell 8 (by omega)
   have k9:=hcell 9 (by omega)
   have k10:=hcell 10 (by omega)
   have k11:=hcell 11 (by omega)
   have k12:=hcell 12 (by omega)
   rw [Nat.add_zero] at k0
   have HQ:=hide hq
   have hel:=jgo q
   clear hcell hcc hq
   go_wp2_with fail
   refine (jeB q hqo _).mono ?_
   rintro e w2 ⟨a2,c2,rfl,hown2,hb2⟩
   have HO2:=hide hown2
   have HOW:Hid (w2.ownsRow w.heap.size 5 1 u5 (encQs (qs.take i)).length ((encQs (qs.take i)).map (Value.int .u8))):=hide (jaV HOWN.out (fun g hg=>hb2.block g (ja5 HOWN.out hg).2))
   have hs2:=hb2.size
   have hB2:Below w.heap.size w w2:=hb.trans (hb2.mono hwr)
   have HB2:=hide hB2
   clear k0 k1 k2 k3 k4 k5 k6 k7 k8 k9 k10 k11 k12 hown2 hB2
   go_wp2_with (at_builtin;refine jau rfl _ _ rfl w.heap.size u5 _ (encQs (qs.take i)) rfl HOW.out (.slice a2 q.enc.length c2) q.enc rfl (Sl.of_own HO2.out).src (by omega) (by omega) ?_;intro v3 w3 hown3 hgr3 hloc3)
   go_roundw
   case rel=>
    have htk:qs.take (i+1)=qs.take i ++ [qs[i]]:=by rw [List.take_add_one,List.getElem?_eq_getElem hil];rfl
    have hen:encQs (qs.take (i+1))=encQs (qs.take i) ++ q.enc:=by rw [htk,←HQ.out];unfold encQs;rw [List.flatMap_append];simp only [List.flatMap_cons,List.flatMap_nil,List.append_nil]
    refine⟨i+1,by omega,by go_num,?_,?_⟩
    ·rw [hen,List.length_append];exact hown3
    ·exact⟨hgr3.os.trans HB2.out.os,hgr3.tape.trans HB2.out.tape,hgr3.output.trans HB2.out.output,Nat.le_trans HB2.out.size hgr3.size,fun k hk=>(hgr3.block k (by omega) (fun e=>by have:=ja5 HOW.out e.symm;omega)).trans (HB2.out.block k hk)⟩
   case measure=>simp [intOf];omega
  ·obtain rfl:i=n:=by omega
   have etk:qs.take i=qs:=List.take_of_length_le (by rw [HN.out];exact Nat.le_refl _)
   rw [etk] at HOWN hle
   have hcv:=jc9 HOWN.out rfl
   obtain⟨st,hst⟩:∃ st,st=strOfNums (encQs qs):=⟨_,rfl⟩
   have hsz:st.size≤27000:=by rw [hst,strOfNums_size];exact hle
   rw [←hst] at hcv
   have HST:=hide hst
   clear hst
   go_wp2
   go_ret
   refine⟨?_,hb⟩
   rw [HST.out]
   rfl
end Go.Proofs.YtnlgndpcddngoaaGreatDoor
namespace Go.Proofs.YtnlgndpcddngoaaGreatDoor
open Go.RowKit Go.Maps
def RnPost (w w':World)(g db k:Nat)(F:Nat→Prop)(Φ:Int→Fs→Fs→Prop):Prop:=
 ∃ (t:Int) (fsD fsN:Fs) (F':Nat→Prop),((0≤t∧t≤18446744073709551615)∧Φ t fsD fsN)∧StoAt w' g db t∧DskAt w' db k fsD fsN F'∧(∀ b,F' b→F b∨w.heap.size≤b)∧Keep (fun c=>c=g∨F c) w w'
theorem RnPost.from {w V w':World}{g db k:Nat}{F:Nat→Prop}{Φ:Int→Fs→Fs→Prop}(h:RnPost V w' g db k F Φ)(hV:Keep (fun _=>False) w V):RnPost w w' g db k F Φ:=by
 obtain⟨t,fsD,fsN,F',h0,h1,h2,h3,h4⟩:=h
 exact⟨t,fsD,fsN,F',h0,h1,h2,fun b hb=>(h3 b hb).imp id (fun h=>Nat.le_trans hV.size h),(hV.mono (fun _ h _=>h.elim)).trans h4⟩
theorem jhj (vs:Array Value)(w:World):Sem.run Tryz.prog (callFunc 142 vs) w=.ok (.enter 142 vs) w:=by simp [go_sem]
theorem bsnap (st:Int)(sb db k mp g:Nat)(c:Led)(F FD:Nat→Prop)(w:World)(hc:c.ok)(hlw:∀ b,F b→b<w.heap.size)(hown:F sb)
  (s1:w.heap[sb]?=some (.cells #[.int .i32 st,.int .u32 0,.int .u64 c.time,.int .u64 c.blk,.map (some mp),.pointer (some ⟨g,0,none⟩),.int .u64 c.adm] 130)) (s2:MapE w mp c.es)
  (s5:∀ b,FD b→F b) (s6:F mp) (s7:F g) (s8:¬FD g) (s9:¬FD mp) (s10:mp≠g) (s11:¬FD sb) (s12:sb≠g) (s13:sb≠mp)
  (h142:Hid (∀ V,Keep (fun _=>False) w V→Calls Tryz.prog 142 #[.pointer (some ⟨g,0,none⟩),.int .u64 c.time,.func (.func 143) #[.map (some mp)] #[]] V fun e w'=>e=.returned .nilIface∧RnPost V w' g db k FD (fun t fsD fsN=>Dur c.time c.time c.blk c.es t fsD∧(Sm c.fsD c.fsN→Sm fsD fsN)))) :
  Calls Tryz.prog 115 #[.pointer (some ⟨sb,2,none⟩)] w fun e w'=>e=.returned (.agg #[.int .u8 1,.int .u64 0,.int .u64 0])∧OutQ w st sb db k c F c.ld (some true) w':=by
 obtain⟨V,hV⟩:∃ V,V=w.alloc (.cells #[.int .u8 0,.int .u64 0,.int .u64 0] 40):=⟨_,rfl⟩
 have hKV:Keep (fun _=>False) w V:=hV▸(Keep.refl _ w).alloc _
 have hr1:V.heap[w.heap.size]?=some (.cells #[.int .u8 0,.int .u64 0,.int .u64 0] 40):=hV▸ja1 _ _
 have hsV:V.heap[sb]?=_:=(hKV.block sb (ltB s1) (fun h=>h)).trans s1
 have hmf:∀ (fn:Fn) (first cap:Array Value) (w:World),(Instr.makeFunc fn first cap).run Tryz.prog w=.ok (.func fn first cap) w:=fun _ _ _ _=>rfl
 have HK:=hide (h142.out V.drew (hKV.then (T:=fun _=>False) ⟨rfl,rfl,rfl,Nat.le_refl _,fun _ _ _=>rfl⟩ (fun _ _ h=>h)))
 have HKV:=hide hKV
 have a1:=cellB hsV
 have sV:V.heap.size=w.heap.size+1:=by rw [hV];simp
 have HSV:=hide sV
 clear hKV sV
 go_enter Tryz.func115,Tryz.ntmps115
 go_upto_region 1 with fail
 rw [←hV]
 clear hV
 go_cut [3] (fun s3 wx=>∃ (W:World),W=wx∧s3=.nilIface∧RnPost V W g db k FD (fun t fsD fsN=>Dur c.time c.time c.blk c.es t fsD∧(Sm c.fsD c.fsN→Sm fsD fsN)))
 case first=>
  go_region_law (refine jaj (by rfl) 142 jhj _ _ (by rfl) #[.pointer (some ⟨g,0,none⟩),.int .u64 c.time,.func (.func 143) #[.map (some mp)] #[]] (by simp only [List.map_toArray,List.map_cons,List.map_nil];rfl) HK.out ?_;rintro e w2 ⟨rfl,hX⟩;refine⟨_,rfl,?_⟩;have HX:=hide hX;clear hX)
  all_goals (go_wp2_with fail;go_meet)
  all_goals exact⟨w2,rfl,rfl,HX.out.from (w:=V) ⟨rfl,rfl,rfl,Nat.le_refl _,fun _ _ _=>rfl⟩⟩
 case rest=>
  obtain⟨w2,rfl,rfl,t,fsD,fsN,F',p0,p1,p2,p3,p4⟩:=hcut
  have sV:=HSV.out
  have lsb:=ltB s1
  have lg:=hlw g s7
  have lmp:=hlw mp s6
  have hq1:=(p4.block w.heap.size (by omega) (fun h=>h.elim (fun e=>by omega) (fun e=>by have:=hlw _ (s5 _ e);omega))).trans hr1
  have e1:=cellB hq1
  have e2:=ja2 hq1
  have HPP:=hide (And.intro p0 (And.intro p1 (And.intro p2 (And.intro p3 p4))))
  clear p0 p1 p2 p3 p4 a1 sV
  go_wp2
  obtain⟨p0,p1,p2,p3,p4⟩:=HPP.out
  have sV:=HSV.out
  have sz2:=p4.size
  have kw:Keep F w w2:=Keep.then (S:=F) (HKV.out.mono (fun _ h _=>h.elim)) p4 (fun i _ h=>h.elim (fun e=>e▸s7) (s5 i))
  have bk:∀ x,x<w.heap.size→x≠g→¬FD x→w2.heap[x]?=w.heap[x]?:=fun x hx h1 h2=>(p4.block x (by omega) (fun h=>h.elim h1 h2)).trans (HKV.out.block x hx (fun h=>h))
  have hF'n:∀ x,x<w.heap.size→F' x→FD x:=fun x hx h=>(p3 x h).elim id (fun h=>by omega)
  refine bodyPost_ret (v:=.agg #[.int .u8 1,.int .u64 0,.int .u64 0]) (by simp [results,Tryz.results115,go_sem,e1]) rfl ⟨rfl,?_⟩
  refine⟨⟨c.time,c.adm,c.blk,c.es,t,fsD,fsN⟩,⟨hc.time,hc.adm,hc.blk,p0.1,hc.nd,hc.key,hc.qt,hc.fit,hc.len,p0.2.1.less hc.time.1⟩,rfl,⟨rfl,fun D hD=>Dur.less p0.2.1 (hD.elim (fun h=>h.le hc) (fun h=>by rw [h.2];exact Int.le_refl _)),(fun h=>absurd h (by simp)),p0.2.2⟩,?_⟩
  refine jcM (F':=fun x=>x=sb∨x=mp∨x=g∨F' x) 1 0 0 ⟨⟨mp,g,F',(bk sb lsb s12 s11).trans s1,MapG.kept s2 (bk mp lmp s10 s9),p1,p2,fun x hx=>Or.inr (Or.inr (Or.inr hx)),Or.inr (Or.inl rfl),Or.inr (Or.inr (Or.inl rfl)),fun h=>s8 (hF'n g lg h),fun h=>s9 (hF'n mp lmp h),s10,fun h=>s11 (hF'n sb lsb h),s12,s13⟩,Or.inl rfl,fun x hx=>?_⟩ kw hlw (Nat.le_refl _) (fun x hx=>?_)
  ·rcases hx with h | h | h | h
   ·rw [h];omega
   ·rw [h];omega
   ·rw [h];omega
   ·exact p2.lt x h
  ·rcases hx with h | h | h | h
   ·exact Or.inl (h▸hown)
   ·exact Or.inl (h▸s6)
   ·exact Or.inl (h▸s7)
   ·rcases p3 x h with h | h
    ·exact Or.inl (s5 x h)
    ·exact Or.inr (by omega)
theorem RnPost.set {w V w':World}{g db k:Nat}{F:Nat→Prop}{Φ:Int→Fs→Fs→Prop}(h:RnPost V w' g db k F Φ){x:Nat}(hx:x<V.heap.size)(hF:¬F x)(hg:x≠g)(hV:Keep (fun _=>False) w V)(hw:w.heap.size≤x)(j:Nat)(v:Value):RnPost w (w'.setCell ⟨x,j,none⟩ v) g db k F Φ:=by
 obtain⟨t,fsD,fsN,F',h0,h2,h3,h4,h5⟩:=h
 refine⟨t,fsD,fsN,F',h0,h2.kept (ja0 (fun e=>hg e.symm) _ _),h3.kept (by rw [World.size_setCell];exact Nat.le_refl _) (fun b hb=>ja0 (fun e=>?_) _ _),fun b hb=>(h4 b hb).imp id (fun h=>Nat.le_trans hV.size h),((hV.mono (fun _ h _=>h.elim)).trans h5).set (Or.inr hw) _ _⟩
 subst e
 rcases h4 b hb with h | h
 ·exact hF h
 ·omega
theorem RnPost.err {w w':World}{g db k:Nat}{F:Nat→Prop}{Φ:Int→Fs→Fs→Prop}(h:RnPost w w' g db k F Φ)(hF:¬F g)(hg:g<w.heap.size):RnPost w (w'.setCell ⟨g,261,none⟩ .nilIface) g db k F Φ:=by
 obtain⟨t,fsD,fsN,F',h0,h2,h3,h4,h5⟩:=h
 refine⟨t,fsD,fsN,F',h0,h2.seterr,h3.kept (by rw [World.size_setCell];exact Nat.le_refl _) (fun b hb=>ja0 (fun e=>?_) _ _),h4,h5.set (Or.inl (Or.inl rfl)) _ _⟩
 subst e
 rcases h4 b hb with h | h
 ·exact hF h
 ·omega
def jbW (g db k:Nat):Prop:=∀ w t fsD fsN F,(0≤t∧t≤18446744073709551615)→StoAt w g db t→DskAt w db (k+2) fsD fsN F→¬F g→Calls Tryz.prog 162 #[.pointer (some ⟨g,0,none⟩)] w fun e w'=>e=.returned .nilIface∧RnPost w w' g db k F (fun t' fs' fn'=>t'=t∧((fs'=fsD∧fn'=fsN)∨(fs'=delG (IntKind.u64.wrap (t - 1) % 2==1) fsD∧fn'=delG (IntKind.u64.wrap (t - 1) % 2==1) fsN∧(fsD.map Prod.fst).Nodup∧(fsN.map Prod.fst).Nodup)))
def RnW (turn time:Int)(es:Es)(fsD fsN:Fs)(Φ:Int→Fs→Fs→Prop):Prop:=∀ (ks:List Ky) (a d:Nat) (fs' fn':Fs),ks.Perm (es.map Prod.fst)→((fs'=putG (nextT turn % 2==1) (a,strOfNums (imgB (nextT turn) time es ks)) fsD∧fn'=putG (nextT turn % 2==1) (d,strOfNums (imgB (nextT turn) time es ks)) fsN)∨(fs'=delG (IntKind.u64.wrap (nextT turn - 1) % 2==1) (putG (nextT turn % 2==1) (a,strOfNums (imgB (nextT turn) time es ks)) fsD)∧fn'=delG (IntKind.u64.wrap (nextT turn - 1) % 2==1) (putG (nextT turn % 2==1) (d,strOfNums (imgB (nextT turn) time es ks)) fsN)∧((putG (nextT turn % 2==1) (a,strOfNums (imgB (nextT turn) time es ks)) fsD).map Prod.fst).Nodup∧((putG (nextT turn % 2==1) (d,strOfNums (imgB (nextT turn) time es ks)) fsN).map Prod.fst).Nodup))→Φ (nextT turn) fs' fn'
theorem jen (A B C g db b k:Nat)(turn time:Int)(es:Es)(fsD fsN:Fs)(F:Nat→Prop)(w:World)(h:KpPre w g db b (k+2) turn time es fsD fsN F)(hsw:Hid (jbW g db k)){Φ:Int→Fs→Fs→Prop}(hΦ:Hid (RnW turn time es fsD fsN Φ))(nA:¬F A)(nG:A≠g)
  (hA:w.heap[A]?=some (.cells #[.pointer (some ⟨g,0,none⟩)] 122)) (hB:w.heap[B]?=some (.cells #[.int .u64 time] 23)) (hC:w.heap[C]?=some (.cells #[.func (.func 143) #[.map (some b)] #[]] 278)) :
  Calls Tryz.prog 160 #[.pointer (some ⟨A,0,none⟩),.pointer (some ⟨B,0,none⟩),.pointer (some ⟨C,0,none⟩)] w fun e w'=>e=.returned .nilIface∧RnPost w w' g db k F Φ:=by
 have H:=hide (jcU g db b (k+2) es turn time fsD fsN F w h.e h.nd h.ok h.fit h.sz h.t0 h.t1 h.m0 h.m1 h.s h.d h.gF h.bF h.bg)
 have a1:=cellB hA
 have a2:=cellB hB
 have a3:=cellB hC
 have hgl:=h.s.lt
 have HGF:=hide h.gF
 clear h
 go_enter Tryz.func160,Tryz.ntmps160
 go_wp2_with fail
 refine H.out.mono ?_
 rintro e w2 ⟨rfl,ks,x,y,F',q1,q2,q3,q4,q5⟩
 have hA2:=(q5.block A (ltB hA) (fun h=>h.elim nG nA)).trans hA
 have b1:=cellB hA2
 have nF':¬F' g:=fun h=>(q4 g h).elim HGF.out (fun h=>by omega)
 have HW:=hide (hsw.out w2 _ _ _ F' (jfa turn) q2 q3 nF')
 have HQ:=hide (And.intro q4 q5)
 have HQ1:=hide q1
 clear q1 q2 q3 q4 q5 a1 a2 a3 hA2
 go_wp2_with fail
 refine HW.out.mono ?_
 rintro e w3 ⟨rfl,hX⟩
 have HX:=hide hX
 clear hX
 go_wp2
 go_ret
 obtain⟨q4,q5⟩:=HQ.out
 obtain⟨t,fD,fN,F2,⟨r0,r01,r02⟩,r1,r2,r3,r4⟩:=HX.out
 refine⟨rfl,t,fD,fN,F2,⟨r0,by rw [r01];exact hΦ.out ks x y fD fN HQ1.out r02⟩,r1,r2,fun z hz=>?_,q5.then r4 (fun i hi h=>?_)⟩
 ·rcases r3 z hz with h | h
  ·exact q4 z h
  ·exact Or.inr (Nat.le_trans q5.size h)
 ·rcases h with h | h
  ·exact Or.inl h
  ·exact (q4 i h).elim Or.inr (fun h=>by omega)
theorem ji1 (vs:Array Value)(w:World):Sem.run Tryz.prog (callFunc 160 vs) w=.ok (.enter 160 vs) w:=by simp [go_sem]
theorem jkv (A B C g db b k:Nat)(turn time:Int)(es:Es)(fsD fsN:Fs)(F:Nat→Prop)(w:World)(h:KpPre w g db b (k+2) turn time es fsD fsN F)(hsw:Hid (jbW g db k)){Φ:Int→Fs→Fs→Prop}(hΦ:Hid (RnW turn time es fsD fsN Φ))(nA:¬F A)(nG:A≠g)
  (hA:w.heap[A]?=some (.cells #[.pointer (some ⟨g,0,none⟩)] 122)) (hB:w.heap[B]?=some (.cells #[.int .u64 time] 23)) (hC:w.heap[C]?=some (.cells #[.func (.func 143) #[.map (some b)] #[]] 278)) :
  Calls Tryz.prog 159 #[.pointer (some ⟨g,0,none⟩),.func (.func 160) #[] #[.pointer (some ⟨A,0,none⟩),.pointer (some ⟨B,0,none⟩),.pointer (some ⟨C,0,none⟩)]] w fun e w'=>e=.returned .nilIface∧RnPost w w' g db k F Φ:=by
 have hgl:=h.s.lt
 have hKV:Keep (fun _=>False) w (w.alloc (.cells #[.nilIface] 97)):=(Keep.refl _ w).alloc _
 have hFn:¬F w.heap.size:=fun hF=>by have:=h.d.lt _ hF;omega
 have HG:=hide (jca 160 #[.pointer (some ⟨A,0,none⟩),.pointer (some ⟨B,0,none⟩),.pointer (some ⟨C,0,none⟩)] ji1 w (fun w2=>RnPost (w.alloc (.cells #[.nilIface] 97)) w2 g db k F Φ) (by
   refine (jen A B C g db b k turn time es fsD fsN F _ (h.to hKV) hsw hΦ nA nG (upB hA _) (upB hB _) (upB hC _)).mono ?_
   rintro e w2 ⟨rfl,hP⟩
   refine⟨rfl,?_,hP⟩
   obtain⟨_,_,_,_,_,_,_,_,h5⟩:=hP
   exact (h5.block w.heap.size (by simp) (fun hh=>hh.elim (fun e=>by omega) hFn)).trans (ja1 _ _)))
 have a1:=h.s.err
 have HP:=hide h
 clear h
 go_enter Tryz.func159,Tryz.ntmps159
 go_wp2_with fail
 refine HG.out.mono ?_
 rintro e w1 ⟨rfl,w2,hP,hb,hw1⟩
 have hP1:RnPost w w1 g db k F Φ:=by
  rw [hw1]
  exact hP.set (by simp) hFn (by omega) hKV (Nat.le_refl _) _ _
 have hs1:w1.cell? ⟨g,261,none⟩=some .nilIface:=by
  obtain⟨_,_,_,_,_,h2,_⟩:=hP1
  exact h2.err
 have hf1:w1.frozen? ⟨g,261,none⟩=false:=by
  obtain⟨_,_,_,_,_,h2,_⟩:=hP1
  exact h2.fro 261 (by omega)
 have HP1:=hide hP1
 clear hP1 hP hb hw1 a1
 go_wp2
 go_ret
 exact⟨rfl,HP1.out.err HP.out.gF hgl⟩
theorem jiZ (g db b k:Nat)(turn time:Int)(es:Es)(fsD fsN:Fs)(F:Nat→Prop)(w:World)(h:KpPre w g db b (k+2) turn time es fsD fsN F)(hsw:Hid (jbW g db k)){Φ:Int→Fs→Fs→Prop}(hΦ:Hid (RnW turn time es fsD fsN Φ)) :
  Calls Tryz.prog 142 #[.pointer (some ⟨g,0,none⟩),.int .u64 time,.func (.func 143) #[.map (some b)] #[]] w fun e w'=>e=.returned .nilIface∧RnPost w w' g db k F Φ:=by
 have hmf:∀ (fn:Fn) (first cap:Array Value) (w:World),(Instr.makeFunc fn first cap).run Tryz.prog w=.ok (.func fn first cap) w:=fun _ _ _ _=>rfl
 obtain⟨V,hV⟩:∃ V,V=((w.alloc (.cells #[.pointer (some ⟨g,0,none⟩)] 122)).alloc (.cells #[.int .u64 time] 23)).alloc (.cells #[.func (.func 143) #[.map (some b)] #[]] 278):=⟨_,rfl⟩
 have hA:V.heap[w.heap.size]?=some (.cells #[.pointer (some ⟨g,0,none⟩)] 122):=hV▸upB (upB (ja1 _ _) _) _
 have hB:V.heap[w.heap.size+1]?=some (.cells #[.int .u64 time] 23):=hV▸upB (heapN (by simp)) _
 have hC:V.heap[w.heap.size+2]?=some (.cells #[.func (.func 143) #[.map (some b)] #[]] 278):=hV▸heapN (by simp)
 have hKV:Keep (fun _=>False) w V:=hV▸(((Keep.refl _ w).alloc _).alloc _).alloc _
 have hgl:=h.s.lt
 have HA:=hide (jkv w.heap.size (w.heap.size+1) (w.heap.size+2) g db b k turn time es fsD fsN F V (h.to hKV) hsw hΦ (fun hF=>by have:=h.d.lt _ hF;omega) (by omega) hA hB hC)
 have HKV:=hide hKV
 have a1:=cellB hA
 clear h hKV
 go_enter Tryz.func142,Tryz.ntmps142
 go_upto_region 1 with fail
 rw [←hV]
 clear hV
 go_wp2_with fail
 refine HA.out.mono ?_
 rintro e w2 ⟨rfl,hX⟩
 have HX:=hide (hX.from HKV.out)
 clear hX
 go_wp2
 go_ret
 exact⟨rfl,HX.out⟩
theorem jkR (st:Int)(sb db kk:Nat)(c:Led)(F:Nat→Prop)(w:World)(hL:LedAt w st sb db (kk+4) c F)(hc:c.ok)(hsw:∀ g,Hid (jbW g db kk)) :
  Calls Tryz.prog 115 #[.pointer (some ⟨sb,2,none⟩)] w fun e w'=>e=.returned (.agg #[.int .u8 1,.int .u64 0,.int .u64 0])∧OutQ w st sb db kk c F c.ld (some true) w':=by
 obtain⟨mp,g,FD,s1,s2,s3,s4,s5,s6,s7,s8,s9,s10,s11,s12,s13⟩:=hL.mem
 have hpre:KpPre w g db mp (kk+2) c.turn c.time c.es c.fsD c.fsN FD:=⟨s2,hc.nd,hc.key,hc.fit,hc.len,hc.turn.1,hc.turn.2,hc.time.1,hc.time.2,s3,s4,s8,s9,s10⟩
 obtain⟨mb,nb,l,f,_,m2,_⟩:=s4.mem
 have hW:RnW c.turn c.time c.es c.fsD c.fsN (fun t fsD fsN=>Dur c.time c.time c.blk c.es t fsD∧(Sm c.fsD c.fsN→Sm fsD fsN)):=fun ks a d fs' fn' hp hf=>by
  have hD:=hc.dur.keep hc.turn hc.time hc.nd hc.key hc.len hc.dur.res hc.dur.wnd hp a
  have hx:(IntKind.u64.wrap (nextT c.turn - 1) % 2==1)=!(nextT c.turn % 2==1):=by
   rw [jcr,Bool.not_not]
   have:IntKind.u64.wrap (nextT c.turn - 1)=c.turn:=by have:=hc.turn;unfold nextT;rw [IntKind.wrap_u64];omega
   rw [this]
  rcases hf with ⟨rfl,rfl⟩ | ⟨rfl,rfl,n1,n2⟩
  ·exact⟨hD,fun h=>h.put _ _ _ _⟩
  ·refine⟨?_,fun h=>(h.put _ _ _ _).del _ n1 n2⟩
   rw [hx]
   refine hD.swept (jb1 m2.nd) (Or.inl (fun e=>?_))
   have:=jaE (nextT c.turn % 2==1) (a,strOfNums (imgB (nextT c.turn) c.time c.es ks)) c.fsD
   rw [e] at this
   simp [fndG] at this
 exact bsnap st sb db kk mp g c F FD w hc hL.lt hL.own s1 s2 s5 s6 s7 s8 s9 s10 s11 s12 s13 (hide (fun V hV=>jiZ g db mp kk c.turn c.time c.es c.fsD c.fsN FD V (hpre.to hV) (hsw g) (hide hW)))
theorem srvDo (db:Nat)(blk st:Int)(sb:Nat)(hsw:∀ g kk,Hid (jbW g db kk)) :
  Hid (∀ kk w1 D L F1 q,SrvK db blk D (kk+4) w1 st sb L F1→L.ok→q.ok→Calls Tryz.prog 74 #[.pointer (some ⟨sb,0,none⟩),.agg #[.int .u8 q.op,.int .u8 q.k0,.int .u8 q.k1,.int .u8 q.k2,.int .u8 q.k3,.int .u8 q.k4,.int .u8 q.k5,.int .u8 q.k6,.int .u8 q.k7,.int .u8 q.kd,.int .u64 q.x,.int .u64 q.y,.int .u64 q.n]] w1 fun e w'=>e=.returned (.agg #[.int .u8 (doM L q).2.c,.int .u64 (doM L q).2.a,.int .u64 (doM L q).2.b])∧OutK db blk (doD D L q) kk w1 st sb (doM L q).1 F1 w'):=
 hide (fun kk w1 D L F1 q hS _ hq=>by
   obtain⟨c,hc,rfl,hb,hL⟩:=hS
   refine (do74 st sb db kk c F1 q w1 hL hc hq (hide (fun w2 h2=>jkR st sb db kk c F1 w2 h2 hc (fun g=>hsw g kk)))).mono ?_
   rintro e w' ⟨rfl,hO⟩
   exact⟨rfl,hO.k hb⟩)
theorem jjU (db:Nat)(blk:Int)(D:Dx)(k0:Nat)(sb cb:Nat)(F:Nat→Prop)(L:Ld)(c:Cn)(vb:Value)(now:Int)(bs:List Int)(w:World)(hS:SrvK db blk D (4 * (c.waits.length+bs.length)+k0) w 0 sb L F)(h0:0≤now)(h1:now≤18446744073709551615)(hC:ConnAt w sb cb c F)(hs:Src w vb bs)(hby:Bytes bs)(hbw:Bytes c.waits)(hlen:c.waits.length+bs.length≤100000)
  (hvF:∀ g o n d,vb=.slice (some ⟨g,o,none⟩) n d→¬F g) (hsw:∀ g kk,Hid (jbW g db kk)) :
  Calls Tryz.prog 31 #[.pointer (some ⟨cb,0,none⟩),.int .u64 now,vb] w fun e w'=>∃ rv,e=.returned rv∧jd7 db blk D k0 sb cb F L c now bs w rv w':=
 jlc db blk D k0 sb cb F L c vb now bs w hS hS.lok h0 h1 hC hs hby hbw hlen hvF (srvDo db blk 1 sb hsw)
theorem jdA (h:Value)(w:World):(Go.method 510 78 h "Remove").run Tryz.prog w=.ok (257,h) w:=by kernel_rfl
theorem jiU (g db k:Nat):jbW g db k:=by
 intro w t fsD fsN F ht hS hD hgF
 obtain⟨mb,nb,l,f,m1,m2,m3,m4,m5,m6,m7,m8⟩:=hD.mem
 obtain⟨T,hT⟩:∃ T,IntKind.u64.wrap (t - 1)=T:=⟨_,rfl⟩
 have hT0:0≤T∧T≤18446744073709551615:=by rw [←hT,IntKind.wrap_u64];omega
 obtain⟨x,hx⟩:∃ x,x=(T % 2==1):=⟨_,rfl⟩
 have HNA:=jaH T w hT0.1 hT0.2
 rw [←hx] at HNA
 have HNA:=hide HNA
 have HNM:=hide (jc7 db nb _ _ _ _ fsN w m1 m3)
 have hgl:=hS.lt
 have hdl:=hD.lt db hD.own
 have hgd:g≠db:=fun e=>hgF (e▸hD.own)
 have hgm:g≠mb:=fun e=>hgF (e▸m6)
 have hgn:g≠nb:=fun e=>hgF (e▸m7)
 have hmd:mb≠db:=m2.map.ne m1
 have hnd:nb≠db:=m3.map.ne m1
 have a1:=hS.turn
 have a2:=hS.dsk
 have hmn:=jbc (.pointer (some ⟨db,0,none⟩))
 have hmr:=jdA (.pointer (some ⟨db,0,none⟩))
 have hms:=jbo (.pointer (some ⟨db,0,none⟩))
 have HM1:=hide m1
 have HM2:=hide m2
 have HM3:=hide m3
 have HM4:=hide (And.intro m4 m5)
 have HD:=hide hD
 have HS:=hide hS
 have HHT:=hide ht
 have HX:=hide (hx.trans (by rw [←hT]))
 clear m1 m2 m3 m4 m5 hD hS ht hx hT0
 go_enter Tryz.func162,Tryz.ntmps162
 go_wp2_with fail
 refine HNA.out.mono ?_
 rintro e w' ⟨rfl,he⟩
 have he':=he.symm
 clear he
 subst he'
 go_wp2_with fail
 refine HNM.out.mono ?_
 rintro e w1 ⟨v,bs,rfl,hbs,hnl,hnm,hb1⟩
 have HC:=jbb v bs x w1 hnm hnl
 obtain⟨r,hr⟩:∃ r,r=bs.any (fun y=>x==y):=⟨_,rfl⟩
 rw [←hr] at HC
 have HC:=hide HC
 have HBS:=hide hbs
 have HR:=hide hr
 have hS1:StoAt w1 g db t:=HS.out.kept (hb1.block g hgl)
 have hD1:DskAt w1 db (k+2) fsD fsN F:=HD.out.kept hb1.size (fun b hb=>hb1.block b (HD.out.lt b hb))
 have HS1:=hide hS1
 have HD1:=hide hD1
 have HB1:=hide hb1
 have b1:=hS1.dsk
 clear hbs hr hS1 hD1 hb1 hnm a1 a2 HNA HNM
 cases r
 ·go_wp2_with (go_at_call 146;refine HC.out.mono ?_;rintro e w' ⟨rfl,he⟩;have he':=he.symm;clear he;subst he')
  go_ret
  exact⟨rfl,t,fsD,fsN,F,⟨HHT.out,rfl,Or.inl ⟨rfl,rfl⟩⟩,HS1.out,HD1.out.less (by omega),fun b hb=>Or.inl hb,Keep.of_below HB1.out⟩
 ·have hin:(fndG x fsN).isSome=true:=by
   refine (HBS.out x).1 ?_
   obtain⟨y,hy,hxy⟩:=List.any_eq_true.1 HR.out.symm
   have:x=y:=by simpa using hxy
   exact this▸hy
  have m1:=(HB1.out.block db hdl).trans HM1.out
  have m3:DirAt w1 nb fsN:=HM3.out.kept (HB1.out.block nb (HD.out.lt nb m7)) (fun p hp=>HB1.out.block _ (HD.out.lt _ (HD.out.sN p hp)))
  have m2:DirAt w1 mb fsD:=HM2.out.kept (HB1.out.block mb (HD.out.lt mb m6)) (fun p hp=>HB1.out.block _ (HD.out.lt _ (HD.out.sD p hp)))
  have h4:=HM4.out
  have HRM:=hide (jgV db nb (.map (some mb)) fsN x l f w1 m1 m3 h4.1.ne h4.2.ne hin)
  have HM21:=hide m2
  have HM31:=hide m3
  have HM11:=hide m1
  clear m1 m2 m3 h4
  go_wp2_with (first | (go_at_call 146;refine HC.out.mono ?_;rintro e w' ⟨rfl,he⟩;have he':=he.symm;clear he;subst he') | fail)
  refine HRM.out.mono ?_
  rintro e w2 ⟨rfl,pv,q1,q2,q3,q4⟩
  have hS2:StoAt w2 g db t:=HS1.out.kept (q4.block g HS1.out.lt (fun h=>h.elim hgd hgn))
  have hM2:DirAt w2 mb fsD:=HM21.out.keep q4 (fun h=>h.elim hmd m8) (fun p hp h=>by
    have h1:=HM21.out.str p hp
    rcases h with h | h
    · rw [h,HM11.out] at h1;simp at h1
    · rw [h] at h1;exact HM31.out.map.ne h1 rfl)
  have h4:=HM4.out
  have HSY:=hide (jiK db mb w1.heap.size (.map (some nb)) pv fsD x ⟨#[]⟩ (decM l) (decM f) w2 q1 hM2 h4.1.dec.ne h4.2.dec.ne q3)
  have c1:=hS2.dsk
  have HS2:=hide hS2
  have HQ:=hide (And.intro q1 (And.intro q2 q4))
  have HM22:=hide hM2
  clear q1 q2 q3 q4 hS2 hM2 h4 b1
  go_wp2_with fail
  refine HSY.out.mono ?_
  rintro e w3 ⟨rfl,gg,r1,r2,r3,r4⟩
  have HRR:=hide (And.intro r1 (And.intro r3 r4))
  clear r1 r2 r3 r4
  go_wp2
  go_ret
  obtain⟨r1,r3,r4⟩:=HRR.out
  obtain⟨q1,q2,q4⟩:=HQ.out
  have h4:=HM4.out
  have hN3:DirAt w3 nb (delG x fsN):=q2.keep r4 (fun h=>h.elim hnd (fun e=>m8 e.symm)) (fun p hp h=>by
    have h1:=q2.str p hp
    rcases h with h | h
    · rw [h,q1] at h1;simp at h1
    · rw [h] at h1;exact HM22.out.map.ne h1 rfl)
  have s1:=HB1.out.size
  have s2:=q4.size
  have s3:=r4.size
  refine⟨rfl,t,delG x fsD,delG x fsN,F,⟨HHT.out,rfl,Or.inr ⟨by rw [HX.out],by rw [HX.out],HM2.out.nd,HM3.out.nd⟩⟩,HS2.out.kept (r4.block g HS2.out.lt (fun h=>h.elim hgd hgm)),⟨⟨mb,nb,decM (decM l),decM (decM f),r1,r3,hN3,h4.1.dec.dec,h4.2.dec.dec,m6,m7,m8⟩,fun p hp=>HD.out.sD p (jaZ.subset hp),fun p hp=>HD.out.sN p (jaZ.subset hp),HD.out.own,fun b hb=>by have:=HD.out.lt b hb;omega⟩,fun b hb=>Or.inl hb,?_⟩
  refine ((Keep.of_below HB1.out).then q4 (fun i _ h=>?_)).then r4 (fun i _ h=>?_)
  ·rcases h with h | h
   ·exact Or.inr (h▸HD.out.own)
   ·exact Or.inr (h▸m7)
  ·rcases h with h | h
   ·exact Or.inr (h▸HD.out.own)
   ·exact Or.inr (h▸m6)
theorem jlo (g db k:Nat):Hid (jbW g db k):=hide (jiU g db k)
theorem jjq (db mb nb:Nat)(blk:Int)(w:World)(hblk:0≤blk∧blk≤18446744073709551615)(hd:w.heap[db]?=some (.cells #[.map (some mb),.map (some nb),.slice none 0 0,.int .i64 (-1),.int .i64 (-1),.bool false] 88))(hM:DirAt w mb [])(hN:DirAt w nb [])(hmn:mb≠nb) :
  Calls Tryz.prog 34 #[.iface 78 (.pointer (some ⟨db,0,none⟩)),.int .u64 blk] w fun e w'=>∃ sb F,e=.returned (.tuple #[.pointer (some ⟨sb,0,none⟩),.nilIface])∧w.heap.size≤sb∧SrvK db blk ⟨0,true⟩ 4000000 w' 0 sb ⟨0,0,[]⟩ F∧(∀ b,F b→b=db∨b=mb∨b=nb∨w.heap.size≤b)∧Below w.heap.size w w':=by
 have HO:=hide (jcG db nb _ _ _ _ blk w hd hN)
 have hdl:=ltB hd
 have hml:=hM.map.lt
 have hnl:=hN.map.lt
 have HD:=hide hd
 have HM:=hide hM
 have HN:=hide hN
 clear hd hM hN
 go_enter Tryz.func34,Tryz.ntmps34
 go_wp2_with fail
 refine HO.out.mono ?_
 rintro e w1 ⟨g,mp,rfl,q1,q2,q3,q4,q5,q6⟩
 have HQ:=hide (And.intro q1 (And.intro q2 (And.intro q3 (And.intro q4 (And.intro q5 q6)))))
 clear q1 q2 q3 q4 q5 q6
 go_wp2
 go_ret2
 obtain⟨q1,q2,q3,q4,q5,q6⟩:=HQ.out
 have s1:=q6.size
 have gl:=q5.lt
 have ml:=ltB q4
 obtain⟨W,hW⟩:∃ W,W=(w1.alloc (.cells #[.int .u64 0,.int .u64 blk,.map (some mp),.pointer (some ⟨g,0,none⟩)] 124)).alloc (.cells #[.int .i32 0,.int .u32 0,.int .u64 0,.int .u64 blk,.map (some mp),.pointer (some ⟨g,0,none⟩),.int .u64 0] 130):=⟨_,rfl⟩
 have up:∀ k,k<w1.heap.size→W.heap[k]?=w1.heap[k]?:=fun k hk=>by rw [hW,ja3 _ _ (by simp;omega),ja3 _ _ hk]
 have old:∀ k,k<w.heap.size→W.heap[k]?=w.heap[k]?:=fun k hk=>(up k (by omega)).trans (q6.block k hk)
 have hsb:W.heap[w1.heap.size+1]?=_:=hW▸heapN (by simp)
 have hsW:W.heap.size=w1.heap.size+2:=by rw [hW];simp
 have hBW:Below w.heap.size w W:=hW▸(q6.alloc s1 _).alloc (by simp;omega) _
 refine⟨w1.heap.size+1,fun b=>b=db∨b=mb∨b=nb∨b=w1.heap.size+1∨b=mp∨b=g,by simp,by omega,?_,fun b hb=>?_,by rw [←hW];exact hBW⟩
 ·rw [←hW]
  refine⟨⟨0,0,blk,[],0,[],[]⟩,⟨by simp,by simp,hblk,by simp,by simp,fun p hp=>(by cases hp),fun p hp=>(by cases hp),fun p hp=>(by cases hp),by simp,⟨fun p hp=>(by cases hp),Or.inl ⟨rfl,rfl,Int.le_refl _⟩,fun p hp=>(by simp [fndG] at hp)⟩⟩,rfl,⟨rfl,⟨fun p hp=>(by cases hp),Or.inl ⟨rfl,rfl,Int.le_refl _⟩,fun p hp=>(by simp [fndG] at hp)⟩,fun _ p hp=>(by cases hp),fun _=>rfl⟩,⟨⟨mp,g,fun b=>b=db∨b=mb∨b=nb,hsb,MapG.empty ((up mp ml).trans q4),q5.kept (up g gl),⟨⟨mb,nb,-1,-1,(old db hdl).trans HD.out,HM.out.kept (old mb hml) (fun p hp=>(by cases hp)),HN.out.kept (old nb hnl) (fun p hp=>(by cases hp)),Brn.neg (by omega) (by omega) (by omega),Brn.neg (by omega) (by omega) (by omega),Or.inr (Or.inl rfl),Or.inr (Or.inr rfl),hmn⟩,fun p hp=>(by cases hp),fun p hp=>(by cases hp),Or.inl rfl,fun b hb=>?_⟩,fun b hb=>?_,?_,?_,fun h=>?_,fun h=>?_,fun e=>q3 e.symm,fun h=>?_,by omega,by omega⟩,?_,fun b hb=>?_⟩⟩
  ·rcases hb with h | h | h <;> (rw [h];omega)
  ·rcases hb with h | h | h
   ·exact Or.inl h
   ·exact Or.inr (Or.inl h)
   ·exact Or.inr (Or.inr (Or.inl h))
  ·exact Or.inr (Or.inr (Or.inr (Or.inr (Or.inl rfl))))
  ·exact Or.inr (Or.inr (Or.inr (Or.inr (Or.inr rfl))))
  ·rcases h with h | h | h <;> omega
  ·rcases h with h | h | h <;> omega
  ·rcases h with h | h | h <;> omega
  ·exact Or.inr (Or.inr (Or.inr (Or.inl rfl)))
  ·rcases hb with h | h | h | h | h | h <;> (rw [h];omega)
 ·rcases hb with h | h | h | h | h | h
  ·exact Or.inl h
  ·exact Or.inr (Or.inl h)
  ·exact Or.inr (Or.inr (Or.inl h))
  ·exact Or.inr (Or.inr (Or.inr (by omega)))
  ·exact Or.inr (Or.inr (Or.inr (by omega)))
  ·exact Or.inr (Or.inr (Or.inr (by omega)))
theorem jgX (sb:Nat)(w:World):Calls Tryz.prog 29 #[.pointer (some ⟨sb,0,none⟩)] w fun e w'=>e=.returned (.pointer (some ⟨w.heap.size,0,none⟩))∧w'=w.alloc (.cells #[.pointer (some ⟨sb,0,none⟩),.slice none 0 0,.bool false] 112):=by
 go_enter Tryz.func29,Tryz.ntmps29
 go_wp2
 go_ret
 exact⟨rfl,rfl⟩
theorem SrvK.dskF {db:Nat}{blk:Int}{D:Dx}{k:Nat}{w:World}{st:Int}{sb:Nat}{L:Ld}{F:Nat→Prop}(h:SrvK db blk D k w st sb L F):F db:=by
 obtain⟨c,_,_,_,h⟩:=h
 obtain⟨mp,g,FD,_,_,_,h4,h5,_⟩:=h.mem
 exact h5 db h4.own
theorem SrvK.dsk {db:Nat}{blk:Int}{D:Dx}{k:Nat}{w:World}{st:Int}{sb:Nat}{L:Ld}{F:Nat→Prop}(h:SrvK db blk D k w st sb L F):∃ mb nb l f,w.heap[db]?=some (.cells #[.map (some mb),.map (some nb),.slice none 0 0,.int .i64 l,.int .i64 f,.bool false] 88):=by
 obtain⟨c,_,_,_,h⟩:=h
 obtain⟨mp,g,FD,_,_,_,h4,_⟩:=h.mem
 obtain⟨mb,nb,l,f,h1,_⟩:=h4.mem
 exact⟨mb,nb,l,f,h1⟩
theorem SrvK.refill {db:Nat}{blk:Int}{D:Dx}{k:Nat}{w w':World}{st:Int}{sb:Nat}{L:Ld}{F:Nat→Prop}(h:SrvK db blk D k w st sb L F){mb nb:Nat}{l f:Int}(hd:w.heap[db]?=some (.cells #[.map (some mb),.map (some nb),.slice none 0 0,.int .i64 l,.int .i64 f,.bool false] 88))
  (hd':w'.heap[db]?=some (.cells #[.map (some mb),.map (some nb),.slice none 0 0,.int .i64 (-1),.int .i64 (-1),.bool false] 88)) (hs:w.heap.size≤w'.heap.size) (hk:∀ b,F b→b≠db→w'.heap[b]?=w.heap[b]?):SrvK db blk D 4000000 w' st sb L F:=by
 obtain⟨c,k1,k2,k3,h⟩:=h
 obtain⟨mp,g,FD,h1,h2,h3,h4,h5,h6,h7,h8,h9,h10,h11,h12,h13⟩:=h.mem
 obtain⟨mb',nb',l',f',m1,m2,m3,m4,m5,m6,m7,m8⟩:=h4.mem
 rw [hd] at m1
 simp at m1
 obtain⟨rfl,rfl,_,_⟩:=m1
 have ne:∀ x,¬FD x→x≠db:=fun x hx e=>hx (e▸h4.own)
 have nm:mb≠db:=m2.map.ne hd
 have nn:nb≠db:=m3.map.ne hd
 have ns:∀ (p:Bool×(Nat×ByteArray)),w.heap[p.2.1]?=some (.cells #[.string p.2.2] 9)→p.2.1≠db:=fun p hp e=>by rw [e,hd] at hp;simp at hp
 exact⟨c,k1,k2,k3,⟨⟨mp,g,FD,(hk sb h.own (ne sb h11)).trans h1,MapG.kept h2 (hk mp h6 (ne mp h9)),h3.kept (hk g h7 (ne g h8)),⟨⟨mb,nb,-1,-1,hd',m2.kept (hk mb (h5 _ m6) nm) (fun p hp=>hk _ (h5 _ (h4.sD p hp)) (ns p (m2.str p hp))),m3.kept (hk nb (h5 _ m7) nn) (fun p hp=>hk _ (h5 _ (h4.sN p hp)) (ns p (m3.str p hp))),Brn.neg (by omega) (by omega) (by omega),Brn.neg (by omega) (by omega) (by omega),m6,m7,m8⟩,h4.sD,h4.sN,h4.own,fun b hF=>Nat.lt_of_lt_of_le (h4.lt b hF) hs⟩,h5,h6,h7,h8,h9,h10,h11,h12,h13⟩,h.own,fun b hF=>Nat.lt_of_lt_of_le (h.lt b hF) hs⟩⟩
end Go.Proofs.YtnlgndpcddngoaaGreatDoor
namespace Go.Proofs.YtnlgndpcddngoaaGreatDoor
open Go.RowKit
theorem jfv (hb db nb mb:Nat)(sv cv:Value)(blk l f:Int)(w:World)(hblk:0≤blk∧blk≤18446744073709551615)(hh:w.heap[hb]?=some (.cells #[.pointer (some ⟨db,0,none⟩),sv,cv,.int .u64 blk] 82))(hd:w.heap[db]?=some (.cells #[.map (some mb),.map (some nb),.slice none 0 0,.int .i64 l,.int .i64 f,.bool false] 88))(hm:w.heap[mb]?=some (.map #[] 0))(hn:w.heap[nb]?=some (.map #[] 0))(hmn:mb≠nb) :
  Calls Tryz.prog 20 #[.pointer (some ⟨hb,0,none⟩),.int .i64 (-1),.int .i64 (-1),.int .i64 0,.int .i64 0] w fun e w'=>∃ sb F,e=.returned (.int .i64 0)∧w.heap.size≤sb∧w'.heap[hb]?=some (.cells #[.pointer (some ⟨db,0,none⟩),.pointer (some ⟨sb,0,none⟩),.slice none 0 0,.int .u64 blk] 82)∧SrvK db blk ⟨0,true⟩ 0 w' 0 sb ⟨0,0,[]⟩ F∧(∀ b,F b→b=db∨b=mb∨b=nb∨w.heap.size≤b)∧¬F hb∧Keep (fun b=>b=hb∨b=db) w w':=by
 have lh:=ltB hh
 have ld:=ltB hd
 have hne:hb≠db:=by
  intro e;subst e
  rw [hh] at hd;simp at hd
 have hnd:nb≠db:=by
  intro e;subst e
  rw [hd] at hn;simp at hn
 have hmd:mb≠db:=by
  intro e;subst e
  rw [hd] at hm;simp at hm
 have hmh:mb≠hb:=by
  intro e;subst e
  rw [hh] at hm;simp at hm
 have hnh:nb≠hb:=by
  intro e;subst e
  rw [hh] at hn;simp at hn
 obtain⟨V,hV⟩:∃ V,V=((w.setCell ⟨db,3,none⟩ (.int .i64 (-1))).setCell ⟨db,4,none⟩ (.int .i64 (-1))).drew:=⟨_,rfl⟩
 have hhV:V.heap[hb]?=some (.cells #[.pointer (some ⟨db,0,none⟩),sv,cv,.int .u64 blk] 82):=by rw [hV,jac,ja0 hne,ja0 hne];exact hh
 have hdV:V.heap[db]?=some (.cells #[.map (some mb),.map (some nb),.slice none 0 0,.int .i64 (-1),.int .i64 (-1),.bool false] 88):=by rw [hV,jac];simpa using ja4 (ja4 hd 3 (.int .i64 (-1))) 4 (.int .i64 (-1))
 have hmV:V.heap[mb]?=some (.map #[] 0):=by rw [hV,jac,ja0 hmd,ja0 hmd];exact hm
 have hnV:V.heap[nb]?=some (.map #[] 0):=by rw [hV,jac,ja0 hnd,ja0 hnd];exact hn
 have hKV:Keep (fun b=>b=hb∨b=db) w V:=hV▸(Keep.set (S:=fun b=>b=hb∨b=db) (b:=db) (Keep.set (S:=fun b=>b=hb∨b=db) (b:=db) (Keep.refl _ w) (Or.inl (Or.inr rfl)) _ _) (Or.inl (Or.inr rfl)) _ _).drew
 have a0:=cellB hh 0
 have a1:=cellB hd
 have a2:=ja2 hd
 have n1:¬hb=db:=hne
 have n2:¬db=hb:=fun e=>hne e.symm
 go_enter Tryz.func20,Tryz.ntmps20
 go_upto_region 1 with fail
 go_cut [] (fun wx=>wx=V)
 case first=>
  go_region_held3 (fun w'=>w'.cell? ⟨hb,0,none⟩=some (.pointer (some ⟨db,0,none⟩))) (go_keep) (fail)
  all_goals (go_wp2_with fail;go_meet)
  all_goals exact hV.symm
 case rest=>
  subst hcut
  clear hV a0 a1 a2
  have hdD:=(jac _ db).trans hdV
  have hmD:=(jac _ mb).trans hmV
  have hnD:=(jac _ nb).trans hnV
  have b0:=cellB hhV 0
  have b3:=cellB hhV 3
  go_upto_region 2 with fail
  go_region_held3 (fun w'=>w'.cell? ⟨hb,0,none⟩=some (.pointer (some ⟨db,0,none⟩))∧w'.cell? ⟨hb,3,none⟩=some (.int .u64 blk)) (first | go_keep | (exact⟨cellB hh2 0,cellB hh2 3⟩))
   (first | (go_at_call 34;refine (jjq db mb nb blk _ hblk hdD (DirAt.empty hmD) (DirAt.empty hnD) hmn).mono ?_;rintro e w2 ⟨sb,F,rfl,hsb,hS2,hF2,hb2⟩;have hh2:=(hb2.block hb (ltB hhV)).trans hhV))
  have hsz2:=hb2.size
  have hszV:=hKV.size
  have hd2:=(hb2.block db (ltB hdV)).trans hdV
  go_wp2_with fail
  refine (jdf _).mono ?_
  rintro e w3 ⟨rfl,hb3⟩
  have hh3:=(hb3.block hb (ltB hh2)).trans hh2
  have hd3:=(hb3.block db (ltB hd2)).trans hd2
  have hS3:=hS2.below hb3 (Nat.le_refl _)
  have c1:=cellB hh3
  have c2:=ja2 hh3
  clear b0 b3
  go_wp2_with fail
  obtain⟨U,hU⟩:∃ U,U=(w3.setCell ⟨hb,1,none⟩ (.pointer (some ⟨sb,0,none⟩))).setCell ⟨hb,2,none⟩ (.slice none 0 0):=⟨_,rfl⟩
  rw [←hU]
  have hhU:U.heap[hb]?=some (.cells #[.pointer (some ⟨db,0,none⟩),.pointer (some ⟨sb,0,none⟩),.slice none 0 0,.int .u64 blk] 82):=by rw [hU];simpa using ja4 (ja4 hh3 1 (.pointer (some ⟨sb,0,none⟩))) 2 (.slice none 0 0)
  have hdU:U.heap[db]?=some (.cells #[.map (some mb),.map (some nb),.slice none 0 0,.int .i64 (-1),.int .i64 (-1),.bool false] 88):=by rw [hU,ja0 n2,ja0 n2];exact hd3
  have hFw:∀ b,F b→b=db∨b=mb∨b=nb∨w.heap.size≤b:=fun b h=>(hF2 b h).imp id (fun h=>h.imp id (fun h=>h.imp id (fun h=>Nat.le_trans hszV h)))
  have hFh:∀ b,F b→b≠hb:=fun b h e=>by
   rcases hFw b h with h | h | h | h
   ·exact n1 (e.symm.trans h)
   ·exact hmh (h.symm.trans e)
   ·exact hnh (h.symm.trans e)
   ·omega
  have hSU:SrvK db blk ⟨0,true⟩ 4000000 U 0 sb ⟨0,0,[]⟩ F:=hS3.kept (by rw [hU];simp) (fun b hb'=>by rw [hU,ja0 (hFh b hb'),ja0 (hFh b hb')])
  have hKU:Keep (fun b=>b=hb∨b=db) w U:=by
   have k1:=(hKV.drew.trans (Keep.of_below hb2)).trans (Keep.of_below hb3)
   rw [hU]
   exact Keep.set (S:=fun b=>b=hb∨b=db) (b:=hb) (Keep.set (S:=fun b=>b=hb∨b=db) (b:=hb) k1 (Or.inl (Or.inl rfl)) _ _) (Or.inl (Or.inl rfl)) _ _
  clear hU c1 c2
  refine (jct hb db (some mb) (some nb) _ _ _ _ (-1) (-1) 0 0 U hhU hdU).mono ?_
  rintro e w4 ⟨rfl,g1,g2⟩
  go_wp2
  go_ret
  refine⟨sb,F,rfl,Nat.le_trans hszV hsb,(g2.block hb (ltB hhU) hne).trans hhU,(hSU.refill hdU g1 g2.size (fun b hF hne'=>g2.block b (hSU.lt b hF) hne')).less (by omega),hFw,fun h=>hFh hb h rfl,hKU.then g2 (fun i _ h=>Or.inr h)⟩
def HG (hb db:Nat)(F:Nat→Prop)(cv:Value)(m:Nat)(cb:Nat→Nat)(b:Nat):Prop:=b=hb∨b=db∨F b∨cv.ownBlock=some b∨∃ i,i<m∧b=cb i
structure HostAt (w:World)(hb db _nb sb:Nat)(_mb:Option Nat)(blk:Int)(D:Dx)(L:Ld)(F:Nat→Prop)(B:Nat)(cv:Value)(m:Nat)(cb:Nat→Nat)(c:Nat→Cn):Prop where
 hh:w.heap[hb]?=some (.cells #[.pointer (some ⟨db,0,none⟩),.pointer (some ⟨sb,0,none⟩),cv,.int .u64 blk] 82)
 hd:F db
 hs:SrvK db blk D 0 w 0 sb L F
 hc:∀ i,i<m→ConnAt w sb (cb i) (c i) F
 hi:∀ i j,i<m→j<m→cb i=cb j→i=j
 ho:w.ownsRow B 83 1 cv m (ptrs cb m)
 hF:∀ g,(g=hb∨False∨cv.ownBlock=some g)→¬F g
 lo:∀ b,HG hb db F cv m cb b→B≤b
 fr:∀ i,m≤i→c i=⟨[],false⟩
theorem Tryz.info76:(Tryz.prog.info? 83).map (fun i=>(i.zero,i.size,i.bytes))=some (some (.pointer none),1,8):=by kernel_rfl
theorem jfk (sb:Nat)(w:World):Calls Tryz.prog 29 #[.pointer (some ⟨sb,0,none⟩)] w fun e w'=>e=.returned (.pointer (some ⟨w.heap.size,0,none⟩))∧w'.heap[w.heap.size]?=some (.cells #[.pointer (some ⟨sb,0,none⟩),.slice none 0 0,.bool false] 112)∧w'.heap.size=w.heap.size+1∧Below w.heap.size w w':=by
 refine (jgX sb w).mono ?_
 rintro e w' ⟨rfl,rfl⟩
 exact⟨rfl,ja1 _ _,by simp,(Below.refl _ w).alloc (Nat.le_refl _) _⟩
theorem jdT {ops:Array Oper}{o:Oper}{a:Act}{w:World}{K:Act→World→Prop}{Q:Exit→Act→World→Prop}{E:Prop}(hg:o.guard=none)(x:Operand)
  (hop:o.op=.call { callee:=.value (.func 29),args:=#[x],argTypes:=#[79] }) (sb:Nat) (hx:a.eval x=.pointer (some ⟨sb,0,none⟩))
  (hK:∀ w',w'.heap[w.heap.size]?=some (.cells #[.pointer (some ⟨sb,0,none⟩),.slice none 0 0,.bool false] 112)→w'.heap.size=w.heap.size+1→Below w.heap.size w w'→K (a.put o.dst (.pointer (some ⟨w.heap.size,0,none⟩))) w') :
  if Region.wanted o (yielded ops a.tmps)=true then Oper.wp Tryz.prog o a w K Q else E:=by
 have hw:Region.wanted o (yielded ops a.tmps)=true:=by simp [Region.wanted,hg]
 rw [if_pos hw]
 have hr:(execOp a.eval o).run Tryz.prog w=.ok (.enter 29 #[.pointer (some ⟨sb,0,none⟩)]) w:=by
  simp [execOp,hop,resolve,invoke,go_sem]
  rw [←hx]
  cases x <;> simp [Act.eval]
 unfold Oper.wp
 rw [hr,Oper.upon_enter]
 refine (jfk sb w).mono ?_
 rintro e w' ⟨rfl,h1,h2,h3⟩
 exact hK w' h1 h2 h3
theorem HostAt.more {wr w2 w4:World}{hb db nb sb:Nat}{mb:Option Nat}{blk:Int}{D:Dx}{L:Ld}{F:Nat→Prop}{B:Nat}{cv v5:Value}{m:Nat}{cb:Nat→Nat}{c:Nat→Cn}{N:Nat}{ob:Obj}(H:HostAt wr hb db nb sb mb blk D L F B cv m cb c)(hq:∀ i,c i=⟨[],false⟩)(hN:N=wr.heap.size)(hBN:B≤N)
  (h2:w2.heap[N]?=some (.cells #[.pointer (some ⟨sb,0,none⟩),.slice none 0 0,.bool false] 112)) (hs2:w2.heap.size=N+1) (hb2:Below N wr w2)
  (ho4:w4.ownsRow B 83 1 v5 (m+1) (ptrs cb m ++ [.pointer (some ⟨N,0,none⟩)])) (hg4:(w2.alloc ob).grownBy w4 cv.ownBlock) (hl4:v5.ownBlock=cv.ownBlock∨v5.ownBlock=some (w2.alloc ob).heap.size) :
  HostAt (w4.setCell ⟨hb,2,none⟩ v5) hb db nb sb mb blk D L F B v5 (m+1) (fun i=>if i=m then N else cb i) c∧Keep (HG hb db F cv m cb) wr (w4.setCell ⟨hb,2,none⟩ v5)∧∀ b,HG hb db F v5 (m+1) (fun i=>if i=m then N else cb i) b→HG hb db F cv m cb b∨N≤b:=by
 have lh:hb<N:=hN▸ltB H.hh
 have ld:db<N:=hN▸H.hs.lt db H.hd
 have nhd:db≠hb:=fun e=>H.hF hb (Or.inl rfl) (e▸H.hd)
 have nh:cv.ownBlock≠some hb:=fun e=>jab H.ho e H.hh (by decide) rfl
 have nd:cv.ownBlock≠some db:=fun e=>H.hF db (Or.inr (Or.inr e)) H.hd
 have nN:cv.ownBlock≠some N:=fun e=>by have:=(ja5 H.ho e).2;omega
 have hA:(w2.alloc ob).heap.size=N+2:=by rw [World.size_alloc,hs2]
 have X4:∀ k,k<N→cv.ownBlock≠some k→w4.heap[k]?=wr.heap[k]?:=fun k hk hne=>
  ((hg4.block k (by omega) (fun e=>hne e.symm)).trans (ja3 w2 ob (by omega))).trans (hb2.block k hk)
 have X:∀ k,k<N→k≠hb→cv.ownBlock≠some k→(w4.setCell ⟨hb,2,none⟩ v5).heap[k]?=wr.heap[k]?:=fun k hk h1 hne=>(ja0 h1 _ _).trans (X4 k hk hne)
 have hh4:=(X4 hb lh nh).trans H.hh
 have hsz4:N+2≤w4.heap.size:=hA▸hg4.size
 have hcn:∀ i,i<m→cb i<N∧cb i≠hb∧cv.ownBlock≠some (cb i):=fun i hi=>by
  obtain⟨cw,g1,_⟩:=(H.hc i hi).mem
  refine⟨hN▸ltB g1,fun e=>?_,fun e=>jab H.ho e g1 (by decide) rfl⟩
  rw [e,H.hh] at g1
  simp at g1
 have hFN:∀ b,F b→b<N:=fun b h=>hN▸H.hs.lt b h
 have hsz:wr.heap.size≤(w4.setCell ⟨hb,2,none⟩ v5).heap.size:=by rw [World.size_setCell];omega
 refine⟨⟨by simpa using ja4 hh4 2 v5,H.hd,H.hs.kept hsz (fun b hF=>X b (hFN b hF) (fun e=>H.hF hb (Or.inl rfl) (e▸hF)) (fun e=>H.hF b (Or.inr (Or.inr e)) hF)),fun i hi=>?_,fun i j hi hj e=>?_,?_,fun g hg hFg=>?_,fun b hb'=>?_,fun i hi=>H.fr i (by omega)⟩,⟨hg4.os.trans hb2.os,hg4.tape.trans hb2.tape,hg4.output.trans hb2.output,hsz,fun k hk hG=>X k (by omega) (fun e=>hG (Or.inl e)) (fun e=>hG (Or.inr (Or.inr (Or.inr (Or.inl e)))))⟩,fun b hb'=>?_⟩
 ·by_cases him:i=m
  ·subst him
   rw [if_pos rfl]
   refine⟨⟨.slice none 0 0,?_,Or.inl ⟨by rw [hq i],Or.inl rfl⟩,fun g o n d h=>by simp at h⟩,fun h=>by have:=hFN _ h;omega⟩
   rw [ja0 (by omega),hg4.block N (by omega) (fun e=>nN e.symm),ja3 w2 ob (by omega),h2,hq i]
  ·rw [if_neg him]
   obtain⟨c1,c2,c3⟩:=hcn i (by omega)
   obtain⟨⟨cw,g1,g2,g3⟩,g4⟩:=H.hc i (by omega)
   refine⟨⟨cw,(X _ c1 c2 c3).trans g1,?_,fun g o n d h=>⟨(g3 g o n d h).1,(g3 g o n d h).2.1,Nat.lt_of_lt_of_le (g3 g o n d h).2.2 hsz⟩⟩,g4⟩
   rw [hq i] at g2 ⊢
   rcases g2 with g2 | ⟨g2,_⟩
   ·exact Or.inl g2
   ·simp at g2
 ·by_cases h1:i=m
  ·by_cases h2:j=m
   ·omega
   ·rw [if_pos h1,if_neg h2] at e
    have:=(hcn j (by omega)).1
    omega
  ·by_cases h2:j=m
   ·rw [if_neg h1,if_pos h2] at e
    have:=(hcn i (by omega)).1
    omega
   ·rw [if_neg h1,if_neg h2] at e
    exact H.hi i j (by omega) (by omega) e
 ·have e:ptrs (fun i=>if i=m then N else cb i) (m+1)=ptrs cb m ++ [.pointer (some ⟨N,0,none⟩)]:=by
   unfold ptrs
   rw [List.range_succ,List.map_append]
   congr 1
   ·apply List.map_congr_left
    intro i hi
    have:=List.mem_range.1 hi
    show Value.pointer (some ⟨if i=m then N else cb i,0,none⟩)=_
    rw [if_neg (by omega)]
   ·simp
  rw [e]
  exact ja7 ho4 (fun g hg=>ja0 (jab ho4 hg hh4 (by decide)) _ _)
 ·rcases hg with h | h | h
  ·exact H.hF g (Or.inl h) hFg
  ·exact H.hF g (Or.inr (Or.inl h)) hFg
  ·rcases hl4 with h4 | h4
   ·exact H.hF g (Or.inr (Or.inr (h4▸h))) hFg
   ·rw [h4,hA] at h
    injection h with h
    have:=hFN g hFg
    omega
 ·rcases hb' with h | h | h | h | ⟨i,hi,h⟩
  ·exact H.lo b (Or.inl h)
  ·exact H.lo b (Or.inr (Or.inl h))
  ·exact H.lo b (Or.inr (Or.inr (Or.inl h)))
  ·exact (ja5 ho4 h).1
  ·dsimp only at h
   split at h
   ·omega
   ·exact H.lo b (Or.inr (Or.inr (Or.inr (Or.inr ⟨i,by omega,h⟩))))
 ·rcases hb' with h | h | h | h | ⟨i,hi,h⟩
  ·exact Or.inl (Or.inl h)
  ·exact Or.inl (Or.inr (Or.inl h))
  ·exact Or.inl (Or.inr (Or.inr (Or.inl h)))
  ·rcases hl4 with h4 | h4
   ·exact Or.inl (Or.inr (Or.inr (Or.inr (Or.inl (h4▸h)))))
   ·rw [h4,hA] at h
    injection h with h
    exact Or.inr (by omega)
  ·dsimp only at h
   split at h
   ·exact Or.inr (by omega)
   ·exact Or.inl (Or.inr (Or.inr (Or.inr (Or.inr ⟨i,by omega,h⟩))))
theorem HostAt.kept {w w':World}{hb db nb sb:Nat}{mb:Option Nat}{blk:Int}{D:Dx}{L:Ld}{F:Nat→Prop}{B:Nat}{cv:Value}{m:Nat}{cb:Nat→Nat}{c:Nat→Cn}(H:HostAt w hb db nb sb mb blk D L F B cv m cb c)(hs:w.heap.size≤w'.heap.size)(hk:∀ k,k<w.heap.size→w'.heap[k]?=w.heap[k]?):HostAt w' hb db nb sb mb blk D L F B cv m cb c:=by
 refine⟨(hk hb (ltB H.hh)).trans H.hh,H.hd,H.hs.kept hs (fun b hF=>hk b (H.hs.lt b hF)),fun i hi=>?_,H.hi,ja7 H.ho (fun g hg=>hk g (ja5 H.ho hg).2),H.hF,H.lo,H.fr⟩
 obtain⟨⟨cw,g1,g2,g3⟩,g4⟩:=H.hc i hi
 exact⟨⟨cw,(hk _ (ltB g1)).trans g1,g2.kept hs (fun g o n d _ hg=>hk g hg),fun g o n d h=>⟨(g3 g o n d h).1,(g3 g o n d h).2.1,Nat.lt_of_lt_of_le (g3 g o n d h).2.2 hs⟩⟩,g4⟩
theorem HostAt.quiet {w w':World}{hb db nb sb:Nat}{mb:Option Nat}{blk:Int}{D:Dx}{L:Ld}{F:Nat→Prop}{B:Nat}{cv:Value}{m:Nat}{cb:Nat→Nat}{c:Nat→Cn}(H:HostAt w hb db nb sb mb blk D L F B cv m cb c)(hq:∀ i,(c i).waits=[])(hs:w.heap.size≤w'.heap.size)(hk:∀ k,HG hb db F cv m cb k→w'.heap[k]?=w.heap[k]?):HostAt w' hb db nb sb mb blk D L F B cv m cb c:=by
 refine⟨(hk hb (Or.inl rfl)).trans H.hh,H.hd,H.hs.kept hs (fun b hF=>hk b (Or.inr (Or.inr (Or.inl hF)))),fun i hi=>?_,H.hi,ja7 H.ho (fun g hg=>hk g (Or.inr (Or.inr (Or.inr (Or.inl hg))))),H.hF,H.lo,H.fr⟩
 obtain⟨⟨cw,g1,g2,g3⟩,g4⟩:=H.hc i hi
 refine⟨⟨cw,(hk _ (Or.inr (Or.inr (Or.inr (Or.inr ⟨i,hi,rfl⟩))))).trans g1,?_,fun g o n d h=>⟨(g3 g o n d h).1,(g3 g o n d h).2.1,Nat.lt_of_lt_of_le (g3 g o n d h).2.2 hs⟩⟩,g4⟩
 rw [hq i] at g2 ⊢
 rcases g2 with g2 | ⟨g2,_⟩
 ·exact Or.inl g2
 ·simp at g2
theorem HostAt.lt {w:World}{hb db nb sb:Nat}{mb:Option Nat}{blk:Int}{D:Dx}{L:Ld}{F:Nat→Prop}{B:Nat}{cv:Value}{m:Nat}{cb:Nat→Nat}{c:Nat→Cn}(H:HostAt w hb db nb sb mb blk D L F B cv m cb c)(b:Nat)(h:HG hb db F cv m cb b):b<w.heap.size:=by
 rcases h with rfl | rfl | h | h | ⟨i,hi,rfl⟩
 ·exact ltB H.hh
 ·exact H.hs.lt _ H.hd
 ·exact H.hs.lt b h
 ·exact (ja5 H.ho h).2
 ·exact ltB (H.hc i hi).mem.choose_spec.1
def WaitN (w:World)(sb m:Nat)(cb:Nat→Nat)(c:Nat→Cn)(g:Nat):Prop:=∀ j,j<m→(c j).waits≠[]→∀ cw,w.heap[cb j]?=some (.cells #[.pointer (some ⟨sb,0,none⟩),cw,.bool (c j).bad] 112)→cw.ownBlock≠some g
theorem HostAt.fed {w w':World}{hb db nb sb:Nat}{mb:Option Nat}{blk:Int}{D:Dx}{L:Ld}{F:Nat→Prop}{B:Nat}{cv rv:Value}{cb:Nat→Nat}{c:Nat→Cn}{now:Int}{bs:List Int}(H:HostAt w hb db nb sb mb blk D L F B cv 3 cb c)(hB:B≤w.heap.size)(i:Nat)(hi:i<3)(P:jd7 db blk D 0 sb (cb i) F L (c i) now bs w rv w') :
  ∃ F',HostAt w' hb db nb sb mb blk (feedD D L (c i) now bs) (feedM L (c i) now bs).1 F' B cv 3 cb (fun j=>if j=i then (feedM L (c i) now bs).2.1 else c j)∧Keep (HG hb db F cv 3 cb) w w'∧(∀ b,HG hb db F' cv 3 cb b→HG hb db F cv 3 cb b∨w.heap.size≤b)∧w'.ownsRow w.heap.size 5 1 rv (encs (feedM L (c i) now bs).2.2).length ((encs (feedM L (c i) now bs).2.2).map (Value.int .u8))∧(∀ g,g<w.heap.size→WaitN w sb 3 cb c g→WaitN w' sb 3 cb (fun j=>if j=i then (feedM L (c i) now bs).2.1 else c j) g):=by
 obtain⟨F',s1,s2,s3,s4,s5,s6⟩:=P
 obtain⟨ci,q1,q2,q3⟩:=(H.hc i hi).mem
 obtain⟨xi,di,ei⟩:=q2.shape
 have hs:=s4.size
 have X:∀ k,k<w.heap.size→¬F k→k≠cb i→w'.heap[k]?=w.heap[k]?:=fun k hk h1 h2=>s4.block k hk (fun h=>h.elim h1 h2)
 have nh:hb≠cb i:=by
  intro e
  rw [←e,H.hh] at q1
  simp at q1
 have hF':∀ k,k<w.heap.size→¬F k→¬F' k:=fun k hk h1 h=>(s3 k h).elim h1 (fun h=>by omega)
 refine⟨F',⟨(X hb (ltB H.hh) (H.hF hb (Or.inl rfl)) nh).trans H.hh,s1.dskF,s1,fun j hj=>?_,H.hi,?_,fun g hg=>?_,fun b hb'=>?_,fun j hj=>?_⟩,s4.mono (fun k h _=>?_),fun b h=>?_,s5,fun g hg hw j hj hne0 cw' hcw'=>?_⟩
 ·by_cases e:j=i
  ·rw [if_pos e,e]
   exact s2
  ·rw [if_neg e]
   obtain⟨⟨cw,g1,g2,g3⟩,g4⟩:=H.hc j hj
   have hne:cb j≠cb i:=fun h=>e (H.hi j i hj hi h)
   refine⟨⟨cw,(X _ (ltB g1) g4 hne).trans g1,?_,fun g o n d h=>⟨hF' g (g3 g o n d h).2.2 (g3 g o n d h).1,(g3 g o n d h).2.1,Nat.lt_of_lt_of_le (g3 g o n d h).2.2 hs⟩⟩,hF' _ (ltB g1) g4⟩
   rcases g2 with g2 | ⟨h1,sg,so,cap,hv,h2,h3⟩
   ·exact Or.inl g2
   ·refine Or.inr ⟨h1,sg,so,cap,hv,Nat.lt_of_lt_of_le h2 hs,fun z u hz=>?_⟩
    have hgi:sg≠cb i:=by
     intro e'
     have hl:0<(c j).waits.length:=h1
     have h0:=h3 0 (.int .u8 ((c j).waits[0])) (by simp [hl])
     rw [e',cellB q1,ei] at h0
     rw [Nat.add_zero] at h0
     match so,h0 with
     | 0,h0=>simp at h0
     | 1,h0=>simp at h0
     | 2,h0=>simp at h0
     | n+3,h0=>simp at h0
    exact (World.cell?_of_block (w:=w) (X sg h2 (g3 sg so _ _ hv).1 hgi)).trans (h3 z u hz)
 ·exact ja7 H.ho (fun g hg=>X g (ja5 H.ho hg).2 (H.hF g (Or.inr (Or.inr hg))) (jab H.ho hg q1 (by decide)))
 ·refine hF' g ?_ (H.hF g hg)
  rcases hg with rfl | h | h
  ·exact ltB H.hh
  ·exact h.elim
  ·exact (ja5 H.ho h).2
 ·rcases hb' with h | h | h | h | h
  ·exact H.lo b (Or.inl h)
  ·exact H.lo b (Or.inr (Or.inl h))
  ·rcases s3 b h with h | h
   ·exact H.lo b (Or.inr (Or.inr (Or.inl h)))
   ·omega
  ·exact H.lo b (Or.inr (Or.inr (Or.inr (Or.inl h))))
  ·exact H.lo b (Or.inr (Or.inr (Or.inr (Or.inr h))))
 ·rw [if_neg (by omega)]
  exact H.fr j hj
 ·rcases h with h | h
  ·exact Or.inr (Or.inr (Or.inl h))
  ·exact Or.inr (Or.inr (Or.inr (Or.inr ⟨i,hi,h⟩)))
 ·rcases h with h | h | h | h | h
  ·exact Or.inl (Or.inl h)
  ·exact Or.inl (Or.inr (Or.inl h))
  ·rcases s3 b h with h | h
   ·exact Or.inl (Or.inr (Or.inr (Or.inl h)))
   ·exact Or.inr h
  ·exact Or.inl (Or.inr (Or.inr (Or.inr (Or.inl h))))
  ·exact Or.inl (Or.inr (Or.inr (Or.inr (Or.inr h))))
 ·dsimp only at hcw' hne0
  by_cases e:j=i
  ·rw [if_pos e,e] at hcw'
   rw [if_pos e] at hne0
   exact s6 g hg (hw i hi) hne0 cw' hcw'
  ·rw [if_neg e] at hcw' hne0
   have hm:=(H.hc j hj)
   refine hw j hj hne0 cw' ((X _ (ltB hm.mem.choose_spec.1) hm.nF (fun h=>e (H.hi j i hj hi h))).symm.trans hcw')
theorem jdV {w w':World}{v:Value}{bs:List Int}(h:Src w v bs)(hs:w.heap.size≤w'.heap.size)(hk:bs≠[]→∀ g o n d,v=.slice (some ⟨g,o,none⟩) n d→g<w.heap.size→w'.heap[g]?=w.heap[g]?):Src w' v bs:=by
 rcases h with h | h
 ·exact Or.inl h
 ·exact Src.kept (Or.inr h) hs (hk (fun e=>by have:=h.1;rw [e] at this;simp at this))
theorem HostAt.keptE {w w':World}{hb db nb sb:Nat}{mb:Option Nat}{blk:Int}{D:Dx}{L:Ld}{F:Nat→Prop}{B:Nat}{cv:Value}{m:Nat}{cb:Nat→Nat}{c:Nat→Cn}(H:HostAt w hb db nb sb mb blk D L F B cv m cb c)(wb:Nat)(hn:¬HG hb db F cv m cb wb)(hw:WaitN w sb m cb c wb)(hs:w.heap.size≤w'.heap.size)(hk:∀ k,k<w.heap.size→k≠wb→w'.heap[k]?=w.heap[k]?):HostAt w' hb db nb sb mb blk D L F B cv m cb c:=by
 have hne:∀ k,HG hb db F cv m cb k→k≠wb:=fun k h e=>hn (e▸h)
 refine⟨(hk hb (ltB H.hh) (hne hb (Or.inl rfl))).trans H.hh,H.hd,H.hs.kept hs (fun b hF=>hk b (H.hs.lt b hF) (hne b (Or.inr (Or.inr (Or.inl hF))))),fun i hi=>?_,H.hi,ja7 H.ho (fun g hg=>hk g (ja5 H.ho hg).2 (hne g (Or.inr (Or.inr (Or.inr (Or.inl hg)))))),H.hF,H.lo,H.fr⟩
 obtain⟨⟨cw,g1,g2,g3⟩,g4⟩:=H.hc i hi
 exact⟨⟨cw,(hk _ (ltB g1) (hne _ (Or.inr (Or.inr (Or.inr (Or.inr ⟨i,hi,rfl⟩)))))).trans g1,jdV g2 hs (fun hne0 g o n d e hg=>hk g hg (fun e'=>hw i hi hne0 cw g1 (by rw [e,e'];rfl))),fun g o n d h=>⟨(g3 g o n d h).1,(g3 g o n d h).2.1,Nat.lt_of_lt_of_le (g3 g o n d h).2.2 hs⟩⟩,g4⟩
theorem HostAt.refill {w w':World}{hb db nb sb:Nat}{mb:Option Nat}{blk:Int}{D:Dx}{L:Ld}{F:Nat→Prop}{B:Nat}{cv:Value}{m:Nat}{cb:Nat→Nat}{c:Nat→Cn}(H:HostAt w hb db nb sb mb blk D L F B cv m cb c){ma na:Nat}{l f:Int}(hd:w.heap[db]?=some (.cells #[.map (some ma),.map (some na),.slice none 0 0,.int .i64 l,.int .i64 f,.bool false] 88))
  (hd':w'.heap[db]?=some (.cells #[.map (some ma),.map (some na),.slice none 0 0,.int .i64 (-1),.int .i64 (-1),.bool false] 88)) (hs:w.heap.size≤w'.heap.size) (hk:∀ k,k<w.heap.size→k≠db→w'.heap[k]?=w.heap[k]?):HostAt w' hb db nb sb mb blk D L F B cv m cb c∧SrvK db blk D 4000000 w' 0 sb L F:=by
 have hS:=H.hs.refill hd hd' hs (fun b hF hne=>hk b (H.hs.lt b hF) hne)
 refine⟨⟨(hk hb (ltB H.hh) (fun e=>H.hF hb (Or.inl rfl) (e▸H.hd))).trans H.hh,H.hd,hS.less (by omega),fun i hi=>?_,H.hi,ja7 H.ho (fun g hg=>hk g (ja5 H.ho hg).2 (fun e=>H.hF g (Or.inr (Or.inr hg)) (e▸H.hd))),H.hF,H.lo,H.fr⟩,hS⟩
 obtain⟨⟨cw,g1,g2,g3⟩,g4⟩:=H.hc i hi
 exact⟨⟨cw,(hk _ (ltB g1) (fun e=>g4 (e▸H.hd))).trans g1,g2.kept hs (fun g o n d e hg=>hk g hg (fun e'=>(g3 g o n d e).1 (e'▸H.hd))),fun g o n d h=>⟨(g3 g o n d h).1,(g3 g o n d h).2.1,Nat.lt_of_lt_of_le (g3 g o n d h).2.2 hs⟩⟩,g4⟩
theorem Tryz.info92:(Tryz.prog.info? 101).map (fun i=>(i.zero,i.size,i.bytes))=some (some (.pointer none),1,8):=by kernel_rfl
theorem jha (tb:Nat→Nat)(i:Nat)(x:Nat):ptrs (fun j=>if j=i then x else tb j) (i+1)=ptrs tb i ++ [.pointer (some ⟨x,0,none⟩)]:=by
 unfold ptrs
 rw [List.range_succ,List.map_append]
 congr 1
 ·apply List.map_congr_left
  intro j hj
  have:=List.mem_range.1 hj
  show Value.pointer (some ⟨if j=i then x else tb j,0,none⟩)=_
  rw [if_neg (by omega)]
 ·simp
structure OpI (w:World)(wb:Nat)(C:Value→Array Value)(i:Nat)(v:Value)(tb:Nat→Nat)(wr:World):Prop where
 blk:wr.heap[wb]?=some (.cells (C v) 67)
 own:wr.ownsRow w.heap.size 101 1 v i (ptrs tb i)
 st:∀ j,j<i→wr.heap[tb j]?=some (.cells #[.slice none 0 0,.bool false] 103)∧w.heap.size≤tb j
 inj:∀ j k,j<i→k<i→tb j=tb k→j=k
 keep:Keep (fun b=>b=wb) w wr
theorem jgi (wb:Nat)(c0 c1 c2 c3 c4 c5 f0 f1 f2 f3 f4 f5 f6 f7 f8 f9 f10 f11 f12 was win least lt:Value)(w:World)(hw:w.heap[wb]?=some (.cells #[c0,c1,c2,c3,c4,c5,f0,f1,f2,f3,f4,f5,f6,f7,f8,f9,f10,f11,f12,was,win,least,lt] 67)) :
  Calls Tryz.prog 22 #[.pointer (some ⟨wb,0,none⟩)] w fun e w'=>e=.returned (.tuple #[])∧∃ v tb,OpI w wb (fun v=>#[c0,c1,v,c3,.bool false,c5,f0,f1,f2,f3,f4,f5,f6,f7,f8,f9,f10,f11,f12,was,win,least,.int .u64 0]) 3 v tb w':=by
 obtain⟨i1,hj,hy0,hy1,hy2⟩:=info_parts Tryz.info92
 have a1:=cellB hw
 have a2:=ja2 hw
 have lw:=ltB hw
 have HW:=hide hw
 clear hw
 go_enter Tryz.func22,Tryz.ntmps22
 go_wp2_with fail
 go_loopw [2] (fun s2 wr=>∃ i:Nat,∃ v tb,i≤3∧s2=.int .i64 i∧OpI w wb (fun v=>#[c0,c1,v,c3,c4,c5,f0,f1,f2,f3,f4,f5,f6,f7,f8,f9,f10,f11,f12,was,win,least,lt]) i v tb wr) (fun s2 _=>3 - (intOf s2).toNat)
 case atStart=>
  refine⟨0,.slice none 0 0,fun _=>0,by omega,rfl,⟨by simpa using ja4 HW.out 2 _,World.ownsRow_nil _ _ _ _,fun j hj=>by omega,fun j k hj=>by omega,Keep.set (S:=fun b=>b=wb) (b:=wb) (Keep.refl _ w) (Or.inl rfl) _ _⟩⟩
 case round=>
  obtain⟨i,v,tb,hi,rfl,I⟩:=hrel
  obtain⟨va,vc,rfl⟩:=ja8 I.own
  have hblk:wr.heap[wb]?=some (.cells #[c0,c1,.slice va i vc,c3,c4,c5,f0,f1,f2,f3,f4,f5,f6,f7,f8,f9,f10,f11,f12,was,win,least,lt] 67):=I.blk
  have a3:=cellB hblk
  have a4:=ja2 hblk
  have hks:=I.keep.size
  have hI:=hide I
  have HBL:=hide hblk
  clear I a1 a2 hblk
  by_cases hlt:i<3
  ·have hin:(i:Int)<3:=by omega
   have a5:=fun o j=>upC HBL.out o j
   have a6:=fun o o2 j=>upC (upB HBL.out o) o2 j
   have HO2:Hid (∀ o1 o2,((wr.alloc o1).alloc o2).ownsRow w.heap.size 101 1 (.slice va i vc) i (ptrs tb i)):=hide (fun o1 o2=>ja7 hI.out.own (fun z hz=>by
     have:=ja5 hI.out.own hz
     exact (ja3 _ _ (by simp;omega)).trans (ja3 _ _ (by omega))))
   have hnw:(Value.slice va i vc).ownBlock≠some wb:=fun e=>by have:=ja5 hI.out.own e;omega
   go_wp2_with (at_builtin;refine wpList_append_own_at _ rfl _ _ 61 rfl w.heap.size 101 i1 (.pointer none) 1 8 Tryz.underlying61 hj hy0 hy1 hy2 rfl (by decide) (.slice va i vc) i (ptrs tb i) rfl (HO2.out _ _) ⟨wr.heap.size+1,0,none⟩ 1 1 [.pointer (some ⟨wr.heap.size,0,none⟩)] rfl rfl (fun j u hju=>by rw [Addr.add_lit,Nat.zero_add,←hju];exact (cellB (heapN (by simp)) j).trans (by simp)) (by simp [Value.oneCell']) (by unfold maxLen;omega) (by omega) (by simp;omega) ?_;intro v5 w4 hown4 hgr4 hnil4 hloc4;obtain⟨ya,yc,hyw⟩:=ja8 hown4;subst hyw;have hb4:=(hgr4.block wb (by simp;omega) (fun e=>hnw e.symm)).trans (upB (upB HBL.out _) _);have b1:=cellB hb4;have b2:=ja2 hb4;have HO4:=hide hown4;have HG4:=hide hgr4;have HB4:=hide hb4;have HL4:=hide hloc4;clear hown4 hgr4 hnil4 hloc4 hb4)
   go_roundw
   case rel=>
    have hg4:=HG4.out.size
    have hg5:wr.heap.size+2≤w4.heap.size:=by simp at hg4;omega
    have hn7:∀ z,z<w.heap.size→(Value.slice va i vc).ownBlock≠some z:=fun z hz e=>by have:=ja5 hI.out.own e;omega
    have hk4:=((hI.out.keep).alloc (.cells #[.slice none 0 0,.bool false] 103)).alloc (.cells #[.pointer (some ⟨wr.heap.size,0,none⟩)] 101)
    have hkk:Keep (fun b=>b=wb) w w4:=⟨HG4.out.os.trans hk4.os,HG4.out.tape.trans hk4.tape,HG4.out.output.trans hk4.output,Nat.le_trans hk4.size hg4,fun z hz hS=>(HG4.out.block z (Nat.lt_of_lt_of_le hz hk4.size) (fun e=>hn7 z hz e.symm)).trans (hk4.block z hz hS)⟩
    have hown94:∀ z a t,wr.heap[z]?=some (.cells a t)→t≠101→(Value.slice va i vc).ownBlock≠some z:=fun z a t hz ht e=>jab hI.out.own e hz ht rfl
    have hnew:w4.heap[wr.heap.size]?=some (.cells #[.slice none 0 0,.bool false] 103):=(HG4.out.block wr.heap.size (by simp;omega) (fun e=>by have:=ja5 hI.out.own e.symm;omega)).trans (upB (ja1 _ _) _)
    refine⟨i+1,.slice ya (i+1) yc,fun j=>if j=i then wr.heap.size else tb j,by omega,by go_num,⟨by simpa using ja4 HB4.out 2 _,?_,?_,?_,Keep.set (S:=fun b=>b=wb) (b:=wb) hkk (Or.inl rfl) _ _⟩⟩
    ·rw [jha]
     refine ja7 HO4.out (fun z hz=>?_)
     have:=ja5 HO4.out hz
     exact ja0 (by omega) _ _
    ·intro j hj'
     by_cases e:j=i
     ·rw [if_pos e]
      exact⟨(ja0 (by omega) _ _).trans hnew,hks⟩
     ·rw [if_neg e]
      have h2:=hI.out.st j (by omega)
      have h3:=ltB h2.1
      exact⟨(ja0 (by omega) _ _).trans ((HG4.out.block (tb j) (by simp;omega) (fun e=>hown94 _ _ _ h2.1 (by decide) e.symm)).trans ((ja3 _ _ (by simp;omega)).trans ((ja3 _ _ h3).trans h2.1))),h2.2⟩
    ·intro j k hj' hk' he
     by_cases ej:j=i <;> by_cases ek:k=i
     ·omega
     ·rw [if_pos ej,if_neg ek] at he
      have:=ltB (hI.out.st k (by omega)).1
      omega
     ·rw [if_neg ej,if_pos ek] at he
      have:=ltB (hI.out.st j (by omega)).1
      omega
     ·rw [if_neg ej,if_neg ek] at he
      exact hI.out.inj j k (by omega) (by omega) he
   case measure=>simp [intOf];omega
  ·obtain rfl:i=3:=by omega
   go_wp2_with fail
   go_end0
   refine⟨rfl,.slice va 3 vc,tb,⟨by simpa using ja4 (ja4 HBL.out 4 _) 22 _,?_,?_,hI.out.inj,Keep.set (S:=fun b=>b=wb) (b:=wb) (Keep.set (S:=fun b=>b=wb) (b:=wb) hI.out.keep (Or.inl rfl) _ _) (Or.inl rfl) _ _⟩⟩
   ·refine ja7 hI.out.own (fun z hz=>?_)
    have:=ja5 hI.out.own hz
    exact (ja0 (by omega) _ _).trans (ja0 (by omega) _ _)
   ·intro j hj
    have:=hI.out.st j hj
    exact⟨(ja0 (by omega) _ _).trans ((ja0 (by omega) _ _).trans this.1),this.2⟩
structure Sp where
 kind:Int
 conn:Int
 now:Int
 qs:List Rq
 raw:ByteArray
 cut:Int
 left:Int
 full:Int
 kept:Int
 part:Int
abbrev stv (p:Sp)(v:Value):List Value:=[.int .i64 p.kind,.int .i64 p.conn,.int .u64 p.now,v,.string p.raw,.int .i64 p.cut,.int .i64 p.left,.int .i64 p.full,.int .i64 p.kept,.int .i64 p.part]
def stvs:List Sp→List Value→List Value
 | p :: ps,v :: vs=>stv p v ++ stvs ps vs
 | _,_=>[]
theorem jdP:∀ (ps:List Sp) (vs:List Value) (p:Sp) (v:Value),ps.length=vs.length→stvs (ps ++ [p]) (vs ++ [v])=stvs ps vs ++ stv p v
 | [],[],_,_,_=>rfl
 | a :: ps,b :: vs,p,v,h=>by
  show stv a b ++ stvs (ps ++ [p]) (vs ++ [v])=stv a b ++ stvs ps vs ++ stv p v
  rw [jdP ps vs p v (by simpa using h),List.append_assoc]
 | [],_ :: _,_,_,h=>by simp at h
 | _ :: _,[],_,_,h=>by simp at h
theorem jeS (x:Nat)(hx:x<10):∀ (ps:List Sp) (vs:List Value) (i:Nat) (hi:i<ps.length) (hv:i<vs.length),(stvs ps vs)[i * 10+x]?=(stv ps[i] vs[i])[x]?
 | p :: ps,v :: vs,0,_,_=>by
  show (stv p v ++ stvs ps vs)[0 * 10+x]?=_
  rw [Nat.zero_mul,Nat.zero_add,List.getElem?_append_left (by simpa using hx)]
  rfl
 | p :: ps,v :: vs,i+1,hi,hv=>by
  have h10:(stv p v).length=10:=rfl
  show (stv p v ++ stvs ps vs)[(i+1) * 10+x]?=_
  rw [List.getElem?_append_right (by rw [h10];omega),h10,show (i+1) * 10+x - 10=i * 10+x by omega,jeS x hx ps vs i (by simpa using hi) (by simpa using hv)]
  rfl
def fq (qs:List Rq):List Rq:=qs.filter (fun q=>decide (q.op≠5))
theorem jkU (qs:List Rq)(k:Nat)(hk:k<qs.length):fq (qs.take (k+1))=if qs[k].op=5 then fq (qs.take k) else fq (qs.take k) ++ [qs[k]]:=by
 have e:qs.take (k+1)=qs.take k ++ [qs[k]]:=by rw [List.take_add_one,List.getElem?_eq_getElem hk];rfl
 unfold fq
 rw [e,List.filter_append]
 by_cases h:qs[k].op=5
 ·simp [h]
 ·simp [h]
theorem fq_le (qs:List Rq):(fq qs).length≤qs.length:=List.length_filter_le _ _
def RqAt (w:World)(v:Value)(qs:List Rq):Prop:=∃ ao cap,v=.slice ao qs.length cap∧qs.length≤cap∧(0<qs.length→∃ A o,ao=some ⟨A,o,none⟩∧A<w.heap.size∧∀ i (h:i<qs.length) j,j<13→w.cell? ⟨A,o+i * 13+j,none⟩=(rqw qs[i])[j]?)
theorem jeV {w:World}{base e sz:Nat}{v:Value}{n:Nat}{xs:List Value}(h:w.ownsRow base e sz v n xs){g:Nat}(hg:v.ownBlock=some g):∃ c fr,w.heap[g]?=some (.cells c e fr):=by
 rcases h.2 with ⟨rfl,rfl⟩ | ⟨g',cap,cur,hv,_,hh,_⟩
 ·simp [Value.ownBlock] at hg
 ·rw [hv] at hg
  simp [Value.ownBlock] at hg
  subst hg
  exact⟨_,_,hh⟩
def totM (rl rs:Nat→Nat):Nat→Nat
 | 0=>0
 | i+1=>totM rl rs i+26 * rl i+rs i
def jlb (n:Nat)(rl rs:Nat→Nat)(e:Ending):Prop:=∃ b,e=.returned (.bool b)∧(b=true→n+totM rl rs n≤16384)
theorem jjE (ao:Option Addr)(n cap:Nat)(rl rs:Nat→Nat)(w:World)(hnc:n≤cap)(hn1:n≤2000000)(hrl:∀ i,i<n→rl i≤2000000)(hrs:∀ i,i<n→rs i≤2000000)
  (hc:0<n→∃ A o,ao=some ⟨A,o,none⟩∧A<w.heap.size∧∀ i,i<n→(∃ la lc,w.cell? ⟨A,o+i * 10+3,none⟩=some (.slice la (rl i) lc))∧∃ raw:ByteArray,w.cell? ⟨A,o+i * 10+4,none⟩=some (.string raw)∧raw.size=rs i) :
  Calls Tryz.prog 18 #[.slice ao n cap] w fun e w'=>jlb n rl rs e∧Below w.heap.size w w':=by
 have HC:=hide hc
 have HRL:=hide hrl
 have HRS:=hide hrs
 clear hc hrl hrs
 go_enter Tryz.func18,Tryz.ntmps18
 go_wp2
 go_loopw [3,4] (fun s3 s4 wr=>∃ i:Nat,i≤n∧s4=.int .i64 i∧s3=.int .i64 ((n+totM rl rs i:Nat):Int)∧n+totM rl rs i≤60000000∧Below w.heap.size w wr) (fun _ s4 _=>n - (intOf s4).toNat)
 case atStart=>exact⟨0,by omega,rfl,by simp [totM],by simp [totM];omega,Below.refl _ _⟩
 case round=>
  obtain⟨i,hi,rfl,rfl,ht,hb⟩:=hrel
  obtain⟨t,het⟩:∃ t,t=n+totM rl rs i:=⟨_,rfl⟩
  rw [←het] at ht ⊢
  have HT:=hide het
  clear het
  by_cases hlt:i<n
  ·by_cases hsm:t≤16384
   ·obtain⟨A,o,rfl,hA,hcc⟩:=HC.out (by omega)
    obtain⟨⟨la,lc,k3⟩,raw,k4,hraw⟩:=hcc i hlt
    have e3:wr.cell? ⟨A,o+i * 10+3,none⟩=some (.slice la (rl i) lc):=(hb.cell (p:=⟨A,o+i * 10+3,none⟩) hA).trans k3
    have e4:wr.cell? ⟨A,o+i * 10+4,none⟩=some (.string raw):=(hb.cell (p:=⟨A,o+i * 10+4,none⟩) hA).trans k4
    obtain⟨x,hx⟩:∃ x,x=rl i:=⟨_,rfl⟩
    rw [←hx] at e3
    have hx1:x≤2000000:=hx▸HRL.out i hlt
    have hr1:raw.size≤2000000:=hraw▸HRS.out i hlt
    have HX:=hide hx
    have HRAW:=hide hraw
    have hin:(i:Int)<(n:Int):=by omega
    have hi0:(0:Int)≤(i:Int):=by omega
    have hsi:(t:Int)≤16384:=by omega
    have w1:IntKind.i64.wrap (26 * (x:Int))=26 * (x:Int):=by rw [IntKind.wrap_i64];omega
    have w2:IntKind.i64.wrap ((t:Int)+26 * (x:Int))=(t:Int)+26 * (x:Int):=by rw [IntKind.wrap_i64];omega
    have w3:IntKind.i64.wrap ((t:Int)+26 * (x:Int)+(raw.size:Int))=(t:Int)+26 * (x:Int)+(raw.size:Int):=by rw [IntKind.wrap_i64];omega
    clear k3 k4 hcc hx hraw
    go_upto_region 5 with fail
    go_region
    all_goals go_wp2
    all_goals go_roundw
    ·have e5:n+totM rl rs (i+1)=t+26 * x+raw.size:=by
      have:=HT.out
      have:=HX.out
      have:=HRAW.out
      unfold totM
      omega
     refine⟨i+1,by omega,by go_num,?_,by omega,hb.drew⟩
     rw [e5]
     simp
    ·simp [intOf];omega
   ·have hsi:¬(t:Int)≤16384:=by omega
    have hin:(i:Int)<(n:Int):=by omega
    go_wp2
    go_ret
    exact⟨⟨false,rfl,fun h=>by simp at h⟩,hb⟩
  ·obtain rfl:i=n:=by omega
   go_wp2
   go_ret
   refine⟨⟨_,rfl,fun h=>?_⟩,hb⟩
   have:=HT.out
   simp at h
   omega
end Go.Proofs.YtnlgndpcddngoaaGreatDoor
namespace Go.Proofs.YtnlgndpcddngoaaGreatDoor
open Go.RowKit Go.Maps
structure Rec (blk:Int)(L L':Ld):Prop where
 time:L'.time≤L.time
 adm:L'.adm=0
 none_:∀ k,fnd k L.ks=none→fnd k L'.ks=none
 some_:∀ k z,fnd k L.ks=some z→∃ h,fnd k L'.ks=some h∧Res blk z h∧(h.kd=2→h.wn≤L'.time / h.y)
theorem jby (es:Es):∀ (ks:List Ky) (k:Ky),fndG k (opE es ks)=if k∈ks then some (jag es k,jag es k) else none
 | [],k=>by simp [opE,fndG]
 | k0 :: r,k=>by
  have ih:=jby es r k
  unfold opE at ih ⊢
  rw [List.map_cons]
  show (if k0=k then some (jag es k0,jag es k0) else fndG k (r.map fun k=>(k,(jag es k,jag es k))))=_
  by_cases h:k0=k
  ·subst h
   rw [if_pos rfl,if_pos (by simp)]
  ·rw [if_neg h,ih]
   by_cases h2:k∈r
   ·rw [if_pos h2,if_pos (by simp [h2])]
   ·rw [if_neg h2,if_neg (by simp [h2];exact fun e=>h e.symm)]
theorem jfs (es:Es)(ks:List Ky)(k:Ky)(h:k∈ks):jag (opE es ks) k=jag es k:=by
 show ((fndG k (opE es ks)).map Prod.snd).getD ⟨0,0,0,0,0⟩=_
 rw [jby,if_pos h]
 rfl
theorem jhM (es:Es)(ks:List Ky):(opE es ks).map Prod.fst=ks:=by
 unfold opE
 rw [List.map_map]
 exact List.map_id'' (fun _=>rfl) ks
theorem jeG {c:Led}{D:Int}(hc:c.ok)(hD:c.has D)(hne:c.fsD≠[]∨c.es≠[]):∃ (im:Bool→Option Ig) (i:Ig),Files c.fsD im∧(∃ b,im b≠none)∧(∀ a b,im false=some a→im true=some b→b.turn=nextT a.turn∨a.turn=nextT b.turn)∧(∀ b j,im b=some j→j.ks.Nodup)∧(∀ j,Best im j→j=i)∧i.ok∧i.ks.Nodup∧i.turn=c.turn∧i.es=c.es∧i.ks.Perm (c.es.map Prod.fst)∧i.time≤c.time∧((∀ p∈c.es,p.2.2.kd=2→p.2.2.wn≤i.time / p.2.2.y)∧D≤i.time)∧∃ a,fndG (c.turn % 2==1) c.fsD=some (a,strOfNums i.bytes):=by
 obtain⟨p,hp⟩:∃ p,fndG (c.turn % 2==1) c.fsD=some p:=by
  rcases hD.img with ⟨h1,h2,_⟩ | ⟨tm,ks,a,_,_,_,h4⟩
  ·rcases hne with h | h
   ·exact absurd h1 h
   ·exact absurd h2 h
  ·exact⟨_,h4.1⟩
 obtain⟨i,i1,i2,i3,i4,i5,i6,i7,i9,i10⟩:=hD.cur hc.turn hc.time.2 hc.nd hc.key hc.len hp
 have i8:∃ a,fndG (c.turn % 2==1) c.fsD=some (a,strOfNums i.bytes):=⟨p.1,by rw [hp,←i7]⟩
 obtain⟨b0,hb0⟩:∃ b0,b0=(c.turn % 2==1):=⟨_,rfl⟩
 have hpar:(i.turn % 2==1)=b0:=by rw [i3,hb0]
 rw [←hb0] at hp
 have hold:=hD.old
 rw [←hb0] at hold
 have hnot:∀ b,b≠b0→b=!b0:=fun b h=>by cases b <;> cases b0 <;> simp at h ⊢
 have hbb:(!b0)≠b0:=by cases b0 <;> simp
 have hc2:∀ (o:Ig),nextT o.turn=c.turn→¬o.turn=nextT i.turn:=fun o h e=>by
  rw [i3] at e
  rw [e] at h
  have:=hc.turn
  unfold nextT at h
  omega
 cases ho:fndG (!b0) c.fsD with
 | none=>
  refine⟨fun b=>if b=b0 then some i else none,i,fun b=>?_,⟨b0,by simp⟩,fun a b h1 h2=>?_,fun b j h=>?_,fun j hj=>?_,i1,i2,i3,i4,i5,i6,⟨i9,i10⟩,i8⟩
  ·by_cases h:b=b0
   ·subst h
    refine⟨by dsimp only;rw [hp,if_pos rfl];simp [i7],fun j hj=>?_⟩
    dsimp only at hj
    rw [if_pos rfl] at hj
    cases hj
    exact⟨i1,hpar⟩
   ·have:=hnot b h
    subst this
    refine⟨by dsimp only;rw [ho,if_neg h];rfl,fun j hj=>?_⟩
    dsimp only at hj
    rw [if_neg h] at hj
    cases hj
  ·exfalso
   cases b0
   ·simp at h2
   ·simp at h1
  ·dsimp only at h
   by_cases h':b=b0
   ·rw [if_pos h'] at h;cases h;exact i2
   ·rw [if_neg h'] at h;cases h
  ·have h:=hj.1
   dsimp only at h
   by_cases h':(j.turn % 2==1)=b0
   ·rw [if_pos h'] at h;cases h;rfl
   ·rw [if_neg h'] at h;cases h
 | some po=>
  obtain⟨o,o1,o2,o3,o4⟩:=hold po ho
  have hopar:(o.turn % 2==1)=!b0:=by
   have:=jcr o.turn
   rw [o3,←hb0] at this
   rw [this,Bool.not_not]
  refine⟨fun b=>if b=b0 then some i else some o,i,fun b=>?_,⟨b0,by simp⟩,fun a b h1 h2=>?_,fun b j h=>?_,fun j hj=>?_,i1,i2,i3,i4,i5,i6,⟨i9,i10⟩,i8⟩
  ·by_cases h:b=b0
   ·subst h
    refine⟨by dsimp only;rw [hp,if_pos rfl];simp [i7],fun j hj=>?_⟩
    dsimp only at hj
    rw [if_pos rfl] at hj
    cases hj
    exact⟨i1,hpar⟩
   ·have:=hnot b h
    subst this
    refine⟨by dsimp only;rw [ho,if_neg h];simp [o4],fun j hj=>?_⟩
    dsimp only at hj
    rw [if_neg h] at hj
    cases hj
    exact⟨o1,hopar⟩
  ·cases b0
   ·simp at h1 h2
    subst h1 h2
    exact Or.inr (by rw [i3,o3])
   ·simp at h1 h2
    subst h1 h2
    exact Or.inl (by rw [i3,o3])
  ·dsimp only at h
   by_cases h':b=b0
   ·rw [if_pos h'] at h;cases h;exact i2
   ·rw [if_neg h'] at h;cases h;exact o2
  ·have h:=hj.1
   dsimp only at h
   by_cases h':(j.turn % 2==1)=b0
   ·rw [if_pos h'] at h;cases h;rfl
   ·rw [if_neg h'] at h
    cases h
    exfalso
    refine hc2 o o3 (hj.2 i ?_)
    dsimp only
    rw [hopar,Bool.not_not,if_pos rfl]
theorem jjy (db mb nb:Nat)(blk:Int)(D:Dx)(c0:Led)(w:World)(hc:c0.ok)(hD:c0.hx D)(hblk:c0.blk=blk)(fsN:Fs)(hsm:Sm c0.fsD fsN)(hne:c0.fsD≠[]∨c0.es≠[])(hd:w.heap[db]?=some (.cells #[.map (some mb),.map (some nb),.slice none 0 0,.int .i64 (-1),.int .i64 (-1),.bool false] 88))(hM:DirAt w mb c0.fsD)(hN:DirAt w nb fsN)(hmn:mb≠nb) :
  Calls Tryz.prog 34 #[.iface 78 (.pointer (some ⟨db,0,none⟩)),.int .u64 blk] w fun e w'=>∃ sb L' F,e=.returned (.tuple #[.pointer (some ⟨sb,0,none⟩),.nilIface])∧w.heap.size≤sb∧SrvK db blk ⟨L'.time,true⟩ 3999999 w' 0 sb L' F∧(Rec blk c0.ld L'∧D.t≤L'.time∧(D.z=true→∀ k z,fnd k c0.ld.ks=some z→fnd k L'.ks=some z))∧(∀ b,F b→b=db∨b=mb∨b=nb∨(∃ p∈c0.fsD ++ fsN,b=p.2.1)∨w.heap.size≤b)∧Keep (fun c=>c=db) w w':=by
 obtain⟨im,i,f1,f2,f3,f4,f5,j1,j2,j3,j4,j5,j6,j8,j7⟩:=jeG hc hD.1 hne
 have f1n:Files fsN im:=fun b=>⟨(hsm b).trans (f1 b).1,(f1 b).2⟩
 have HO:=hide (jco db mb nb fsN im (-1) (-1) blk w ⟨hd,by omega,by omega,hN,f1n,f2,f3⟩ f4)
 have hdl:=ltB hd
 have hml:=hM.map.lt
 have hnl:=hN.map.lt
 have hmd:mb≠db:=hM.map.ne hd
 have hnd:nb≠db:=hN.map.ne hd
 have hsl:∀ p∈c0.fsD ++ fsN,p.2.1<w.heap.size∧p.2.1≠db:=fun p hp=>by
  rcases List.mem_append.1 hp with hp | hp
  ·exact⟨ltB (hM.str p hp),fun e=>by have:=hM.str p hp;rw [e,hd] at this;simp at this⟩
  ·exact⟨ltB (hN.str p hp),fun e=>by have:=hN.str p hp;rw [e,hd] at this;simp at this⟩
 have HM:=hide hM
 have HN:=hide hN
 have HC:=hide hc
 have HSL:=hide hsl
 have HJ:=hide (And.intro f5 (And.intro j1 (And.intro j2 (And.intro j3 (And.intro j4 (And.intro j5 (And.intro j6 (And.intro j8 j7))))))))
 clear hd hM hN hc hsl f1 f1n f2 f3 f4 f5 j1 j2 j3 j4 j5 j6 j7 j8
 go_enter Tryz.func34,Tryz.ntmps34
 go_wp2_with fail
 refine HO.out.mono ?_
 rintro e w1 ⟨g,mp,i',rfl,q0,q1,q2,q3,q4,q5,q6,q7⟩
 have HQ:=hide (And.intro q0 (And.intro q1 (And.intro q2 (And.intro q3 (And.intro q4 (And.intro q5 (And.intro q6 q7)))))))
 clear q0 q1 q2 q3 q4 q5 q6 q7
 go_wp2
 go_ret2
 obtain⟨q0,q1,q2,q3,q4,q5,q6,q7⟩:=HQ.out
 obtain⟨f5,j1,j2,j3,j4,j5,j6,j8,j7⟩:=HJ.out
 obtain rfl:=f5 i' q0
 have hc:=HC.out
 have s1:=q7.size
 have gl:=q5.lt
 have ml:=MapG.lt q4
 obtain⟨W,hW⟩:∃ W,W=(w1.alloc (.cells #[.int .u64 i'.time,.int .u64 blk,.map (some mp),.pointer (some ⟨g,0,none⟩)] 124)).alloc (.cells #[.int .i32 0,.int .u32 0,.int .u64 i'.time,.int .u64 blk,.map (some mp),.pointer (some ⟨g,0,none⟩),.int .u64 0] 130):=⟨_,rfl⟩
 have up:∀ k,k<w1.heap.size→W.heap[k]?=w1.heap[k]?:=fun k hk=>by rw [hW,ja3 _ _ (by simp;omega),ja3 _ _ hk]
 have old:∀ k,k<w.heap.size→k≠db→W.heap[k]?=w.heap[k]?:=fun k hk hn=>(up k (by omega)).trans (q7.block k hk hn)
 have hsb:W.heap[w1.heap.size+1]?=_:=hW▸heapN (by simp)
 have hsW:W.heap.size=w1.heap.size+2:=by rw [hW];simp
 have hKW:Keep (fun c=>c=db) w W:=hW▸(q7.alloc _).alloc _
 have hdW:=(up db (by omega)).trans q6
 have hMW:DirAt W mb c0.fsD:=HM.out.kept (old mb hml hmd) (fun p hp=>old _ (HSL.out p (List.mem_append_left _ hp)).1 (HSL.out p (List.mem_append_left _ hp)).2)
 have hNW:DirAt W nb fsN:=HN.out.kept (old nb hnl hnd) (fun p hp=>old _ (HSL.out p (List.mem_append_right _ hp)).1 (HSL.out p (List.mem_append_right _ hp)).2)
 have hmem:∀ k,k∈i'.ks↔∃ q∈c0.es,q.1=k:=fun k=>by
  rw [j5.mem_iff,List.mem_map]
 have hheld:∀ q∈c0.es,jag i'.es q.1=q.2.2:=fun q hq=>by
  rw [j4]
  unfold jag
  rw [jak hc.nd hq]
  rfl
 have hq:∀ k∈i'.ks,k.ok∧(jag i'.es k).ok:=j1.rec_
 have hin:∀ p∈opE i'.es i'.ks,∃ k∈i'.ks,p=(k,(jag i'.es k,jag i'.es k)):=fun p hp=>by
  obtain⟨k,hk,e⟩:=List.mem_map.1 hp
  exact⟨k,hk,e.symm⟩
 have hb0:0≤blk∧blk≤18446744073709551615:=hblk▸hc.blk
 have hdur:(⟨i'.time,0,blk,opE i'.es i'.ks,i'.turn,c0.fsD,fsN⟩:Led).has i'.time:=by
  refine⟨fun p hp=>?_,?_,?_⟩
  ·obtain⟨k,hk,rfl⟩:=hin p hp
   exact Res.same (hq k hk).2 hb0.1
  ·obtain⟨a,ha⟩:=j7
   refine Or.inr ⟨i'.time,i'.ks,a,?_,⟨j1.time.1,Int.le_refl _⟩,Int.le_refl _,?_,fun p hp=>?_⟩
   ·show i'.ks.Perm ((opE i'.es i'.ks).map Prod.fst)
    rw [jhM]
   ·show fndG (i'.turn % 2==1) c0.fsD=some (a,strOfNums (imgB i'.turn i'.time (opE i'.es i'.ks) i'.ks))
    rw [jbT i'.turn i'.time (opE i'.es i'.ks) i'.es i'.ks (fun k hk=>jfs _ _ k hk),j3,ha]
    unfold Ig.bytes
    rw [j3]
   ·obtain⟨k,hk,rfl⟩:=hin p hp
    obtain⟨q,hq',e⟩:=(hmem k).1 hk
    have:=j8.1 q hq'
    rw [←hheld q hq',e] at this
    exact this
  ·show ∀ p,fndG (!(i'.turn % 2==1)) c0.fsD=some p→_
   rw [j3]
   exact hc.dur.old
 have hcok:(⟨i'.time,0,blk,opE i'.es i'.ks,i'.turn,c0.fsD,fsN⟩:Led).ok:=by
  refine⟨j1.time,by simp,hb0,j1.turn,by show ((opE i'.es i'.ks).map Prod.fst).Nodup;rw [jhM];exact j2,fun p hp=>?_,fun p hp=>?_,fun p hp=>?_,by show (opE i'.es i'.ks).length≤12;unfold opE;rw [List.length_map];exact j1.len,hdur.less j1.time.1⟩
  ·obtain⟨k,hk,rfl⟩:=hin p hp
   exact (hq k hk).1
  ·obtain⟨k,hk,rfl⟩:=hin p hp
   exact (hq k hk).2
  ·obtain⟨k,hk,rfl⟩:=hin p hp
   exact (hq k hk).2.fit
 refine⟨w1.heap.size+1,⟨i'.time,0,jad (opE i'.es i'.ks)⟩,fun b=>b=db∨b=mb∨b=nb∨(∃ p∈c0.fsD ++ fsN,b=p.2.1)∨b=w1.heap.size+1∨b=mp∨b=g,by simp,by omega,?_,?_,fun b hb=>?_,by rw [←hW];exact hKW⟩
 ·rw [←hW]
  refine⟨_,hcok,rfl,⟨rfl,hdur,fun _ p hp=>(by obtain⟨k,_,rfl⟩:=hin p hp;rfl),hsm⟩,⟨⟨mp,g,fun b=>b=db∨b=mb∨b=nb∨(∃ p∈c0.fsD ++ fsN,b=p.2.1),hsb,MapG.kept q4 (up mp ml),q5.kept (up g gl),⟨⟨mb,nb,decM (-1),decM (-1),hdW,hMW,hNW,by rw [jf1];exact Brn.neg (by omega) (by omega) (by omega),by rw [jf1];exact Brn.neg (by omega) (by omega) (by omega),Or.inr (Or.inl rfl),Or.inr (Or.inr (Or.inl rfl)),hmn⟩,fun p hp=>Or.inr (Or.inr (Or.inr ⟨p,List.mem_append_left _ hp,rfl⟩)),fun p hp=>Or.inr (Or.inr (Or.inr ⟨p,List.mem_append_right _ hp,rfl⟩)),Or.inl rfl,fun b hb=>?_⟩,fun b hb=>?_,?_,?_,fun h=>?_,fun h=>?_,fun e=>q3 e.symm,fun h=>?_,by omega,by omega⟩,?_,fun b hb=>?_⟩⟩
  ·rcases hb with h | h | h | ⟨p,hp,h⟩
   ·omega
   ·omega
   ·omega
   ·have:=(HSL.out p hp).1;omega
  ·rcases hb with h | h | h | h
   ·exact Or.inl h
   ·exact Or.inr (Or.inl h)
   ·exact Or.inr (Or.inr (Or.inl h))
   ·exact Or.inr (Or.inr (Or.inr (Or.inl h)))
  ·exact Or.inr (Or.inr (Or.inr (Or.inr (Or.inr (Or.inl rfl)))))
  ·exact Or.inr (Or.inr (Or.inr (Or.inr (Or.inr (Or.inr rfl)))))
  ·rcases h with h | h | h | ⟨p,hp,h⟩
   ·omega
   ·omega
   ·omega
   ·have:=(HSL.out p hp).1;omega
  ·rcases h with h | h | h | ⟨p,hp,h⟩
   ·omega
   ·omega
   ·omega
   ·have:=(HSL.out p hp).1;omega
  ·rcases h with h | h | h | ⟨p,hp,h⟩
   ·omega
   ·omega
   ·omega
   ·have:=(HSL.out p hp).1;omega
  ·exact Or.inr (Or.inr (Or.inr (Or.inr (Or.inl rfl))))
  ·rcases hb with h | h | h | ⟨p,hp,h⟩ | h | h | h
   ·omega
   ·omega
   ·omega
   ·have:=(HSL.out p hp).1;omega
   ·omega
   ·omega
   ·omega
 ·refine⟨⟨j6,rfl,fun k hk=>?_,fun k z hz=>?_⟩,j8.2,fun hdz k z hz=>?_⟩
  ·have h1:=jbg hk
   have h2:k ∉ i'.ks:=fun h=>by
    obtain⟨q,hq,e⟩:=(hmem k).1 h
    have:=jak hc.nd hq
    rw [e,h1] at this
    cases this
   show fnd k (jad (opE i'.es i'.ks))=none
   rw [jaP,jby,if_neg h2]
   rfl
  ·obtain⟨z2,hg⟩:=jb7 hz
   have hq:=jao hg
   have h2:k∈i'.ks:=(hmem k).2 ⟨_,hq,rfl⟩
   refine⟨z2,?_,hblk▸hc.dur.res _ hq,j8.1 _ hq⟩
   show fnd k (jad (opE i'.es i'.ks))=some z2
   rw [jaP,jby,if_pos h2,hheld _ hq]
   rfl
  ·obtain⟨z2,hg⟩:=jb7 hz
   have hq:=jao hg
   have h2:k∈i'.ks:=(hmem k).2 ⟨_,hq,rfl⟩
   have e:z2=z:=hD.2.1 hdz _ hq
   show fnd k (jad (opE i'.es i'.ks))=some z
   rw [jaP,jby,if_pos h2,hheld _ hq]
   show some z2=some z
   rw [e]
 ·rcases hb with h | h | h | h | h | h | h
  ·exact Or.inl h
  ·exact Or.inr (Or.inl h)
  ·exact Or.inr (Or.inr (Or.inl h))
  ·exact Or.inr (Or.inr (Or.inr (Or.inl h)))
  ·exact Or.inr (Or.inr (Or.inr (Or.inr (by omega))))
  ·exact Or.inr (Or.inr (Or.inr (Or.inr (by omega))))
  ·exact Or.inr (Or.inr (Or.inr (Or.inr (by omega))))
theorem jj9 (db mb nb:Nat)(blk:Int)(D:Dx)(c0:Led)(w:World)(hc:c0.ok)(hD:c0.hx D)(hblk:c0.blk=blk)(fsN:Fs)(hsm:Sm c0.fsD fsN)(hd:w.heap[db]?=some (.cells #[.map (some mb),.map (some nb),.slice none 0 0,.int .i64 (-1),.int .i64 (-1),.bool false] 88))(hM:DirAt w mb c0.fsD)(hN:DirAt w nb fsN)(hmn:mb≠nb) :
  Calls Tryz.prog 34 #[.iface 78 (.pointer (some ⟨db,0,none⟩)),.int .u64 blk] w fun e w'=>∃ sb L' F,e=.returned (.tuple #[.pointer (some ⟨sb,0,none⟩),.nilIface])∧w.heap.size≤sb∧SrvK db blk ⟨L'.time,true⟩ 3999999 w' 0 sb L' F∧(Rec blk c0.ld L'∧D.t≤L'.time∧(D.z=true→∀ k z,fnd k c0.ld.ks=some z→fnd k L'.ks=some z))∧(∀ b,F b→b=db∨b=mb∨b=nb∨(∃ p∈c0.fsD ++ fsN,b=p.2.1)∨w.heap.size≤b)∧Keep (fun c=>c=db) w w':=by
 by_cases hne:c0.fsD≠[]∨c0.es≠[]
 ·exact jjy db mb nb blk D c0 w hc hD hblk fsN hsm hne hd hM hN hmn
 ·have e1:c0.fsD=[]:=Decidable.byContradiction fun h=>hne (Or.inl h)
  have e2:c0.es=[]:=by
   cases h:c0.es with
   | nil=>rfl
   | cons x r=>exact absurd (Or.inr (by rw [h];simp)) hne
  have e3:fsN=[]:=by
   cases h:fsN with
   | nil=>rfl
   | cons p r=>
    have:=hsm p.1
    rw [e1,h] at this
    simp [fndG] at this
  rw [e1] at hM
  rw [e3] at hN
  rw [e1,e3]
  refine (jjq db mb nb blk w (hblk▸hc.blk) hd hM hN hmn).mono ?_
  rintro e w' ⟨sb,F,rfl,h1,h2,h3,h4⟩
  refine⟨sb,⟨0,0,[]⟩,F,rfl,h1,h2.less (by omega),⟨⟨hc.time.1,rfl,fun _ _=>rfl,fun k z hz=>?_⟩,?_,fun _ k z hz=>?_⟩,fun b hb=>?_,Keep.of_below h4⟩
  ·have:c0.ld.ks=[]:=by show jad c0.es=[];rw [e2];rfl
   rw [this] at hz
   simp [fnd] at hz
  ·show D.t≤0
   rcases hD.1.img with ⟨_,_,h⟩ | ⟨tm,ks,a,_,_,_,h4,_⟩
   ·exact h
   ·rw [e1] at h4
    simp [fndG] at h4
  ·have:c0.ld.ks=[]:=by show jad c0.es=[];rw [e2];rfl
   rw [this] at hz
   simp [fnd] at hz
  ·rcases h3 b hb with h | h | h | h
   ·exact Or.inl h
   ·exact Or.inr (Or.inl h)
   ·exact Or.inr (Or.inr (Or.inl h))
   ·exact Or.inr (Or.inr (Or.inr (Or.inr h)))
theorem jck (hb db nb mb:Nat)(sv cv:Value)(blk l f:Int)(D:Dx)(c0:Led)(w:World)(hc:c0.ok)(hD:c0.hx D)(hblk:c0.blk=blk)(hh:w.heap[hb]?=some (.cells #[.pointer (some ⟨db,0,none⟩),sv,cv,.int .u64 blk] 82))(hd:w.heap[db]?=some (.cells #[.map (some mb),.map (some nb),.slice none 0 0,.int .i64 l,.int .i64 f,.bool false] 88))(hm:DirAt w mb c0.fsD)(fsN:Fs)(hsm:Sm c0.fsD fsN)(hn:DirAt w nb fsN)(hmn:mb≠nb) :
  Calls Tryz.prog 20 #[.pointer (some ⟨hb,0,none⟩),.int .i64 (-1),.int .i64 (-1),.int .i64 0,.int .i64 0] w fun e w'=>∃ sb L' F,e=.returned (.int .i64 0)∧w.heap.size≤sb∧w'.heap[hb]?=some (.cells #[.pointer (some ⟨db,0,none⟩),.pointer (some ⟨sb,0,none⟩),.slice none 0 0,.int .u64 blk] 82)∧SrvK db blk ⟨L'.time,true⟩ 0 w' 0 sb L' F∧(Rec blk c0.ld L'∧D.t≤L'.time∧(D.z=true→∀ k z,fnd k c0.ld.ks=some z→fnd k L'.ks=some z))∧(∀ b,F b→b=db∨b=mb∨b=nb∨(∃ p∈c0.fsD ++ fsN,b=p.2.1)∨w.heap.size≤b)∧¬F hb∧Keep (fun b=>b=hb∨b=db) w w':=by
 have lh:=ltB hh
 have ld:=ltB hd
 have hne:hb≠db:=by
  intro e;subst e
  rw [hh] at hd;simp at hd
 have hnd:nb≠db:=hn.map.ne hd
 have hmd:mb≠db:=hm.map.ne hd
 have hmh:mb≠hb:=hm.map.ne hh
 have hnh:nb≠hb:=hn.map.ne hh
 have hph:∀ p∈c0.fsD ++ fsN,p.2.1≠hb∧p.2.1≠db:=fun p hp=>by
  rcases List.mem_append.1 hp with hp | hp
  ·exact⟨fun e=>by have:=hm.str p hp;rw [e,hh] at this;simp at this,fun e=>by have:=hm.str p hp;rw [e,hd] at this;simp at this⟩
  ·exact⟨fun e=>by have:=hn.str p hp;rw [e,hh] at this;simp at this,fun e=>by have:=hn.str p hp;rw [e,hd] at this;simp at this⟩
 obtain⟨V,hV⟩:∃ V,V=((w.setCell ⟨db,3,none⟩ (.int .i64 (-1))).setCell ⟨db,4,none⟩ (.int .i64 (-1))).drew:=⟨_,rfl⟩
 have hhV:V.heap[hb]?=some (.cells #[.pointer (some ⟨db,0,none⟩),sv,cv,.int .u64 blk] 82):=by rw [hV,jac,ja0 hne,ja0 hne];exact hh
 have hdV:V.heap[db]?=some (.cells #[.map (some mb),.map (some nb),.slice none 0 0,.int .i64 (-1),.int .i64 (-1),.bool false] 88):=by rw [hV,jac];simpa using ja4 (ja4 hd 3 (.int .i64 (-1))) 4 (.int .i64 (-1))
 have oV:∀ x,x≠db→V.heap[x]?=w.heap[x]?:=fun x hx=>by rw [hV,jac,ja0 hx,ja0 hx]
 have hmV:DirAt V mb c0.fsD:=hm.kept (oV mb hmd) (fun p hp=>oV _ (hph p (List.mem_append_left _ hp)).2)
 have hnV:DirAt V nb fsN:=hn.kept (oV nb hnd) (fun p hp=>oV _ (hph p (List.mem_append_right _ hp)).2)
 have hKV:Keep (fun b=>b=hb∨b=db) w V:=hV▸(Keep.set (S:=fun b=>b=hb∨b=db) (b:=db) (Keep.set (S:=fun b=>b=hb∨b=db) (b:=db) (Keep.refl _ w) (Or.inl (Or.inr rfl)) _ _) (Or.inl (Or.inr rfl)) _ _).drew
 have a0:=cellB hh 0
 have a1:=cellB hd
 have a2:=ja2 hd
 have n1:¬hb=db:=hne
 have n2:¬db=hb:=fun e=>hne e.symm
 go_enter Tryz.func20,Tryz.ntmps20
 go_upto_region 1 with fail
 go_cut [] (fun wx=>wx=V)
 case first=>
  go_region_held3 (fun w'=>w'.cell? ⟨hb,0,none⟩=some (.pointer (some ⟨db,0,none⟩))) (go_keep) (fail)
  all_goals (go_wp2_with fail;go_meet)
  all_goals exact hV.symm
 case rest=>
  subst hcut
  clear hV a0 a1 a2
  have hdD:=(jac _ db).trans hdV
  have hmD:DirAt wc.drew mb c0.fsD:=hmV.kept rfl (fun _ _=>rfl)
  have hnD:DirAt wc.drew nb fsN:=hnV.kept rfl (fun _ _=>rfl)
  have b0:=cellB hhV 0
  have b3:=cellB hhV 3
  go_upto_region 2 with fail
  go_region_held3 (fun w'=>w'.cell? ⟨hb,0,none⟩=some (.pointer (some ⟨db,0,none⟩))∧w'.cell? ⟨hb,3,none⟩=some (.int .u64 blk)) (first | go_keep | (exact⟨cellB hh2 0,cellB hh2 3⟩))
   (first | (go_at_call 34;refine (jj9 db mb nb blk D c0 _ hc hD hblk fsN hsm hdD hmD hnD hmn).mono ?_;rintro e w2 ⟨sb,L',F,rfl,hsb,hS2,hRec,hF2,hb2⟩;have hh2:=(hb2.block hb (ltB hhV) hne).trans hhV))
  have hsz2:=hb2.size
  have hszV:=hKV.size
  obtain⟨ma,na,l2,f2,hd2⟩:=hS2.dsk
  go_wp2_with fail
  refine (jdf _).mono ?_
  rintro e w3 ⟨rfl,hb3⟩
  have hh3:=(hb3.block hb (ltB hh2)).trans hh2
  have hd3:=(hb3.block db (ltB hd2)).trans hd2
  have hS3:=hS2.below hb3 (Nat.le_refl _)
  have c1:=cellB hh3
  have c2:=ja2 hh3
  clear b0 b3
  go_wp2_with fail
  obtain⟨U,hU⟩:∃ U,U=(w3.setCell ⟨hb,1,none⟩ (.pointer (some ⟨sb,0,none⟩))).setCell ⟨hb,2,none⟩ (.slice none 0 0):=⟨_,rfl⟩
  rw [←hU]
  have hhU:U.heap[hb]?=some (.cells #[.pointer (some ⟨db,0,none⟩),.pointer (some ⟨sb,0,none⟩),.slice none 0 0,.int .u64 blk] 82):=by rw [hU];simpa using ja4 (ja4 hh3 1 (.pointer (some ⟨sb,0,none⟩))) 2 (.slice none 0 0)
  have hdU:U.heap[db]?=some (.cells #[.map (some ma),.map (some na),.slice none 0 0,.int .i64 l2,.int .i64 f2,.bool false] 88):=by rw [hU,ja0 n2,ja0 n2];exact hd3
  have hFw:∀ b,F b→b=db∨b=mb∨b=nb∨(∃ p∈c0.fsD ++ fsN,b=p.2.1)∨w.heap.size≤b:=fun b h=>(hF2 b h).imp id (fun h=>h.imp id (fun h=>h.imp id (fun h=>h.imp id (fun h=>Nat.le_trans hszV h))))
  have hFh:∀ b,F b→b≠hb:=fun b h e=>by
   rcases hFw b h with h | h | h | ⟨p,hp,h⟩ | h
   ·exact n1 (e.symm.trans h)
   ·exact hmh (h.symm.trans e)
   ·exact hnh (h.symm.trans e)
   ·exact (hph p hp).1 (h.symm.trans e)
   ·omega
  have hSU:SrvK db blk ⟨L'.time,true⟩ 3999999 U 0 sb L' F:=hS3.kept (by rw [hU];simp) (fun b hb'=>by rw [hU,ja0 (hFh b hb'),ja0 (hFh b hb')])
  have hKU:Keep (fun b=>b=hb∨b=db) w U:=by
   have k1:=(hKV.drew.then hb2 (fun _ _ h=>Or.inr h)).trans (Keep.of_below hb3)
   rw [hU]
   exact Keep.set (S:=fun b=>b=hb∨b=db) (b:=hb) (Keep.set (S:=fun b=>b=hb∨b=db) (b:=hb) k1 (Or.inl (Or.inl rfl)) _ _) (Or.inl (Or.inl rfl)) _ _
  clear hU c1 c2
  refine (jct hb db (some ma) (some na) _ _ _ _ l2 f2 0 0 U hhU hdU).mono ?_
  rintro e w4 ⟨rfl,g1,g2⟩
  go_wp2
  go_ret
  refine⟨sb,L',F,rfl,Nat.le_trans hszV hsb,(g2.block hb (ltB hhU) hne).trans hhU,(hSU.refill hdU g1 g2.size (fun b hF hne'=>g2.block b (hSU.lt b hF) hne')).less (by omega),hRec,hFw,fun h=>hFh hb h rfl,hKU.then g2 (fun i _ h=>Or.inr h)⟩
def jgA (w:World)(db mb nb:Nat)(e:Ending)(w':World):Prop:=∃ (sb:Nat) (l' f':Int),e=.returned (.tuple #[.pointer (some ⟨sb,0,none⟩),.nilIface])∧w'.heap[db]?=some (.cells #[.map (some mb),.map (some nb),.slice none 0 0,.int .i64 l',.int .i64 f',.bool false] 88)∧Keep (fun c=>c=db) w w'
theorem jjN (db mb nb:Nat)(blk:Int)(fs:Fs)(im:Bool→Option Ig)(l f:Int)(w:World)(h:OpF w db mb nb fs im l f)(hnd:∀ b i,im b=some i→i.ks.Nodup) :
  Calls Tryz.prog 34 #[.iface 78 (.pointer (some ⟨db,0,none⟩)),.int .u64 blk] w fun e w'=>jgA w db mb nb e w':=by
 have HO:=hide (jco db mb nb fs im l f blk w h hnd)
 clear h hnd
 go_enter Tryz.func34,Tryz.ntmps34
 go_wp2_with fail
 refine HO.out.mono ?_
 rintro e w1 ⟨g,mp,i',rfl,q0,q1,q2,q3,q4,q5,q6,q7⟩
 have HQ:=hide (And.intro q6 q7)
 clear q0 q1 q2 q3 q4 q5 q6 q7
 go_wp2
 go_ret2
 obtain⟨q6,q7⟩:=HQ.out
 exact⟨w1.heap.size+1,_,_,by simp,upB (upB q6 _) _,(q7.alloc _).alloc _⟩
theorem jhV (db mb nb:Nat)(blk l f:Int)(w:World)(hd:w.heap[db]?=some (.cells #[.map (some mb),.map (some nb),.slice none 0 0,.int .i64 l,.int .i64 f,.bool false] 88))(hN:DirAt w nb []) :
  Calls Tryz.prog 34 #[.iface 78 (.pointer (some ⟨db,0,none⟩)),.int .u64 blk] w fun e w'=>jgA w db mb nb e w':=by
 have HO:=hide (jcG db nb _ _ _ _ blk w hd hN)
 have HD:=hide hd
 clear hd hN
 go_enter Tryz.func34,Tryz.ntmps34
 go_wp2_with fail
 refine HO.out.mono ?_
 rintro e w1 ⟨g,mp,rfl,q1,q2,q3,q4,q5,q6⟩
 have HQ:=hide q6
 clear q1 q2 q3 q4 q5 q6
 go_wp2
 go_ret2
 have q6:=HQ.out
 exact⟨w1.heap.size+1,_,_,by simp,upB (upB ((q6.block db (ltB HD.out)).trans HD.out) _) _,((Keep.of_below q6).alloc _).alloc _⟩
theorem jl4 (hb db mb:Nat)(nv sv cv bv c3 c4:Value)(fs:Fs)(kept part:Int)(w:World)(p0:-9223372036854775808≤part)(p1:part≤9223372036854775807)(hh:w.heap[hb]?=some (.cells #[.pointer (some ⟨db,0,none⟩),sv,cv,bv] 82))(hd:w.heap[db]?=some (.cells #[.map (some mb),nv,.slice none 0 0,c3,c4,.bool true] 88))(hD:DirAt w mb fs) :
  Calls Tryz.prog 32 #[.pointer (some ⟨hb,0,none⟩),.int .i64 kept,.int .i64 part] w fun e w'=>e=.returned (.tuple #[])∧∃ nb,w'.heap[hb]?=some (.cells #[.pointer (some ⟨db,0,none⟩),.pointer none,cv,bv] 82)∧w'.heap[db]?=some (.cells #[.map (some mb),.map (some nb),.slice none 0 0,.int .i64 (-1),.int .i64 (-1),.bool false] 88)∧w.heap.size≤nb∧DirAt w' nb fs∧Keep (fun b=>b=hb∨b=db) w w':=by
 have hne:hb≠db:=by
  intro e;subst e
  rw [hh] at hd;simp at hd
 have hmh:mb≠hb:=hD.map.ne hh
 have n1:¬hb=db:=hne
 have n2:¬db=hb:=fun e=>hne e.symm
 obtain⟨V,hV⟩:∃ V,V=w.setCell ⟨hb,1,none⟩ (.pointer none):=⟨_,rfl⟩
 have oV:∀ x,x≠hb→V.heap[x]?=w.heap[x]?:=fun x hx=>by rw [hV,ja0 hx]
 have hhV:V.heap[hb]?=some (.cells #[.pointer (some ⟨db,0,none⟩),.pointer none,cv,bv] 82):=by rw [hV];simpa using ja4 hh 1 (.pointer none)
 have hdV:=(oV db n2).trans hd
 have hmV:DirAt V mb fs:=hD.kept (oV mb hmh) (fun p hp=>oV _ (fun e=>by have:=hD.str p hp;rw [e,hh] at this;simp at this))
 have hKV:Keep (fun b=>b=hb∨b=db) w V:=hV▸Keep.set (S:=fun b=>b=hb∨b=db) (b:=hb) (Keep.refl _ w) (Or.inl (Or.inl rfl)) _ _
 have sV:V.heap.size=w.heap.size:=by rw [hV];simp
 have HC:=hide (je5 db mb _ _ _ _ fs kept part V p0 p1 hdV hmV)
 have a0:=cellB hh
 have a1:=cellB hd
 have a2:=ja2 hh
 have HKV:=hide hKV
 have HHV:=hide hhV
 have HSV:=hide sV
 clear oV hdV hmV hKV hD sV
 go_enter Tryz.func32,Tryz.ntmps32
 go_upto_region 2 with fail
 rw [←hV]
 clear hV a0 a1 a2
 have b0:=cellB hhV
 clear hhV
 go_wp2_with fail
 refine HC.out.mono ?_
 rintro e w2 ⟨rfl,nb,q1,q2,q3,q4⟩
 have h2:=(q4.block hb (ltB HHV.out) hne).trans HHV.out
 have c0:=cellB h2 0
 have c1:=cellB q1
 have c2:=ja2 q1
 have HQ:=hide (And.intro q1 (And.intro q2 (And.intro q3 q4)))
 have HH2:=hide h2
 clear q1 q2 q3 q4 h2 b0
 go_wp2_with fail
 go_region_held3 (fun w'=>w'.cell? ⟨hb,0,none⟩=some (.pointer (some ⟨db,0,none⟩))) (go_keep) (fail)
 all_goals go_wp2
 all_goals go_end0
 all_goals (
   obtain⟨q1,q2,q3,q4⟩:=HQ.out
   have hnd:nb≠db:=q3.map.ne q1
   have sV:=HSV.out
   refine⟨rfl,nb,?_,(jac _ _).trans (by simpa using ja4 (ja4 q1 3 (.int .i64 (-1))) 4 (.int .i64 (-1))),by omega,?_,Keep.drew ?_⟩
   · rw [jac,ja0 n1,ja0 n1]
     exact HH2.out
   · exact q3.kept (by rw [jac,ja0 hnd,ja0 hnd]) (fun p hp=>by
       have hpd:p.2.1≠db:=fun e=>by have:=q3.str p hp;rw [e,q1] at this;simp at this
       rw [jac,ja0 hpd,ja0 hpd])
   · exact Keep.set (S:=fun b=>b=hb∨b=db) (b:=db) (Keep.set (S:=fun b=>b=hb∨b=db) (b:=db) (HKV.out.then q4 (fun _ _ h=>Or.inr h)) (Or.inl (Or.inr rfl)) _ _) (Or.inl (Or.inr rfl)) _ _)
structure HD (w:World)(hb db mb nb:Nat)(fs:Fs)(blk:Int):Prop where
 hh:∃ sv cv,w.heap[hb]?=some (.cells #[.pointer (some ⟨db,0,none⟩),sv,cv,.int .u64 blk] 82)
 hd:∃ l f,w.heap[db]?=some (.cells #[.map (some mb),.map (some nb),.slice none 0 0,.int .i64 l,.int .i64 f,.bool false] 88)
 hm:DirAt w mb fs
 hn:DirAt w nb fs
 mn:mb≠nb
def je0 (w:World)(hb db mb nb:Nat)(fs:Fs)(blk l f:Int)(e:Ending)(w':World):Prop:=∃ code:Int,e=.returned (.int .i64 code)∧(code=0∨(code=4∨code=5)∧¬(l<0∧f<0))∧(∃ nb',HD w' hb db mb nb' fs blk∧(nb'=nb∨w.heap.size≤nb'))∧Keep (fun b=>b=hb∨b=db) w w'
theorem jcE (hb db nb mb:Nat)(sv cv:Value)(blk l0 f0 l f kept part:Int)(fs:Fs)(w:World)(hh:w.heap[hb]?=some (.cells #[.pointer (some ⟨db,0,none⟩),sv,cv,.int .u64 blk] 82))(hd:w.heap[db]?=some (.cells #[.map (some mb),.map (some nb),.slice none 0 0,.int .i64 l0,.int .i64 f0,.bool false] 88))(hm:DirAt w mb fs)(hn:DirAt w nb fs)(hmn:mb≠nb)
  (hO:∀ V:World,V.heap[db]?=some (.cells #[.map (some mb),.map (some nb),.slice none 0 0,.int .i64 l,.int .i64 f,.bool false] 88)→DirAt V mb fs→DirAt V nb fs→Calls Tryz.prog 34 #[.iface 78 (.pointer (some ⟨db,0,none⟩)),.int .u64 blk] V fun e w'=>jgA V db mb nb e w') :
  Calls Tryz.prog 20 #[.pointer (some ⟨hb,0,none⟩),.int .i64 l,.int .i64 f,.int .i64 kept,.int .i64 part] w fun e w'=>je0 w hb db mb nb fs blk l f e w':=by
 have hne:hb≠db:=by
  intro e;subst e
  rw [hh] at hd;simp at hd
 have hnd:nb≠db:=hn.map.ne hd
 have hmd:mb≠db:=hm.map.ne hd
 have hmh:mb≠hb:=hm.map.ne hh
 have hnh:nb≠hb:=hn.map.ne hh
 have hph:∀ p∈fs,(p.2.1≠hb∧p.2.1≠db):=fun p hp=>⟨fun e=>by have:=hm.str p hp;rw [e,hh] at this;simp at this,fun e=>by have:=hm.str p hp;rw [e,hd] at this;simp at this⟩
 obtain⟨V,hV⟩:∃ V,V=((w.setCell ⟨db,3,none⟩ (.int .i64 l)).setCell ⟨db,4,none⟩ (.int .i64 f)).drew:=⟨_,rfl⟩
 have hhV:V.heap[hb]?=some (.cells #[.pointer (some ⟨db,0,none⟩),sv,cv,.int .u64 blk] 82):=by rw [hV,jac,ja0 hne,ja0 hne];exact hh
 have hdV:V.heap[db]?=some (.cells #[.map (some mb),.map (some nb),.slice none 0 0,.int .i64 l,.int .i64 f,.bool false] 88):=by rw [hV,jac];simpa using ja4 (ja4 hd 3 (.int .i64 l)) 4 (.int .i64 f)
 have oV:∀ x,x≠db→V.heap[x]?=w.heap[x]?:=fun x hx=>by rw [hV,jac,ja0 hx,ja0 hx]
 have hmV:DirAt V mb fs:=hm.kept (oV mb hmd) (fun p hp=>oV _ (hph p hp).2)
 have hnV:DirAt V nb fs:=hn.kept (oV nb hnd) (fun p hp=>oV _ (hph p hp).2)
 have hKV:Keep (fun b=>b=hb∨b=db) w V:=hV▸(Keep.set (S:=fun b=>b=hb∨b=db) (b:=db) (Keep.set (S:=fun b=>b=hb∨b=db) (b:=db) (Keep.refl _ w) (Or.inl (Or.inr rfl)) _ _) (Or.inl (Or.inr rfl)) _ _).drew
 have a0:=cellB hh 0
 have a1:=cellB hd
 have a2:=ja2 hd
 have n1:¬hb=db:=hne
 have n2:¬db=hb:=fun e=>hne e.symm
 have HOO:=hide hO
 have HPH:=hide hph
 have HMV:=hide hmV
 have HNV:=hide hnV
 clear hO hph oV hm hn
 go_enter Tryz.func20,Tryz.ntmps20
 go_upto_region 1 with fail
 go_cut [] (fun wx=>wx=V)
 case first=>
  go_region_held3 (fun w'=>w'.cell? ⟨hb,0,none⟩=some (.pointer (some ⟨db,0,none⟩))) (go_keep) (fail)
  all_goals (go_wp2_with fail;go_meet)
  all_goals exact hV.symm
 case rest=>
  subst hcut
  clear hV a0 a1 a2
  have HOV:=hide (HOO.out wc.drew ((jac _ db).trans hdV) (HMV.out.kept rfl (fun _ _=>rfl)) (HNV.out.kept rfl (fun _ _=>rfl)))
  have b0:=cellB hhV 0
  have b3:=cellB hhV 3
  go_upto_region 2 with fail
  go_region_held3 (fun w'=>w'.cell? ⟨hb,0,none⟩=some (.pointer (some ⟨db,0,none⟩))∧w'.cell? ⟨hb,3,none⟩=some (.int .u64 blk)) (first | go_keep | (exact⟨cellB hh2 0,cellB hh2 3⟩))
   (first | (go_at_call 34;refine HOV.out.mono ?_;rintro e w2 ⟨sb,l',f',rfl,hd2,hb2⟩;have hh2:=(hb2.block hb (ltB hhV) hne).trans hhV))
  have hszV:=hKV.size
  go_wp2_with fail
  refine (jdf _).mono ?_
  rintro e w3 ⟨rfl,hb3⟩
  have hh3:=(hb3.block hb (ltB hh2)).trans hh2
  have hd3:=(hb3.block db (ltB hd2)).trans hd2
  have hK3:Keep (fun b=>b=hb∨b=db) w w3:=(hKV.drew.then hb2 (fun _ _ h=>Or.inr h)).trans (Keep.of_below hb3)
  have hM3:DirAt w3 mb fs:=(HMV.out.kept (w':=w2) (hb2.block mb HMV.out.map.lt hmd) (fun p hp=>hb2.block _ (ltB (HMV.out.str p hp)) (HPH.out p hp).2)).kept (hb3.block mb (Nat.lt_of_lt_of_le HMV.out.map.lt hb2.size)) (fun p hp=>hb3.block _ (Nat.lt_of_lt_of_le (ltB (HMV.out.str p hp)) hb2.size))
  have hN3:DirAt w3 nb fs:=(HNV.out.kept (w':=w2) (hb2.block nb HNV.out.map.lt hnd) (fun p hp=>hb2.block _ (ltB (HNV.out.str p hp)) (HPH.out p hp).2)).kept (hb3.block nb (Nat.lt_of_lt_of_le HNV.out.map.lt hb2.size)) (fun p hp=>hb3.block _ (Nat.lt_of_lt_of_le (ltB (HNV.out.str p hp)) hb2.size))
  have c1:=cellB hh3
  have c2:=ja2 hh3
  clear b0 b3
  go_wp2_with fail
  obtain⟨U,hU⟩:∃ U,U=(w3.setCell ⟨hb,1,none⟩ (.pointer (some ⟨sb,0,none⟩))).setCell ⟨hb,2,none⟩ (.slice none 0 0):=⟨_,rfl⟩
  rw [←hU]
  have hhU:U.heap[hb]?=some (.cells #[.pointer (some ⟨db,0,none⟩),.pointer (some ⟨sb,0,none⟩),.slice none 0 0,.int .u64 blk] 82):=by rw [hU];simpa using ja4 (ja4 hh3 1 (.pointer (some ⟨sb,0,none⟩))) 2 (.slice none 0 0)
  have oU:∀ x,x≠hb→U.heap[x]?=w3.heap[x]?:=fun x hx=>by rw [hU,ja0 hx,ja0 hx]
  have hdU:=(oU db n2).trans hd3
  have hMU:DirAt U mb fs:=hM3.kept (oU mb hmh) (fun p hp=>oU _ (HPH.out p hp).1)
  have hNU:DirAt U nb fs:=hN3.kept (oU nb hnh) (fun p hp=>oU _ (HPH.out p hp).1)
  have hKU:Keep (fun b=>b=hb∨b=db) w U:=by
   rw [hU]
   exact Keep.set (S:=fun b=>b=hb∨b=db) (b:=hb) (Keep.set (S:=fun b=>b=hb∨b=db) (b:=hb) hK3 (Or.inl (Or.inl rfl)) _ _) (Or.inl (Or.inl rfl)) _ _
  clear hU c1 c2 oU
  refine (jct hb db (some mb) (some nb) _ _ _ _ l' f' kept part U hhU hdU).mono ?_
  rintro e w4 ⟨rfl,g1,g2⟩
  go_wp2
  go_ret
  exact⟨0,rfl,Or.inl rfl,⟨nb,⟨⟨_,_,(g2.block hb (ltB hhU) hne).trans hhU⟩,⟨_,_,g1⟩,hMU.kept (g2.block mb hMU.map.lt hmd) (fun p hp=>g2.block _ (ltB (hMU.str p hp)) (HPH.out p hp).2),hNU.kept (g2.block nb hNU.map.lt hnd) (fun p hp=>g2.block _ (ltB (hNU.str p hp)) (HPH.out p hp).2),hmn⟩,Or.inl rfl⟩,hKU.then g2 (fun i _ h=>Or.inr h)⟩
theorem jdy (hb db nb mb:Nat)(sv cv:Value)(blk l0 f0 l f kept part:Int)(fs:Fs)(w:World)(hh:w.heap[hb]?=some (.cells #[.pointer (some ⟨db,0,none⟩),sv,cv,.int .u64 blk] 82))(hd:w.heap[db]?=some (.cells #[.map (some mb),.map (some nb),.slice none 0 0,.int .i64 l0,.int .i64 f0,.bool false] 88))(hm:DirAt w mb fs)(hn:DirAt w nb fs)(hmn:mb≠nb)
  (hne0:fs≠[]) (er l' f':Int) (dn:Bool) (hwf:WFail l f er l' f' dn) (p0:-9223372036854775808≤part) (p1:part≤9223372036854775807) (hgl:w.cell? ⟨0,0,none⟩=some (.iface 236 (.agg #[.pointer (some ⟨5,97,none⟩)]))) (hE:0≠hb∧0≠db) :
  Calls Tryz.prog 20 #[.pointer (some ⟨hb,0,none⟩),.int .i64 l,.int .i64 f,.int .i64 kept,.int .i64 part] w fun e w'=>je0 w hb db mb nb fs blk l f e w':=by
 have hne:hb≠db:=by
  intro e;subst e
  rw [hh] at hd;simp at hd
 have hnd:nb≠db:=hn.map.ne hd
 have hmd:mb≠db:=hm.map.ne hd
 have hmh:mb≠hb:=hm.map.ne hh
 have hnh:nb≠hb:=hn.map.ne hh
 have hph:∀ p∈fs,(p.2.1≠hb∧p.2.1≠db):=fun p hp=>⟨fun e=>by have:=hm.str p hp;rw [e,hh] at this;simp at this,fun e=>by have:=hm.str p hp;rw [e,hd] at this;simp at this⟩
 obtain⟨V,hV⟩:∃ V,V=((w.setCell ⟨db,3,none⟩ (.int .i64 l)).setCell ⟨db,4,none⟩ (.int .i64 f)).drew:=⟨_,rfl⟩
 have hhV:V.heap[hb]?=some (.cells #[.pointer (some ⟨db,0,none⟩),sv,cv,.int .u64 blk] 82):=by rw [hV,jac,ja0 hne,ja0 hne];exact hh
 have hdV:V.heap[db]?=some (.cells #[.map (some mb),.map (some nb),.slice none 0 0,.int .i64 l,.int .i64 f,.bool false] 88):=by rw [hV,jac];simpa using ja4 (ja4 hd 3 (.int .i64 l)) 4 (.int .i64 f)
 have oV:∀ x,x≠db→V.heap[x]?=w.heap[x]?:=fun x hx=>by rw [hV,jac,ja0 hx,ja0 hx]
 have hmV:DirAt V mb fs:=hm.kept (oV mb hmd) (fun p hp=>oV _ (hph p hp).2)
 have hnV:DirAt V nb fs:=hn.kept (oV nb hnd) (fun p hp=>oV _ (hph p hp).2)
 have hKV:Keep (fun b=>b=hb∨b=db) w V:=hV▸(Keep.set (S:=fun b=>b=hb∨b=db) (b:=db) (Keep.set (S:=fun b=>b=hb∨b=db) (b:=db) (Keep.refl _ w) (Or.inl (Or.inr rfl)) _ _) (Or.inl (Or.inr rfl)) _ _).drew
 have a0:=cellB hh 0
 have a1:=cellB hd
 have a2:=ja2 hd
 have n1:¬hb=db:=hne
 have n2:¬db=hb:=fun e=>hne e.symm
 have hlE:0<w.heap.size:=jaN hgl
 have herr:er≠0:=by rcases hwf with h | h <;> omega
 have hnn:¬(l<0∧f<0):=by rcases hwf with h | h <;> omega
 have hec:er=4∨er=5:=by rcases hwf with h | h <;> omega
 have hern:(er==0)=false:=by simpa using herr
 have HWF:=hide hwf
 have HGL:=hide hgl
 have HPH:=hide hph
 have HMV:=hide hmV
 have HNV:=hide hnV
 clear hwf hgl hph oV hm hn
 go_enter Tryz.func20,Tryz.ntmps20
 go_upto_region 1 with fail
 go_cut [] (fun wx=>wx=V)
 case first=>
  go_region_held3 (fun w'=>w'.cell? ⟨hb,0,none⟩=some (.pointer (some ⟨db,0,none⟩))) (go_keep) (fail)
  all_goals (go_wp2_with fail;go_meet)
  all_goals exact hV.symm
 case rest=>
  subst hcut
  clear hV a0 a1 a2
  have HOV:=hide (openE db mb nb fs l f er l' f' dn blk wc.drew ⟨(jac _ db).trans hdV,HNV.out.kept rfl (fun _ _=>rfl),hne0,HWF.out⟩)
  have b0:=cellB hhV 0
  have b3:=cellB hhV 3
  go_upto_region 2 with fail
  go_region_held3 (fun w'=>w'.cell? ⟨hb,0,none⟩=some (.pointer (some ⟨db,0,none⟩))∧w'.cell? ⟨hb,3,none⟩=some (.int .u64 blk)) (first | go_keep | (exact⟨cellB hh2 0,cellB hh2 3⟩))
   (first | (go_at_call 34;refine HOV.out.mono ?_;rintro e w2 ⟨rfl,hd2,hb2⟩;have hh2:=(hb2.block hb (ltB hhV) hne).trans hhV))
  have hszV:=hKV.size
  go_wp2_with fail
  have hgl2:w2.cell? ⟨0,0,none⟩=some (.iface 236 (.agg #[.pointer (some ⟨5,97,none⟩)])):=(World.cell?_of_block (w:=w) (((hKV.drew.then hb2 (fun _ _ h=>Or.inr h)).block 0 hlE (fun h=>h.elim hE.1 hE.2)))).trans HGL.out
  refine (jiC er _ hgl2).mono ?_
  rintro e w3 ⟨rfl,hb3⟩
  have hh3:=(hb3.block hb (ltB hh2)).trans hh2
  have hd3:=(hb3.block db (ltB hd2)).trans hd2
  have hK3:Keep (fun b=>b=hb∨b=db) w w3:=(hKV.drew.then hb2 (fun _ _ h=>Or.inr h)).trans (Keep.of_below hb3)
  have hM3:DirAt w3 mb fs:=(HMV.out.kept (w':=w2) (hb2.block mb HMV.out.map.lt hmd) (fun p hp=>hb2.block _ (ltB (HMV.out.str p hp)) (HPH.out p hp).2)).kept (hb3.block mb (Nat.lt_of_lt_of_le HMV.out.map.lt hb2.size)) (fun p hp=>hb3.block _ (Nat.lt_of_lt_of_le (ltB (HMV.out.str p hp)) hb2.size))
  have hN3:DirAt w3 nb fs:=(HNV.out.kept (w':=w2) (hb2.block nb HNV.out.map.lt hnd) (fun p hp=>hb2.block _ (ltB (HNV.out.str p hp)) (HPH.out p hp).2)).kept (hb3.block nb (Nat.lt_of_lt_of_le HNV.out.map.lt hb2.size)) (fun p hp=>hb3.block _ (Nat.lt_of_lt_of_le (ltB (HNV.out.str p hp)) hb2.size))
  have c1:=cellB hh3
  have c2:=ja2 hh3
  clear b0 b3
  go_wp2_with fail
  obtain⟨U,hU⟩:∃ U,U=((w3.setCell ⟨hb,1,none⟩ (.pointer none)).setCell ⟨hb,2,none⟩ (.slice none 0 0)).setCell ⟨hb,1,none⟩ (.pointer none):=⟨_,rfl⟩
  rw [←hU]
  have hhU:U.heap[hb]?=some (.cells #[.pointer (some ⟨db,0,none⟩),.pointer none,.slice none 0 0,.int .u64 blk] 82):=by rw [hU];simpa using ja4 (ja4 (ja4 hh3 1 (.pointer none)) 2 (.slice none 0 0)) 1 (.pointer none)
  have oU:∀ x,x≠hb→U.heap[x]?=w3.heap[x]?:=fun x hx=>by rw [hU,ja0 hx,ja0 hx,ja0 hx]
  have hdU:=(oU db n2).trans hd3
  have hMU:DirAt U mb fs:=hM3.kept (oU mb hmh) (fun p hp=>oU _ (HPH.out p hp).1)
  have hNU:DirAt U nb fs:=hN3.kept (oU nb hnh) (fun p hp=>oU _ (HPH.out p hp).1)
  have hKU:Keep (fun b=>b=hb∨b=db) w U:=by
   rw [hU]
   exact Keep.set (S:=fun b=>b=hb∨b=db) (b:=hb) (Keep.set (S:=fun b=>b=hb∨b=db) (b:=hb) (Keep.set (S:=fun b=>b=hb∨b=db) (b:=hb) hK3 (Or.inl (Or.inl rfl)) _ _) (Or.inl (Or.inl rfl)) _ _) (Or.inl (Or.inl rfl)) _ _
  clear hU c1 c2 oU
  cases dn with
  | false=>
   refine (jct hb db (some mb) (some nb) _ _ _ _ l' f' kept part U hhU hdU).mono ?_
   rintro e w4 ⟨rfl,g1,g2⟩
   go_wp2
   go_ret
   exact⟨er,rfl,Or.inr ⟨hec,hnn⟩,⟨nb,⟨⟨_,_,(g2.block hb (ltB hhU) hne).trans hhU⟩,⟨_,_,g1⟩,hMU.kept (g2.block mb hMU.map.lt hmd) (fun p hp=>g2.block _ (ltB (hMU.str p hp)) (HPH.out p hp).2),hNU.kept (g2.block nb hNU.map.lt hnd) (fun p hp=>g2.block _ (ltB (hNU.str p hp)) (HPH.out p hp).2),hmn⟩,Or.inl rfl⟩,hKU.then g2 (fun i _ h=>Or.inr h)⟩
  | true=>
   refine (jl4 hb db mb _ _ _ _ _ _ fs kept part U p0 p1 hhU hdU hMU).mono ?_
   rintro e w4 ⟨rfl,nb',g0,g1,g3,g4,g2⟩
   go_wp2
   go_ret
   have hlm:=hMU.map.lt
   exact⟨er,rfl,Or.inr ⟨hec,hnn⟩,⟨nb',⟨⟨_,_,g0⟩,⟨_,_,g1⟩,hMU.kept (g2.block mb hMU.map.lt (fun h=>h.elim hmh hmd)) (fun p hp=>g2.block _ (ltB (hMU.str p hp)) (fun h=>h.elim (HPH.out p hp).1 (HPH.out p hp).2)),g4,by omega⟩,Or.inr (Nat.le_trans hKU.size g3)⟩,hKU.then g2 (fun i _ h=>h)⟩
end Go.Proofs.YtnlgndpcddngoaaGreatDoor
namespace Go.Proofs.YtnlgndpcddngoaaGreatDoor
open Go.RowKit
theorem jgJ (D:Dx)(L:Ld)(q:Rq)(h:Reads q)(t:List Int):runDL D L (q.enc ++ t)=runDL (doD D L q) (doM L q).1 t:=by
 obtain⟨e1,e2,e3⟩:=h t
 rw [jbl D L _ e1,e2,e3,Int.toNat_natCast,List.drop_left]
theorem jgu (D:Dx)(L:Ld):runDL D L []=D:=jbr D L [] (by simp [rdErr])
theorem jjd (bb base:Nat)(lv:Value)(B:Bk)(k:Ky)(w:World)(h:BookAt w bb base lv B)(hl:B.ls.length≤12) :
  Calls Tryz.prog 92 #[.pointer (some ⟨bb,0,none⟩),.agg #[.int .u8 k.k0,.int .u8 k.k1,.int .u8 k.k2,.int .u8 k.k3,.int .u8 k.k4,.int .u8 k.k5,.int .u8 k.k6,.int .u8 k.k7]] w fun e w'=>e=.returned (.bool (idx k B.ls).isSome)∧Below w.heap.size w w':=by
 obtain⟨W,hW⟩:∃ W,W=w.alloc (.cells #[.int .u8 k.k0,.int .u8 k.k1,.int .u8 k.k2,.int .u8 k.k3,.int .u8 k.k4,.int .u8 k.k5,.int .u8 k.k6,.int .u8 k.k7] 63):=⟨_,rfl⟩
 have hB0:Below w.heap.size w W:=hW▸(Below.refl _ w).alloc (Nat.le_refl _) _
 have HF:=hide (jbd bb base lv B k W (h.below hB0 (Nat.le_refl _)) hl)
 have HB0:=hide hB0
 clear h hB0
 go_enter Tryz.func92,Tryz.ntmps92
 go_wp2_with fail
 rw [←hW]
 clear hW
 refine HF.out.mono ?_
 rintro e w1 ⟨rfl,hb1⟩
 have HBW:=hide (HB0.out.trans (hb1.mono HB0.out.size))
 clear hb1
 unfold idxI
 cases hc:idx k B.ls with
 | none=>
  have HC:=hide hc
  clear hc
  dsimp only
  go_wp2_with fail
  go_ret
  exact⟨by rw [HC.out];rfl,HBW.out⟩
 | some i=>
  have hi0:(0:Int)≤(i:Int):=by omega
  have hi1:¬(i:Int)<0:=by omega
  have HC:=hide hc
  clear hc
  dsimp only
  go_wp2_with fail
  go_ret
  exact⟨by rw [HC.out];simp [hi0],HBW.out⟩
def putM (B:Bk)(i:Nat)(l:Ln)(a b:Int):Bk:=⟨B.time,B.ls.set i ⟨l.k,l.kd,l.x,l.y,a,b⟩⟩
theorem jiM (bb base:Nat)(lv:Value)(B:Bk)(k:Ky)(i:Nat)(l:Ln)(a b:Int)(w:World)(h:BookAt w bb base lv B)(hl:B.ls.length≤12)(hx:idx k B.ls=some i)(hi:B.ls[i]?=some l) :
  Calls Tryz.prog 63 #[.pointer (some ⟨bb,0,none⟩),.agg #[.int .u8 k.k0,.int .u8 k.k1,.int .u8 k.k2,.int .u8 k.k3,.int .u8 k.k4,.int .u8 k.k5,.int .u8 k.k6,.int .u8 k.k7],.int .u64 a,.int .u64 b] w fun e w'=>e=.returned (.tuple #[])∧BookAt w' bb base lv (putM B i l a b)∧Keep (fun b=>lv.ownBlock=some b) w w':=by
 obtain⟨W,hW⟩:∃ W,W=w.alloc (.cells #[.int .u8 k.k0,.int .u8 k.k1,.int .u8 k.k2,.int .u8 k.k3,.int .u8 k.k4,.int .u8 k.k5,.int .u8 k.k6,.int .u8 k.k7] 63):=⟨_,rfl⟩
 have hB0:Below w.heap.size w W:=hW▸(Below.refl _ w).alloc (Nat.le_refl _) _
 have hA0:=h.below hB0 (Nat.le_refl _)
 have HF:=hide (jbd bb base lv B k W hA0 hl)
 have HA0:=hide hA0
 have HB0:=hide hB0
 have hix:idxI k B.ls=(i:Int):=by unfold idxI;rw [hx]
 rw [hix] at HF
 have HI:=hide hi
 obtain⟨hlt,_⟩:=List.getElem?_eq_some_iff.1 hi
 have hlt':(i:Int)<(B.ls.length:Int):=by omega
 have hl':(B.ls.length:Int)≤12:=by omega
 have hi0:(0:Int)≤(i:Int):=by omega
 clear h hB0 hA0 hix hx hi
 go_enter Tryz.func63,Tryz.ntmps63
 go_wp2_with fail
 rw [←hW]
 clear hW
 refine HF.out.mono ?_
 rintro e w1 ⟨rfl,hb1⟩
 have hA1:=HA0.out.below hb1 (Nat.le_refl _)
 obtain⟨g,cap,rfl,_,hgl,L,_⟩:=hA1.open HI.out
 have y1:=cellB hA1.hb 0
 have y11:=L.c11
 have y12:=L.c12
 have z11:w1.frozen? ⟨g,i * 13+11,none⟩=false:=hA1.ho.frozenAt _
 have z12:w1.frozen? ⟨g,i * 13+12,none⟩=false:=hA1.ho.frozenAt _
 have hgbb:g≠bb:=jab hA1.ho (g:=g) rfl hA1.hb (by decide)
 have hgbb':bb≠g:=fun e=>hgbb e.symm
 have HA1:=hide hA1
 have HBW:=hide (HB0.out.trans (hb1.mono HB0.out.size))
 clear hb1 hA1 L HF HA0 HB0
 go_wp2_with fail
 go_end0
 refine⟨rfl,?_,?_⟩
 ·exact HA1.out.store HI.out a b
 ·exact ((Keep.of_below (S:=fun b=>(Value.slice (some ⟨g,0,none⟩) B.ls.length cap).ownBlock=some b) HBW.out).set (b:=g) (Or.inl rfl) _ _).set (b:=g) (Or.inl rfl) _ _
end Go.Proofs.YtnlgndpcddngoaaGreatDoor
