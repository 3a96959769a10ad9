import Derived.Test.YtnlgndpcddngoaaGreatDoorZd41
import Derived.Test.YtnlgndpcddngoaaGreatDoorZd40
import Derived.Test.YtnlgndpcddngoaaGreatDoorZd35
import Derived.Test.YtnlgndpcddngoaaGreatDoorZd42
import Derived.Test.YtnlgndpcddngoaaGreatDoorZd00
import Derived.Test.YtnlgndpcddngoaaGreatDoorZd22
set_option linter.unusedVariables false
set_option linter.unusedSimpArgs false
set_option maxRecDepth 100000
set_option maxHeartbeats 4000000
namespace Go.Proofs.YtnlgndpcddngoaaGreatDoor
open Go.RowKit
theorem jjF (bs:List Int)(h:rdErr bs=1):bs.length≤26:=by
 cases bs with
 | nil=>simp
 | cons b0 t=>
  cases t with
  | nil=>simp
  | cons b1 t=>
   simp only [rdErr] at h
   split at h
   ·omega
   ·split at h
    ·rename_i h1 h2
     split at h
     ·rename_i h3
      have:jaf b1≤26:=by (unfold jaf;(repeat' split);all_goals omega)
      omega
     ·omega
    ·omega
theorem jje:∀ (n:Nat) (bs:List Int),bs.length≤n→Bytes bs→2 * (rqL bs).1.length≤bs.length∧((rqL bs).2.2≠2→(rqL bs).2.1.length≤26)∧Bytes (rqL bs).2.1:=by
 intro n
 induction n with
 | zero=>
  intro bs h _
  have e:bs=[]:=List.length_eq_zero_iff.1 (by omega)
  subst e
  rw [jaG [] (by simp [rdErr])]
  exact⟨by simp,fun _=>by simp,fun x hx=>by cases hx⟩
 | succ n ih=>
  intro bs h hb
  by_cases h0:rdErr bs=0
  ·obtain⟨r1,r2,_,_⟩:=jbf bs h0
   rw [jbI bs h0]
   obtain⟨i1,i2,i3⟩:=ih (bs.drop (rdN bs).toNat) (by rw [List.length_drop];omega) (hb.drop _)
   refine⟨?_,i2,i3⟩
   rw [List.length_drop] at i1
   simp only [List.length_cons]
   omega
  ·rw [jaG bs h0]
   refine⟨by simp,fun h2=>?_,hb⟩
   rcases jbt bs with e | e | e
   ·exact absurd e h0
   ·exact jjF bs e
   ·exact absurd e h2
structure LawAt (w:World)(base hb wb bb kb kc:Nat)(blk d:Int)(tb:Nat→Nat)(rv:Nat→Value)(lv:Value)(L:Ld)(B:Bk)(c:Nat→Cn):Prop where
 blk:∃ least:Int,w.heap[wb]?=some (.cells #[.pointer (some ⟨hb,0,none⟩),.pointer (some ⟨bb,0,none⟩),.slice (some ⟨kb,0,none⟩) 3 kc,.int .u64 blk,.bool false,.bool false,.int .u8 0,.int .u8 0,.int .u8 0,.int .u8 0,.int .u8 0,.int .u8 0,.int .u8 0,.int .u8 0,.int .u8 0,.int .u8 0,.int .u64 0,.int .u64 0,.int .u64 0,.int .u64 0,.int .u64 0,.int .u64 least,.int .u64 L.adm] 67)∧least≤d
 book:BookAt w bb base lv B
 sim:Sim d L B
 dl:d≤L.time
 cs:w.ownsRow base 101 1 (.slice (some ⟨kb,0,none⟩) 3 kc) 3 (ptrs tb 3)
 st:∀ i,i<3→w.heap[tb i]?=some (.cells #[rv i,.bool (c i).bad] 103)
 sl:∀ i,i<3→Sl w (rv i) (c i).waits
 inj:∀ i j,i<3→j<3→tb i=tb j→i=j
 dis:∀ i,i<3→(c i).waits≠[]→∀ g o n d,rv i=.slice (some ⟨g,o,none⟩) n d→base≤g∧g≠bb∧g≠wb∧g≠kb∧lv.ownBlock≠some g∧∀ j,j<3→g≠tb j
 lo:base≤wb∧base≤bb∧∀ i,i<3→base≤tb i
 bw:∀ i,i<3→Bytes (c i).waits∧(c i).waits.length≤26∧((c i).bad=true→(c i).waits=[])
 bs:base≤w.heap.size
def LG (wb bb kb:Nat)(tb:Nat→Nat)(rv:Nat→Value)(lv:Value)(c:Nat→Cn)(b:Nat):Prop:=b=wb∨b=bb∨b=kb∨lv.ownBlock=some b∨(∃ i,i<3∧b=tb i)∨∃ i,i<3∧(c i).waits≠[]∧∃ o n d,rv i=.slice (some ⟨b,o,none⟩) n d
def LW (wb bb:Nat)(tb:Nat→Nat)(lv:Value)(b:Nat):Prop:=b=bb∨b=wb∨lv.ownBlock=some b∨∃ i,i<3∧b=tb i
theorem LW.lg {wb bb kb:Nat}{tb:Nat→Nat}{rv:Nat→Value}{lv:Value}{c:Nat→Cn}{b:Nat}(h:LW wb bb tb lv b):LG wb bb kb tb rv lv c b:=by
 rcases h with h | h | h | h
 ·exact Or.inr (Or.inl h)
 ·exact Or.inl h
 ·exact Or.inr (Or.inr (Or.inr (Or.inl h)))
 ·exact Or.inr (Or.inr (Or.inr (Or.inr (Or.inl h))))
theorem LawAt.kbB {w:World}{base hb wb bb kb kc:Nat}{blk d:Int}{tb:Nat→Nat}{rv:Nat→Value}{lv:Value}{L:Ld}{B:Bk}{c:Nat→Cn}(H:LawAt w base hb wb bb kb kc blk d tb rv lv L B c):base≤kb∧kb<w.heap.size∧∃ a fr,w.heap[kb]?=some (.cells a 101 fr):=by
 have h:=ja5 H.cs (g:=kb) rfl
 exact⟨h.1,h.2,jeV H.cs rfl⟩
theorem LawAt.low {w:World}{base hb wb bb kb kc:Nat}{blk d:Int}{tb:Nat→Nat}{rv:Nat→Value}{lv:Value}{L:Ld}{B:Bk}{c:Nat→Cn}(H:LawAt w base hb wb bb kb kc blk d tb rv lv L B c)(b:Nat)(h:LG wb bb kb tb rv lv c b):base≤b∧b<w.heap.size:=by
 obtain⟨least,hw,hle⟩:=H.blk
 rcases h with rfl | rfl | rfl | h | ⟨i,hi,rfl⟩ | ⟨i,hi,hne,o,n,d,h⟩
 ·exact⟨H.lo.1,ltB hw⟩
 ·exact⟨H.lo.2.1,ltB H.book.hb⟩
 ·exact⟨H.kbB.1,H.kbB.2.1⟩
 ·exact ja5 H.book.ho h
 ·exact⟨H.lo.2.2 i hi,ltB (H.st i hi)⟩
 ·exact⟨(H.dis i hi hne _ _ _ _ h).1,(H.sl i hi).lt hne h⟩
theorem LawAt.kept {w w':World}{base hb wb bb kb kc:Nat}{blk d:Int}{tb:Nat→Nat}{rv:Nat→Value}{lv:Value}{L:Ld}{B:Bk}{c:Nat→Cn}(H:LawAt w base hb wb bb kb kc blk d tb rv lv L B c)(hs:w.heap.size≤w'.heap.size)(hk:∀ b,LG wb bb kb tb rv lv c b→w'.heap[b]?=w.heap[b]?):LawAt w' base hb wb bb kb kc blk d tb rv lv L B c:=by
 obtain⟨least,hw,hle⟩:=H.blk
 refine⟨⟨least,(hk wb (Or.inl rfl)).trans hw,hle⟩,⟨(hk bb (Or.inr (Or.inl rfl))).trans H.book.hb,ja7 H.book.ho (fun g hg=>hk g (Or.inr (Or.inr (Or.inr (Or.inl hg)))))⟩,H.sim,H.dl,ja7 H.cs (fun g hg=>hk g (by simp [Value.ownBlock] at hg;subst hg;exact Or.inr (Or.inr (Or.inl rfl)))),fun i hi=>(hk _ (Or.inr (Or.inr (Or.inr (Or.inr (Or.inl ⟨i,hi,rfl⟩)))))).trans (H.st i hi),fun i hi=>(H.sl i hi).keptN hs (fun hne g o n d e _=>hk g (Or.inr (Or.inr (Or.inr (Or.inr (Or.inr ⟨i,hi,hne,o,n,d,e⟩)))))),H.inj,H.dis,H.lo,H.bw,Nat.le_trans H.bs hs⟩
theorem LawAt.fed {w w':World}{base hb wb bb kb kc:Nat}{blk d:Int}{tb:Nat→Nat}{rv:Nat→Value}{lv:Value}{L L2:Ld}{B:Bk}{c:Nat→Cn}(H:LawAt w base hb wb bb kb kc blk d tb rv lv L B c){i:Nat}(hi:i<3){b1:Bool}{lf:List Int}{d2:Int}(hd:d≤d2)(hd2:d2≤L2.time)(hlb:Bytes lf)(hll:lf.length≤26)(hbl:b1=true→lf=[])
  (P:jeo wb bb base kb kc (tb i) (rv i) lv (.pointer (some ⟨hb,0,none⟩)) (.int .u64 blk) (.int .u8 0) (.int .u8 0) (.int .u8 0) (.int .u8 0) (.int .u8 0) (.int .u8 0) (.int .u8 0) (.int .u8 0) (.int .u8 0) (.int .u8 0) (.int .u64 0) (.int .u64 0) (.int .u64 0) (.int .u64 0) (.int .u64 0) d d2 L2 b1 lf w w') :
  ∃ lv' B' rv',LawAt w' base hb wb bb kb kc blk d2 tb (fun j=>if j=i then rv' else rv j) lv' L2 B' (fun j=>if j=i then ⟨lf,b1⟩ else c j)∧Keep (LW wb bb tb lv) w w'∧∀ b,LG wb bb kb tb (fun j=>if j=i then rv' else rv j) lv' (fun j=>if j=i then ⟨lf,b1⟩ else c j) b→LG wb bb kb tb rv lv c b∨w.heap.size≤b:=by
 obtain⟨lv',B',least',rv',p1,p2,p3,p4,p5,p6,p7,p8⟩:=P
 obtain⟨least,hw,hle⟩:=H.blk
 obtain⟨kl1,kl2,ka,kfr,hkb⟩:=H.kbB
 have hsz:=p8.size
 have hnk:kb≠bb∧kb≠wb∧lv.ownBlock≠some kb∧∀ j,j<3→kb≠tb j:=by
  refine⟨fun e=>?_,fun e=>?_,fun e=>jab H.book.ho e hkb (by decide) rfl,fun j hj e=>?_⟩
  ·rw [e,H.book.hb] at hkb;simp at hkb
  ·rw [e,hw] at hkb;simp at hkb
  ·rw [e,H.st j hj] at hkb;simp at hkb
 have hnt:∀ j,j<3→tb j≠bb∧tb j≠wb∧lv.ownBlock≠some (tb j):=fun j hj=>by
  refine⟨fun e=>?_,fun e=>?_,fun e=>jab H.book.ho e (H.st j hj) (by decide) rfl⟩
  ·have:=H.st j hj;rw [e,H.book.hb] at this;simp at this
  ·have:=H.st j hj;rw [e,hw] at this;simp at this
 have hst:∀ j,j<3→j≠i→w'.heap[tb j]?=w.heap[tb j]?:=fun j hj hne=>p8.block _ (ltB (H.st j hj)) (fun e=>by
   obtain⟨h1,h2,h3⟩:=hnt j hj
   rcases e with e | e | e | e
   · exact h1 e
   · exact h2 e
   · exact h3 e
   · exact hne (H.inj j i hj hi e))
 refine⟨lv',B',rv',⟨⟨least',p3,p2.2⟩,p1,p2.1.raise hd,hd2,ja7 H.cs (fun g hg=>?_),fun j hj=>?_,fun j hj=>?_,H.inj,fun j hj=>?_,H.lo,fun j hj=>?_,by have:=H.bs;omega⟩,p8.mono (fun b h _=>?_),fun b h=>?_⟩
 ·simp [Value.ownBlock] at hg
  subst hg
  exact p8.block _ kl2 (fun e=>by
    rcases e with e | e | e | e
    · exact hnk.1 e
    · exact hnk.2.1 e
    · exact hnk.2.2.1 e
    · exact hnk.2.2.2 i hi e)
 ·by_cases e:j=i
  ·rw [if_pos e,if_pos e,e];exact p4
  ·rw [if_neg e,if_neg e];exact (hst j hj e).trans (H.st j hj)
 ·by_cases e:j=i
  ·rw [if_pos e,if_pos e];exact p5
  ·rw [if_neg e,if_neg e]
   refine (H.sl j hj).keptN hsz (fun hne g o n d hv hg=>p8.block g hg (fun e'=>?_))
   obtain⟨_,d1,d2,_,d3,d4⟩:=H.dis j hj hne g o n d hv
   rcases e' with e' | e' | e' | e'
   ·exact d1 e'
   ·exact d2 e'
   ·exact d3 e'
   ·exact d4 i hi e'
 ·by_cases e:j=i
  ·rw [if_pos e,if_pos e]
   intro hne g o n d hv
   obtain⟨q1,q2⟩:=p6 hne g o n d hv
   have h1:=ltB hw
   have h2:=ltB H.book.hb
   have h3:=H.bs
   exact⟨by omega,by omega,by omega,by omega,q2,fun x hx=>by have:=ltB (H.st x hx);omega⟩
  ·rw [if_neg e,if_neg e]
   intro hne g o n d hv
   obtain⟨d0,d1,d2,dk,d3,d4⟩:=H.dis j hj hne g o n d hv
   refine⟨d0,d1,d2,dk,fun e'=>?_,d4⟩
   have hg:=(H.sl j hj).lt hne hv
   rcases p7 g e' with h | h
   ·exact d3 h
   ·omega
 ·by_cases e:j=i
  ·rw [if_pos e];exact⟨hlb,hll,hbl⟩
  ·rw [if_neg e];exact H.bw j hj
 ·rcases h with h | h | h | h
  ·exact Or.inl h
  ·exact Or.inr (Or.inl h)
  ·exact Or.inr (Or.inr (Or.inl h))
  ·exact Or.inr (Or.inr (Or.inr ⟨i,hi,h⟩))
 ·rcases h with h | h | h | h | h | ⟨j,hj,hne,o,n,d,h⟩
  ·exact Or.inl (Or.inl h)
  ·exact Or.inl (Or.inr (Or.inl h))
  ·exact Or.inl (Or.inr (Or.inr (Or.inl h)))
  ·rcases p7 b h with h | h
   ·exact Or.inl (Or.inr (Or.inr (Or.inr (Or.inl h))))
   ·exact Or.inr h
  ·exact Or.inl (Or.inr (Or.inr (Or.inr (Or.inr (Or.inl h)))))
  ·dsimp only at hne h
   by_cases e:j=i
   ·rw [if_pos e] at hne h
    exact Or.inr (p6 hne b o n d h).1
   ·rw [if_neg e] at hne h
    exact Or.inl (Or.inr (Or.inr (Or.inr (Or.inr (Or.inr ⟨j,hj,hne,o,n,d,h⟩)))))
theorem jip (a b:List Rp):encs (a ++ b)=encs a ++ encs b:=by unfold encs;rw [List.flatMap_append]
theorem jeR (base hb wb bb kb kc:Nat)(blk:Int)(tb:Nat→Nat)(rv:Nat→Value)(lv:Value)(D:Dx)(L:Ld)(B:Bk)(c:Nat→Cn)(k now:Int)(i:Nat)(s:ByteArray)(w:World)(H:LawAt w base hb wb bb kb kc blk D.t tb rv lv L B c)(hi:pickM k 3=(i:Int))(hi3:i<3)(k0:-9223372036854775808≤k)(k1:k≤9223372036854775807)(hn0:0≤now)(hn1:now≤18446744073709551615)(hlen:s.size≤60000)
  (rp:ByteArray) (hrp:rp=strOfNums (encs (feedM L (c i) now (jaa s)).2.2)) :
  Calls Tryz.prog 37 #[.pointer (some ⟨wb,0,none⟩),.int .i64 k,.int .u64 now,.string s,.string rp,.bool false] w fun e w'=>e=.returned (.bool true)∧∃ lv' B' rv',LawAt w' base hb wb bb kb kc blk (feedD D L (c i) now (jaa s)).t tb (fun j=>if j=i then rv' else rv j) lv' (feedM L (c i) now (jaa s)).1 B' (fun j=>if j=i then (feedM L (c i) now (jaa s)).2.1 else c j)∧Keep (LW wb bb tb lv) w w'∧∀ b,LG wb bb kb tb (fun j=>if j=i then rv' else rv j) lv' (fun j=>if j=i then (feedM L (c i) now (jaa s)).2.1 else c j) b→LG wb bb kb tb rv lv c b∨w.heap.size≤b:=by
 obtain⟨least,hw,hle⟩:=H.blk
 obtain⟨kl1,kl2,ka,kfr,hkb⟩:=H.kbB
 obtain⟨hbw,hwl,hbd0⟩:=H.bw i hi3
 have hkw:kb≠wb:=fun e=>by rw [e,hw] at hkb;simp at hkb
 have hkt:kb≠bb:=fun e=>by rw [e,H.book.hb] at hkb;simp at hkb
 have hcell:w.cell? ⟨kb,i,none⟩=some (.pointer (some ⟨tb i,0,none⟩)):=by
  rw [H.cs.cellAt i (by omega)]
  unfold ptrs
  rw [List.getElem?_map,List.getElem?_range (by omega)]
  rfl
 have hdis:(c i).waits≠[]→∀ g o n d,rv i=.slice (some ⟨g,o,none⟩) n d→g≠bb∧g≠wb:=fun hne g o n d e=>⟨(H.dis i hi3 hne g o n d e).2.1,(H.dis i hi3 hne g o n d e).2.2.1⟩
 have hst:=H.st i hi3
 have hbase:=H.bs
 cases hbad:(c i).bad with
 | true=>
  have hwe:=hbd0 hbad
  have hci:c i=⟨[],true⟩:=by rw [←hwe,←hbad]
  have hf:=jhA L (c i) now (jaa s) hbad
  rw [hf] at hrp ⊢
  rw [jhv D L (c i) now (jaa s) hbad]
  rw [hbad] at hst
  have hse:∀ U,Sl U (rv i) []:=fun U=>by
   rcases H.sl i hi3 with h | h
   ·exact Or.inl ⟨rfl,h.2⟩
   ·have h1:=h.1
    rw [hwe] at h1
    simp at h1
  have hrp':jaa rp=encs (doL (passM L now) []).2 ++ []:=by
   rw [hrp]
   exact jaO [] (fun x hx=>by cases hx)
  refine (fed33 wb bb base kb kc (tb i) i (rv i) lv _ _ (.int .u8 0) (.int .u8 0) (.int .u8 0) (.int .u8 0) (.int .u8 0) (.int .u8 0) (.int .u8 0) (.int .u8 0) (.int .u8 0) (.int .u8 0) (.int .u64 0) (.int .u64 0) (.int .u64 0) _ _ least D L B k now H.sim hle hn0 hn1 s rp w hw H.book hi hi3 k0 k1 hcell kl2 hkw hkt true true false hst (c i).waits [] [] (H.sl i hi3) (fun U hU _=>?_) (fun q hq=>by cases hq) (by simp) [] rfl hrp' hdis hbase).mono ?_
  ·refine (jee (tb i) (rv i) s U hU).mono ?_
   rintro e w' ⟨rfl,rfl⟩
   exact⟨_,rv i,rfl,World.ownsRow_nil _ _ _ _,Keep.refl _ _,hU,hse _,fun h=>absurd rfl h⟩
  ·rintro e w' ⟨rfl,P⟩
   obtain⟨lv',B',rv',q1,q2,q3⟩:=H.fed hi3 (Int.le_refl _) (Int.le_trans H.dl (jdz L now)) (fun x hx=>by cases hx) (by simp) (fun _=>rfl) P
   have e1:(⟨[],true⟩:Cn)=c i:=hci.symm
   rw [e1] at q1 q3
   exact⟨rfl,lv',B',rv',q1,q2,q3⟩
 | false=>
  rw [hbad] at hst
  obtain⟨bs0,hbs⟩:∃ bs0,bs0=(c i).waits ++ jaa s:=⟨_,rfl⟩
  have hb0:Bytes bs0:=by rw [hbs];exact hbw.app (jbi s)
  have hl0:bs0.length≤61000:=by rw [hbs,List.length_append,jap];omega
  obtain⟨r1,r2,r3⟩:=jje _ bs0 (Nat.le_refl _) hb0
  obtain⟨l,hl⟩:∃ l,l=(rqL bs0).1:=⟨_,rfl⟩
  obtain⟨bd,hbd⟩:∃ bd,bd=decide ((rqL bs0).2.2=2):=⟨_,rfl⟩
  obtain⟨lf,hlf⟩:∃ lf,lf=if (rqL bs0).2.2=2 then [] else (rqL bs0).2.1:=⟨_,rfl⟩
  have hf:=jj0 L (c i) now (jaa s) hbad
  rw [←hbs,←hl] at hf
  have hf':feedM L (c i) now (jaa s)=((doL (passM L now) l).1,⟨lf,bd⟩,(doL (passM L now) l).2 ++ if bd then [⟨6,0,0⟩] else []):=by
   rw [hf]
   by_cases h2:(rqL bs0).2.2=2
   ·rw [if_pos h2,hlf,hbd,if_pos h2];simp [h2]
   ·rw [if_neg h2,hlf,hbd,if_neg h2];simp [h2]
  have hgood:∀ q∈l,q.ok∧q.op∈[1,2,3,4,5,6]:=by rw [hl];exact ji5 _ bs0 (Nat.le_refl _) hb0
  have hpok:=jdK L now H.sim.lok hn0 hn1
  have htold:∀ r∈(doL (passM L now) l).2 ++ (if bd then [⟨6,0,0⟩] else []),r.told:=fun r hr=>by
   rcases List.mem_append.1 hr with h | h
   ·exact jdq _ _ hpok (fun q hq=>(hgood q hq).1) r h
   ·split at h
    ·rw [List.mem_singleton.1 h];exact⟨by decide,by decide,by decide,by decide⟩
    ·cases h
  have hrp':jaa rp=encs (doL (passM L now) l).2 ++ (if bd then jai 6 0 0 else []):=by
   rw [hrp,hf',jaO _ (jaR _ htold),jip]
   congr 1
   split
   ·unfold encs;simp
   ·rfl
  rw [hf']
  have hfd:=jia D L (c i) now (jaa s) hbad
  rw [←hbs,←hl] at hfd
  rw [hfd]
  have hdle:=jh9 l (D:=D) (L:=passM L now) (Int.le_trans H.dl (jdz L now))
  have hlfb:Bytes lf:=by
   rw [hlf]
   split
   ·exact fun x hx=>by cases hx
   ·exact r3
  have hlfl:lf.length≤26:=by
   rw [hlf]
   split
   ·simp
   ·exact r2 (by assumption)
  have hlfe:bd=true→lf=[]:=fun h=>by
   rw [hbd] at h
   rw [hlf,if_pos (of_decide_eq_true h)]
  refine (fed33 wb bb base kb kc (tb i) i (rv i) lv _ _ (.int .u8 0) (.int .u8 0) (.int .u8 0) (.int .u8 0) (.int .u8 0) (.int .u8 0) (.int .u8 0) (.int .u8 0) (.int .u8 0) (.int .u8 0) (.int .u64 0) (.int .u64 0) (.int .u64 0) _ _ least D L B k now H.sim hle hn0 hn1 s rp w hw H.book hi hi3 k0 k1 hcell kl2 hkw hkt false bd bd hst (c i).waits l lf (H.sl i hi3) (fun U hU hS=>?_) hgood (by rw [hl];omega) _ rfl hrp' hdis hbase).mono ?_
  ·refine (jkd (tb i) (rv i) (c i).waits s U hU hS hbw (by omega) bs0 hbs l hl bd hbd lf hlf).mono ?_
   rintro e w' ⟨ov,rv',rfl,q1,q2,q3,q4,q5⟩
   exact⟨ov,rv',rfl,q1,q2,q3,q4,fun _=>q5⟩
  ·rintro e w' ⟨rfl,P⟩
   obtain⟨lv',B',rv',q1,q2,q3⟩:=H.fed hi3 hdle.1 hdle.2 hlfb hlfl hlfe P
   exact⟨rfl,lv',B',rv',q1,q2,q3⟩
end Go.Proofs.YtnlgndpcddngoaaGreatDoor
namespace Go.Proofs.YtnlgndpcddngoaaGreatDoor
open Go.RowKit Go.Maps
structure Nv (w W:World)(hb:Nat)(blk:Int)(D:Dx)(L:Ld)(B:Nat)(G0 P G Q:Nat→Prop):Prop where
 hst:HstAt W hb blk D L B G
 kp:Keep (fun b=>G0 b∨P b) w W
 gg:∀ b,G b→G0 b∨w.heap.size≤b
 bs:B≤W.heap.size
 q:∀ b,Q b→b<W.heap.size∧¬G b
theorem Nv.asked {w W W':World}{hb:Nat}{blk:Int}{D D':Dx}{L L':Ld}{B:Nat}{G0 P G Q G':Nat→Prop}(h:Nv w W hb blk D L B G0 P G Q)(h1:HstAt W' hb blk D' L' B G')(h2:Keep G W W')(h3:∀ b,G' b→G b∨W.heap.size≤b):Nv w W' hb blk D' L' B G0 P G' Q∧∀ b,Q b→W'.heap[b]?=W.heap[b]?:=by
 have hs:=h.kp.size
 refine⟨⟨h1,h.kp.then h2 (fun i hi hG=>?_),fun b hb'=>?_,Nat.le_trans h.bs h2.size,fun b hb'=>?_⟩,fun b hb'=>h2.block b (h.q b hb').1 (h.q b hb').2⟩
 ·rcases h.gg i hG with h' | h'
  ·exact Or.inl h'
  ·omega
 ·rcases h3 b hb' with h' | h'
  ·exact h.gg b h'
  ·exact Or.inr (by omega)
 ·obtain⟨q1,q2⟩:=h.q b hb'
  exact⟨Nat.lt_of_lt_of_le q1 h2.size,fun hG=>(h3 b hG).elim q2 (fun h'=>by omega)⟩
theorem Nv.below {w W W':World}{hb:Nat}{blk:Int}{D:Dx}{L:Ld}{B:Nat}{G0 P G Q:Nat→Prop}(h:Nv w W hb blk D L B G0 P G Q)(hb':Below W.heap.size W W'):Nv w W' hb blk D L B G0 P G Q:=
 ⟨h.hst.quiet hb'.size (fun k hk=>hb'.block k (h.hst.lt k hk)),h.kp.trans (Keep.of_below hb'),h.gg,Nat.le_trans h.bs hb'.size,fun b hb=>⟨Nat.lt_of_lt_of_le (h.q b hb).1 hb'.size,(h.q b hb).2⟩⟩
theorem Nv.wrote {w W W':World}{hb:Nat}{blk:Int}{D:Dx}{L:Ld}{B:Nat}{G0 P G Q S:Nat→Prop}(h:Nv w W hb blk D L B G0 P G Q)(hk:Keep S W W')(hS:∀ b,S b→Q b∧(P b∨w.heap.size≤b)):Nv w W' hb blk D L B G0 P G Q:=by
 have hs:=h.kp.size
 refine⟨h.hst.quiet hk.size (fun k hk'=>hk.block k (h.hst.lt k hk') (fun hSk=>(h.q k (hS k hSk).1).2 hk')),h.kp.then hk (fun i hi hSi=>?_),h.gg,Nat.le_trans h.bs hk.size,fun b hb=>⟨Nat.lt_of_lt_of_le (h.q b hb).1 hk.size,(h.q b hb).2⟩⟩
 rcases (hS i hSi).2 with h' | h'
 ·exact Or.inr h'
 ·omega
theorem Nv.more {w W:World}{hb:Nat}{blk:Int}{D:Dx}{L:Ld}{B:Nat}{G0 P G Q:Nat→Prop}(h:Nv w W hb blk D L B G0 P G Q){x:Nat}(hx:x<W.heap.size∧¬G x):Nv w W hb blk D L B G0 P G (fun b=>Q b∨b=x):=
 ⟨h.hst,h.kp,h.gg,h.bs,fun b hb=>hb.elim (h.q b) (fun e=>e▸hx)⟩
theorem Nv.sub {w W:World}{hb:Nat}{blk:Int}{D:Dx}{L:Ld}{B:Nat}{G0 P G Q Q':Nat→Prop}(h:Nv w W hb blk D L B G0 P G Q)(hq:∀ b,Q' b→Q b):Nv w W hb blk D L B G0 P G Q':=
 ⟨h.hst,h.kp,h.gg,h.bs,fun b hb=>h.q b (hq b hb)⟩
def kc (i:Nat):Ky:=⟨97+i,0,0,0,0,0,0,0⟩
def qc (i:Nat):Rq:=⟨3,97+i,0,0,0,0,0,0,0,0,0,0,0⟩
theorem jlm (wb hb cb base:Nat)(lv:Value)(K:Bk)(blk:Int)(D:Dx)(L:Ld)(B:Nat)(G0 P G Q:Nat→Prop)(w W:World)(h:Nv w W hb blk D L B G0 P G Q)(hw:W.cell? ⟨wb,0,none⟩=some (.pointer (some ⟨hb,0,none⟩)))(hK:BookAt W cb base lv K)(hKl:K.ls.length≤12)(hQ:Q wb∧Q cb∧∀ b,lv.ownBlock=some b→Q b)
  (ha:∀ i,i<4→idx (kc i) K.ls=none→Asks D L (qc i) ⟨4,0,0⟩) :
  Calls Tryz.prog 64 #[.pointer (some ⟨wb,0,none⟩),.pointer (some ⟨cb,0,none⟩)] W fun e w'=>e=.returned (.bool true)∧(∃ G',Nv w w' hb blk D L B G0 P G' Q)∧∀ b,Q b→w'.heap[b]?=W.heap[b]?:=by
 have HN:=hide h
 have HW:=hide hw
 have HK:=hide hK
 have HQ:=hide hQ
 have HA:=hide ha
 clear h hw hK hQ ha
 go_enter Tryz.func64,Tryz.ntmps64
 go_wp2_with fail
 go_loopw [5] (fun s5 wr=>∃ i:Nat,i≤4∧s5=.int .i64 i∧∃ G',Nv w wr hb blk D L B G0 P G' Q∧∀ b,Q b→wr.heap[b]?=W.heap[b]?) (fun s5 _=>4 - (intOf s5).toNat)
 case atStart=>exact⟨0,by omega,rfl,G,HN.out,fun _ _=>rfl⟩
 case round=>
  obtain⟨i,hi,rfl,G1,N1,U1⟩:=hrel
  obtain⟨R,rfl⟩:∃ R,R=wr:=⟨_,rfl⟩
  have HN1:=hide N1
  have HU1:=hide U1
  clear N1 U1
  by_cases hlt:i<4
  ·have hltI:(i:Int)<4:=by omega
   have w1:IntKind.i64.wrap (97+(i:Int))=97+i:=by rw [IntKind.wrap_i64];omega
   have w2:IntKind.u8.wrap (97+(i:Int))=97+i:=by rw [IntKind.wrap_u8];omega
   obtain⟨V,hV⟩:∃ V,V=R.alloc (.cells #[.int .u8 (97+i),.int .u8 0,.int .u8 0,.int .u8 0,.int .u8 0,.int .u8 0,.int .u8 0,.int .u8 0] 63):=⟨_,rfl⟩
   have v0:V.heap[R.heap.size]?=some (.cells #[.int .u8 (97+i),.int .u8 0,.int .u8 0,.int .u8 0,.int .u8 0,.int .u8 0,.int .u8 0,.int .u8 0] 63):=hV▸ja1 _ _
   have hBV:Below R.heap.size R V:=hV▸(Below.refl _ R).alloc (Nat.le_refl _) _
   have hKR:BookAt R cb base lv K:=HK.out.kept (fun k hk=>HU1.out k (by
     rcases hk with rfl | hk
     · exact HQ.out.2.1
     · exact HQ.out.2.2 k hk))
   have HHA:=hide (jjd cb base lv K (kc i) V (hKR.below hBV (Nat.le_refl _)) hKl)
   have HV0:=hide v0
   have HBV:=hide hBV
   clear v0 hBV hKR
   go_upto_region 5 with fail
   rw [←hV]
   clear hV
   have e0:=cellB HV0.out
   go_wp2_with fail
   refine HHA.out.mono ?_
   rintro e w3 ⟨rfl,hb3⟩
   have v3:=(hb3.block R.heap.size (ltB HV0.out)).trans HV0.out
   have hB3:Below R.heap.size R w3:=HBV.out.trans (hb3.mono HBV.out.size)
   have HN3:=hide (HN1.out.below hB3)
   have HU3:Hid (∀ b,Q b→w3.heap[b]?=W.heap[b]?):=hide (fun b hb=>(hB3.block b (HN1.out.q b hb).1).trans (HU1.out b hb))
   have e3:=cellB v3
   clear hb3 hB3 v3 e0
   cases hix:(idx (kc i) K.ls).isSome with
   | true=>
    clear hix
    go_wp2
    go_roundw
    case rel=>exact⟨i+1,by omega,by go_num,G1,HN3.out,HU3.out⟩
    case measure=>simp [intOf];omega
   | false=>
    have hno:idx (kc i) K.ls=none:=by cases h:idx (kc i) K.ls with
     | none=>rfl
     | some x=>rw [h] at hix;cases hix
    have hw3:w3.cell? ⟨wb,0,none⟩=some (.pointer (some ⟨hb,0,none⟩)):=(World.cell?_of_block (w:=W) (HU3.out wb HQ.out.1)).trans HW.out
    have HAS:=hide (ask83 wb hb blk D L B G1 (qc i) ⟨4,0,0⟩ w3 HN3.out.hst HN3.out.bs hw3 (HA.out i hlt hno))
    clear hix hno hw3
    go_wp2_with fail
    refine HAS.out.mono ?_
    rintro e w4 ⟨rfl,G4,g1,g2,g3⟩
    obtain⟨N4,U4⟩:=HN3.out.asked g1 g2 g3
    have HN4:=hide (N4.below ((Below.refl _ w4).alloc (Nat.le_refl _) (.cells #[.int .u8 4,.int .u64 0,.int .u64 0] 40)))
    have HU4:Hid (∀ b,Q b→(w4.alloc (.cells #[.int .u8 4,.int .u64 0,.int .u64 0] 40)).heap[b]?=W.heap[b]?):=hide (fun b hb=>(ja3 _ _ (N4.q b hb).1).trans ((U4 b hb).trans (HU3.out b hb)))
    clear N4 U4 g1 g2 g3 e3
    go_wp2
    go_roundw
    case rel=>exact⟨i+1,by omega,by go_num,G4,HN4.out,HU4.out⟩
    case measure=>simp [intOf];omega
  ·have hltI:¬(i:Int)<4:=by omega
   go_wp2
   go_ret
   exact⟨rfl,⟨G1,HN1.out⟩,HU1.out⟩
def qk8 (k:Ky):Rq:=⟨3,k.k0,k.k1,k.k2,k.k3,k.k4,k.k5,k.k6,k.k7,0,0,0,0⟩
theorem jdN (k:Ky):Reads (qk8 k):=by
 intro t
 have e:Rq.enc (qk8 k)=[9,3,k.k0,k.k1,k.k2,k.k3,k.k4,k.k5,k.k6,k.k7]:=rfl
 have eE:rdErr (Rq.enc (qk8 k) ++ t)=0:=by
  rw [e];simp [rdErr,jaf];omega
 have eQ:=rdQ_3 (Rq.enc (qk8 k) ++ t) eE (by rw [e];exact Or.inl rfl)
 refine⟨eE,?_,?_⟩
 ·unfold rdN;rw [if_pos eE,e];simp
 ·rw [eQ,e];rfl
theorem jjt {L:Ld}(h:L.ok):passM L 0=L:=by
 have:=h.time.1
 unfold passM
 rw [if_neg (by omega)]
theorem jei {D:Dx}{L:Ld}{q:Rq}{r:Rp}(hL:L.ok)(hq:q.ok∧q.byt)(hr:Reads q)(hd:doM L q=(L,r))(hm:q.op=3∨q.op=6)(ht:r.told):Asks D L q r:=by
 have e:encQs [q]=q.enc ++ []:=by simp [encQs]
 refine⟨hq,?_,?_,ht⟩
 ·rw [jfP _ _ _ _ rfl,List.nil_append,e,jjt hL,jj2 _ q hr,hd,ji2]
  rfl
 ·unfold feedD
  rw [if_neg (by simp),List.nil_append,e,jjt hL,jgJ _ _ q hr,hd,jgu]
  unfold doD
  rw [hd]
  have:modB q r=none:=by unfold modB;rw [if_pos hm]
  rw [this]
theorem jjm {k:Ky}(h:k.ok):(qk8 k).ok∧(qk8 k).byt:=⟨⟨h,by simp [qk8],by simp [qk8],by simp [qk8]⟩,⟨by simp [qk8],by simp [qk8]⟩⟩
theorem jjw (L:Ld)(k:Ky):doM L (qk8 k)=(L,match fnd k L.ks with | none=>⟨4,0,0⟩ | some z=>⟨1,(turnM z L.time).lv,(turnM z L.time).wn⟩):=by
 have hk:(qk8 k).key=k:=rfl
 unfold doM
 rw [if_neg (by simp [qk8]),if_neg (by simp [qk8]),if_pos (by simp [qk8]),hk]
 cases fnd k L.ks <;> rfl
theorem jgy {D:Dx}{L:Ld}{k:Ky}{z:Qt}(hL:L.ok)(hk:k.ok)(hf:fnd k L.ks=some z):Asks D L (qk8 k) ⟨1,(turnM z L.time).lv,(turnM z L.time).wn⟩:=by
 have hz:z.ok:=by
  rw [fnd_G] at hf
  exact hL.qt _ (jao hf)
 have ho:=jcc z L.time hz hL.time.1 hL.time.2
 exact jei hL (jjm hk) (jdN k) (by rw [jjw,hf]) (Or.inl rfl) ⟨by simp,by simp,ho.lv,ho.wn⟩
theorem jgH {D:Dx}{L:Ld}{k:Ky}(hL:L.ok)(hk:k.ok)(hf:fnd k L.ks=none):Asks D L (qk8 k) ⟨4,0,0⟩:=
 jei hL (jjm hk) (jdN k) (by rw [jjw,hf]) (Or.inl rfl) ⟨by simp,by simp,by simp,by simp⟩
theorem jiG {D:Dx}{L:Ld}(hL:L.ok):Asks D L qClk ⟨1,L.time,0⟩:=by
 have ht:=hL.time
 have hd:doM L qClk=(L,⟨1,L.time,0⟩):=by
  unfold doM
  rw [if_neg (by simp [qClk]),if_neg (by simp [qClk]),if_neg (by simp [qClk]),if_neg (by simp [qClk]),if_pos (by simp [qClk])]
 exact jei hL ⟨⟨⟨by simp [qClk,Rq.key],by simp [qClk,Rq.key],by simp [qClk,Rq.key],by simp [qClk,Rq.key],by simp [qClk,Rq.key],by simp [qClk,Rq.key],by simp [qClk,Rq.key],by simp [qClk,Rq.key]⟩,by simp [qClk],by simp [qClk],by simp [qClk]⟩,⟨by simp [qClk],by simp [qClk]⟩⟩ jgD hd (Or.inr rfl) ⟨by simp,by simp,ht,by simp⟩
theorem kc_ok (i:Nat)(h:i<4):(kc i).ok:=⟨by simp [kc];omega,by simp [kc],by simp [kc],by simp [kc],by simp [kc],by simp [kc],by simp [kc],by simp [kc]⟩
def lnR (T:Int)(p:Ky×Qt)(l:Ln):Ln:=⟨l.k,l.kd,l.x,l.y,(turnM p.2 T).lv,(turnM p.2 T).wn⟩
def Pos (blk T:Int):List (Ky×Qt)→List Ln→Prop
 | [],[]=>True
 | p :: r,l :: s=>(p.1=l.k∧StOk blk T l (turnM p.2 T).lv (turnM p.2 T).wn)∧Pos blk T r s
 | _,_=>False
theorem Pos.len {blk T:Int}:∀ {ks:List (Ky×Qt)}{ls:List Ln},Pos blk T ks ls→ks.length=ls.length
 | [],[],_=>rfl
 | [],_ :: _,h=>h.elim
 | _ :: _,[],h=>h.elim
 | _ :: _,_ :: _,h=>by simp only [List.length_cons];rw [Pos.len h.2]
theorem Pos.at {blk T:Int}:∀ {ks:List (Ky×Qt)}{ls:List Ln},Pos blk T ks ls→∀ (i:Nat) (h1:i<ks.length) (h2:i<ls.length),ks[i].1=ls[i].k∧StOk blk T ls[i] (turnM ks[i].2 T).lv (turnM ks[i].2 T).wn
 | p :: r,l :: s,h,0,_,_=>h.1
 | p :: r,l :: s,h,i+1,h1,h2=>Pos.at h.2 i (by simpa using h1) (by simpa using h2)
 | [],_,_,_,h1,_=>by simp at h1
 | _ :: _,[],h,_,_,_=>h.elim
def recL (T:Int)(ks:List (Ky×Qt))(ls:List Ln)(i:Nat):List Ln:=(List.zipWith (lnR T) ks ls).take i ++ ls.drop i
theorem jjb (T:Int)(ks:List (Ky×Qt))(ls:List Ln)(i:Nat)(h:ks.length=ls.length):(recL T ks ls i).length=ls.length:=by
 unfold recL
 rw [List.length_append,List.length_take,List.length_zipWith,List.length_drop,h]
 omega
theorem jiQ (T:Int)(ks:List (Ky×Qt))(ls:List Ln)(i:Nat)(h:ks.length=ls.length)(hi:i<ls.length):(recL T ks ls i)[i]?=some ls[i]:=by
 unfold recL
 have h1:((List.zipWith (lnR T) ks ls).take i).length=i:=by rw [List.length_take,List.length_zipWith,h];omega
 rw [List.getElem?_append_right (by omega),h1,Nat.sub_self,List.getElem?_drop,Nat.add_zero]
 exact List.getElem?_eq_getElem hi
theorem jgk (T:Int)(ks:List (Ky×Qt))(ls:List Ln)(i:Nat)(h:ks.length=ls.length)(hi:i<ls.length)(hk:i<ks.length):(recL T ks ls i).set i (lnR T ks[i] ls[i])=recL T ks ls (i+1):=by
 unfold recL
 have h1:((List.zipWith (lnR T) ks ls).take i).length=i:=by rw [List.length_take,List.length_zipWith,h];omega
 have h2:i<(List.zipWith (lnR T) ks ls).length:=by rw [List.length_zipWith,h];omega
 rw [List.set_append_right _ _ (by omega),h1,Nat.sub_self,List.drop_eq_getElem_cons hi,List.set_cons_zero,List.take_add_one,List.getElem?_eq_getElem h2,List.getElem_zipWith,List.append_assoc]
 rfl
theorem jge (T:Int)(ks:List (Ky×Qt))(ls:List Ln)(h:ks.length=ls.length)(i:Nat):(recL T ks ls i).map Ln.k=ls.map Ln.k:=by
 unfold recL
 rw [List.map_append,List.map_take,List.map_drop]
 have:(List.zipWith (lnR T) ks ls).map Ln.k=ls.map Ln.k:=by
  rw [List.map_zipWith]
  show List.zipWith (fun _ b=>b.k) ks ls=_
  clear i
  induction ks generalizing ls with
  | nil=>cases ls with
   | nil=>rfl
   | cons a b=>simp at h
  | cons p r ih=>cases ls with
   | nil=>simp at h
   | cons a b=>simp only [List.zipWith_cons_cons,List.map_cons];rw [ih b (by simpa using h)]
 rw [this,List.take_append_drop]
theorem jeD (k:Ky):∀ (l m:List Ln),l.map Ln.k=m.map Ln.k→idx k l=idx k m
 | [],[],_=>rfl
 | [],_ :: _,h=>by simp at h
 | _ :: _,[],h=>by simp at h
 | a :: r,b :: s,h=>by
  simp only [List.map_cons,List.cons.injEq] at h
  unfold idx
  rw [h.1,jeD k r s h.2]
theorem jjc (ls:List Ln)(nd:(ls.map Ln.k).Nodup)(i:Nat)(hi:i<ls.length):idx ls[i].k ls=some i:=by
 refine jdb ls i (fun j hj hji e=>?_) hi rfl
 have hne:=List.pairwise_iff_getElem.1 nd j i (by simpa using hj) (by simpa using hi) hji
 simp at hne
 exact hne e
theorem Pos.keys {blk T:Int}:∀ {ks:List (Ky×Qt)}{ls:List Ln},Pos blk T ks ls→ks.map Prod.fst=ls.map Ln.k
 | [],[],_=>rfl
 | [],_ :: _,h=>h.elim
 | _ :: _,[],h=>h.elim
 | p :: r,l :: s,h=>by simp only [List.map_cons];rw [h.1.1,Pos.keys h.2]
theorem Pos.none_ {blk T:Int}{ks:List (Ky×Qt)}{ls:List Ln}(h:Pos blk T ks ls){k:Ky}(hk:idx k ls=none):fnd k ks=none:=by
 rw [fnd_G]
 refine jaM (fun hm=>?_)
 rw [h.keys] at hm
 have:∀ (l:List Ln),idx k l=none→k ∉ l.map Ln.k:=by
  intro l
  induction l with
  | nil=>intro _ h;cases h
  | cons a r ih=>
   intro h hm
   unfold idx at h
   by_cases e:a.k=k
   ·rw [if_pos e] at h;cases h
   ·rw [if_neg e] at h
    rcases List.mem_cons.1 hm with h' | h'
    ·exact e h'.symm
    ·refine ih ?_ h'
     cases h2:idx k r with
     | none=>rfl
     | some x=>rw [h2] at h;cases h
 exact this ls hk hm
theorem Pos.some_ {blk T:Int}{ks:List (Ky×Qt)}{ls:List Ln}(h:Pos blk T ks ls)(nd:(ks.map Prod.fst).Nodup)(i:Nat)(h1:i<ks.length)(h2:i<ls.length):fnd ls[i].k ks=some ks[i].2:=by
 rw [fnd_G,←(h.at i h1 h2).1]
 exact jak nd (List.getElem_mem h1)
theorem jgj {w:World}{bb base:Nat}{lv:Value}{B:Bk}(h:BookAt w bb base lv B)(T:Int):BookAt (w.setCell ⟨bb,1,none⟩ (.int .u64 T)) bb base lv ⟨T,B.ls⟩:=
 ⟨by simpa using ja4 h.hb 1 (.int .u64 T),ja7 h.ho (fun g hg=>ja0 (jab h.ho hg h.hb (by decide)) _ _)⟩
theorem st_ok {blk T T' d:Int}{z z':Qt}{l:Ln}(h:jaC T d z l)(hz:z.ok)(hd:d≤T')(hr:Res blk z z')(hw:z'.kd=2→z'.wn≤T' / z'.y):StOk blk T' l (turnM z' T').lv (turnM z' T').wn:=by
 have r1:=hr.lo
 have r2:=hr.up
 have r3:=hr.wn
 have rk:=hr.kd
 have ry:=hr.y
 have z0:=hz.lv.1
 unfold StOk
 by_cases hk:z.kd=1
 ·have e1:l.kd=1:=by rw [←h.kd];exact hk
  obtain⟨s1,s2⟩:=h.s hk
  rw [if_neg (by omega)]
  unfold turnM
  rw [if_pos (by omega)]
  omega
 ·have hk2:z.kd=2:=by rcases hz.kd with h | h <;> omega
  have e1:l.kd=2:=by rw [←h.kd];exact hk2
  have hw':=hw (by omega)
  obtain⟨w1,w2⟩:=h.w hk
  have ey:z'.y=l.y:=ry.trans h.y
  have hyp:1≤z.y:=by rcases hz.kd with h | h <;> omega
  have hdy:d / z.y≤T' / z.y:=Int.ediv_le_ediv (by omega) hd
  rw [h.y] at hdy w1
  rw [if_pos e1]
  unfold turnM
  rw [if_neg (by omega)]
  rw [ey] at hw' ⊢
  by_cases ht:T' / l.y=z'.wn
  ·rw [if_pos ht]
   refine⟨⟨by omega,?_⟩,?_⟩
   ·rcases w1 with h1 | h1 | h1 <;> omega
   ·split
    ·rcases w1 with h1 | h1 | h1 <;> omega
    ·rcases w1 with h1 | h1 | h1 <;> omega
  ·rw [if_neg ht]
   dsimp only
   refine⟨⟨rfl,?_⟩,?_⟩
   ·rcases w1 with h1 | h1 | h1 <;> omega
   ·split
    ·rcases w1 with h1 | h1 | h1 <;> omega
    ·omega
theorem jlE {blk T T' d:Int}{z z':Qt}{l:Ln}{k:Ky}(h:jaC T d z l)(hz:z.ok)(hr:Res blk z z')(hw:z'.kd=2→z'.wn≤T' / z'.y):jaC T' T' z' (lnR T' (k,z') l):=by
 have rk:=hr.kd
 refine⟨rk.trans h.kd,hr.x.trans h.x,hr.y.trans h.y,fun hk=>?_,fun hk=>?_⟩
 ·have:=h.s (by omega)
  have:=hr.wn
  unfold lnR turnM
  dsimp only
  rw [if_pos hk]
  exact⟨rfl,by omega⟩
 ·have hk2:z'.kd=2:=by rcases hr.ok.kd with h | h <;> omega
  have:=hw hk2
  unfold lnR turnM
  dsimp only
  rw [if_neg hk]
  by_cases ht:T' / z'.y=z'.wn
  ·rw [if_pos ht]
   exact⟨Or.inl ⟨rfl,rfl⟩,by omega⟩
  ·rw [if_neg ht]
   exact⟨Or.inr (Or.inr ⟨rfl,by dsimp only;omega,Int.le_refl _,Int.le_refl _⟩),by omega⟩
theorem jhu {blk T T' d:Int}{zz:Bool}(hd:d≤T'):∀ {ks ks':List (Ky×Qt)}{ls:List Ln},Lines T d ks ls→(∀ p∈ks,p.2.ok)→Pw blk zz T' ks ks'→Pos blk T' ks' ls
 | [],[],[],_,_,_=>trivial
 | (k,z) :: r,(k',z') :: r',l :: s,h,ho,hp=>⟨⟨hp.1.trans h.1,st_ok h.2.1 (ho (k,z) (by simp)) hd hp.2.1 hp.2.2.1⟩,jhu hd h.2.2 (fun p hp'=>ho p (List.mem_cons_of_mem _ hp')) hp.2.2.2.2⟩
 | [],_ :: _,_,_,_,hp=>hp.elim
 | _ :: _,[],_,_,_,hp=>hp.elim
 | [],[],_ :: _,h,_,_=>h.elim
 | _ :: _,_ :: _,[],h,_,_=>h.elim
theorem jeY {blk T T' d:Int}{zz:Bool}:∀ {ks ks':List (Ky×Qt)}{ls:List Ln},Lines T d ks ls→(∀ p∈ks,p.2.ok)→Pw blk zz T' ks ks'→Lines T' T' ks' (List.zipWith (lnR T') ks' ls)
 | [],[],[],_,_,_=>trivial
 | (k,z) :: r,(k',z') :: r',l :: s,h,ho,hp=>⟨hp.1.trans h.1,jlE h.2.1 (ho (k,z) (by simp)) hp.2.1 hp.2.2.1,jeY h.2.2 (fun p hp'=>ho p (List.mem_cons_of_mem _ hp')) hp.2.2.2.2⟩
 | [],_ :: _,_,_,_,hp=>hp.elim
 | _ :: _,[],_,_,_,hp=>hp.elim
 | [],[],_ :: _,h,_,_=>h.elim
 | _ :: _,_ :: _,[],h,_,_=>h.elim
theorem jhQ (T:Int)(ks:List (Ky×Qt))(ls:List Ln)(h:ks.length=ls.length):recL T ks ls ls.length=List.zipWith (lnR T) ks ls:=by
 unfold recL
 rw [List.drop_length,List.append_nil,List.take_of_length_le (by rw [List.length_zipWith];omega)]
def recB (L:Ld)(B:Bk):Bk:=⟨L.time,List.zipWith (lnR L.time) L.ks B.ls⟩
theorem jle {T:Int}{p:Ky×Qt}{l:Ln}(hT:0≤T∧T≤18446744073709551615)(hp:p.2.ok)(hl:l.ok):(lnR T p l).ok:=by
 have h:=jcc p.2 T hp hT.1 hT.2
 exact⟨hl.kd,hl.x,hl.y,h.lv,h.wn⟩
theorem jjv {T:Int}(hT:0≤T∧T≤18446744073709551615):∀ {ks:List (Ky×Qt)}{ls:List Ln},(∀ p∈ks,p.2.ok)→(∀ l∈ls,l.ok)→∀ l∈List.zipWith (lnR T) ks ls,l.ok
 | [],_,_,_,l,h=>by simp at h
 | _ :: _,[],_,_,l,h=>by simp at h
 | p :: r,a :: s,hk,hl,l,h=>by
  rw [List.zipWith_cons_cons] at h
  rcases List.mem_cons.1 h with h | h
  ·rw [h];exact jle hT (hk p (by simp)) (hl a (by simp))
  ·exact jjv hT (fun p hp=>hk p (List.mem_cons_of_mem _ hp)) (fun l hl'=>hl l (List.mem_cons_of_mem _ hl')) l h
theorem Sim.rec_ {blk:Int}{D:Dx}{L L':Ld}{B:Bk}(h:Sim D.t L B)(hr:Rc blk D L L')(hl:L'.ok):Sim L'.time L' (recB L' B):=by
 refine⟨rfl,jeY h.lines h.lok.qt hr.pw,hl,⟨hl.time,?_,jjv hl.time hl.qt h.bok.ln⟩⟩
 show (List.zipWith (lnR L'.time) L'.ks B.ls).length≤12
 rw [List.length_zipWith]
 have:=h.bok.len
 omega
theorem jhh {blk T:Int}:∀ {ks ks':List (Ky×Qt)},Pw blk true T ks ks'→ks'=ks
 | [],[],_=>rfl
 | (k,z) :: r,(k',z') :: r',h=>by
  have e1:=h.1
  have e2:=h.2.2.2.1 rfl
  have e3:=jhh h.2.2.2.2
  rw [e1,e2,e3]
 | [],_ :: _,h=>h.elim
 | _ :: _,[],h=>h.elim
theorem Rc.same {blk:Int}{L L':Ld}(h:Rc blk ⟨L.time,true⟩ L L'):L'=⟨L.time,0,L.ks⟩:=by
 have e1:=jhh h.pw
 have e2:=h.time
 have e3:L.time≤L'.time:=h.dt
 have e4:=h.adm
 cases L'
 simp only at e1 e2 e3 e4
 rw [e1,e4]
 congr
 omega
theorem jdC (T:Int):∀ (ks:List (Ky×Qt)) (ls:List Ln),ks.length=ls.length→List.zipWith (lnR T) ks (List.zipWith (lnR T) ks ls)=List.zipWith (lnR T) ks ls
 | [],_,_=>by simp
 | _ :: _,[],_=>by simp
 | p :: r,l :: s,h=>by
  simp only [List.zipWith_cons_cons]
  rw [jdC T r s (by simpa using h)]
  rfl
theorem jdS {T:Int}:∀ {ks:List (Ky×Qt)}{ls:List Ln},(∀ p∈ks,p.2.ok)→Lines T T ks ls→Pos 0 T ks ls
 | [],[],_,_=>trivial
 | (k,z) :: r,l :: s,ho,hl=>by
  have hz:=ho (k,z) (by simp)
  refine⟨⟨hl.1,?_⟩,jdS (fun p hp=>ho p (List.mem_cons_of_mem _ hp)) hl.2.2⟩
  exact st_ok (blk:=0) hl.2.1 hz (Int.le_refl _) (Res.same hz (Int.le_refl _)) (fun hk=>(hl.2.1.w (by show z.kd≠1;have h2:z.kd=2:=hk;omega)).2)
 | [],_ :: _,_,h=>h.elim
 | _ :: _,[],_,h=>h.elim
theorem Lines.keys {T d:Int}:∀ {ks:List (Ky×Qt)}{ls:List Ln},Lines T d ks ls→ks.map Prod.fst=ls.map Ln.k
 | [],[],_=>rfl
 | (k,z) :: r,l :: s,h=>by simp only [List.map_cons];rw [h.1,Lines.keys h.2.2]
 | [],_ :: _,h=>h.elim
 | _ :: _,[],h=>h.elim
theorem Sim.nd {d:Int}{L:Ld}{B:Bk}(h:Sim d L B):(B.ls.map Ln.k).Nodup:=h.lines.keys▸h.lok.nd
theorem Sim.kok {d:Int}{L:Ld}{B:Bk}(h:Sim d L B):∀ l∈B.ls,l.k.ok:=fun l hl=>by
 have:l.k∈L.ks.map Prod.fst:=by rw [h.lines.keys];exact List.mem_map_of_mem hl
 obtain⟨p,hp,e⟩:=List.mem_map.1 this
 rw [←e]
 exact h.lok.key p hp
end Go.Proofs.YtnlgndpcddngoaaGreatDoor
