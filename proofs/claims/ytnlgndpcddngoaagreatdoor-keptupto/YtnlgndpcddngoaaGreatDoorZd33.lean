import Derived.Test.YtnlgndpcddngoaaGreatDoorZd26
import Derived.Test.YtnlgndpcddngoaaGreatDoorZd30
import Derived.Test.YtnlgndpcddngoaaGreatDoorZd18
import Derived.Test.YtnlgndpcddngoaaGreatDoorZd31
import Derived.Test.YtnlgndpcddngoaaGreatDoorZd32
import Derived.Test.YtnlgndpcddngoaaGreatDoorZd22
import Derived.Test.YtnlgndpcddngoaaGreatDoorZd00
set_option linter.unusedVariables false
set_option linter.unusedSimpArgs false
set_option maxRecDepth 100000
set_option maxHeartbeats 4000000
namespace Go.Proofs.YtnlgndpcddngoaaGreatDoor
open Go.RowKit Go.Maps
def Led.ld (c:Led):Ld:=⟨c.time,c.adm,jad c.es⟩
theorem Qt.ok.fit {q:Qt}(h:q.ok):q.fit:=⟨by rcases h.kd with ⟨h,_⟩ | ⟨h,_⟩ <;> omega,h.x,h.y,h.lv,h.wn⟩
theorem jcJ {es:Es}{p:Ky×Qt}(h:p∈jad es):∃ x∈es,p=(x.1,x.2.1):=by
 unfold jad at h
 obtain⟨x,hx,e⟩:=List.mem_map.1 h
 exact⟨x,hx,e.symm⟩
theorem Led.ok.ld {c:Led}(h:c.ok):c.ld.ok:=by
 refine⟨h.time,h.adm,fun p hp=>?_,fun p hp=>?_,?_,?_⟩
 ·obtain⟨x,hx,rfl⟩:=jcJ hp
  exact h.key x hx
 ·obtain⟨x,hx,rfl⟩:=jcJ hp
  exact h.qt x hx
 ·show ((jad c.es).map Prod.fst).Nodup
  rw [jfO];exact h.nd
 ·show (jad c.es).length≤12
  rw [jcH];exact h.len
theorem jfa (t:Int):0≤nextT t∧nextT t≤18446744073709551615:=by unfold nextT;omega
theorem Kept.ok {c c':Led}{es:Es}(h:Kept c c' es)(hc:c.ok)(nd:(es.map Prod.fst).Nodup)(key:∀ p∈es,p.1.ok)(qt:∀ p∈es,p.2.1.ok)(fit:∀ p∈es,p.2.2.fit)(len:es.length≤12)(res:∀ p∈es,Res c.blk p.2.1 p.2.2)(wnd:∀ p∈es,p.2.2.kd=2→p.2.2.wn≤c.time / p.2.2.y):c'.ok:=by
 obtain⟨ks,a,d,hp,rfl⟩:=h
 exact⟨hc.time,hc.adm,hc.blk,jfa _,nd,key,qt,fit,len,(hc.dur.keep hc.turn hc.time hc.nd hc.key hc.len res wnd hp a).less hc.time.1⟩
theorem Kept.has {c c':Led}{es:Es}(h:Kept c c' es)(hc:c.ok)(res:∀ p∈es,Res c.blk p.2.1 p.2.2)(wnd:∀ p∈es,p.2.2.kd=2→p.2.2.wn≤c.time / p.2.2.y):c'.has c.time:=by
 obtain⟨ks,a,d,hp,rfl⟩:=h
 exact hc.dur.keep hc.turn hc.time hc.nd hc.key hc.len res wnd hp a
theorem Led.has.le {c:Led}{D:Int}(h:c.has D)(hc:c.ok):D≤c.time:=by
 rcases h.img with ⟨_,_,h3⟩ | ⟨tm,_,_,_,h2,h3,_⟩
 ·have:=hc.time.1
  omega
 ·omega
theorem Kept.ld {c c':Led}{es:Es}(h:Kept c c' es):c'.ld=⟨c.time,c.adm,jad es⟩:=by
 obtain⟨ks,a,d,_,rfl⟩:=h
 rfl
theorem Kept.blk {c c':Led}{es:Es}(h:Kept c c' es):c'.blk=c.blk:=by
 obtain⟨ks,a,d,_,rfl⟩:=h
 rfl
def Sm (fsD fsN:Fs):Prop:=∀ b,(fndG b fsN).map Prod.snd=(fndG b fsD).map Prod.snd
theorem Sm.put {fsD fsN:Fs}(h:Sm fsD fsN)(x:Bool)(a d:Nat)(s:ByteArray):Sm (putG x (a,s) fsD) (putG x (d,s) fsN):=fun b=>by
 by_cases hb:b=x
 ·rw [hb,jaE,jaE]
  rfl
 ·rw [jaI _ _ hb,jaI _ _ hb]
  exact h b
theorem Sm.del {fsD fsN:Fs}(h:Sm fsD fsN)(x:Bool)(h1:(fsD.map Prod.fst).Nodup)(h2:(fsN.map Prod.fst).Nodup):Sm (delG x fsD) (delG x fsN):=fun b=>by
 by_cases hb:b=x
 ·rw [hb,jaw h1,jaw h2]
 ·rw [jas hb,jas hb]
  exact h b
def OutQ (w:World)(st:Int)(sb db k:Nat)(c:Led)(F:Nat→Prop)(L:Ld)(b:Option Bool)(w':World):Prop:=
 ∃ c',c'.ok∧c'.ld=L∧(c'.blk=c.blk∧(∀ D,(c.has D∨b=some true∧D=c.time)→c'.has D)∧(b=none→c'=c)∧(Sm c.fsD c.fsN→Sm c'.fsD c'.fsN))∧OutL w st sb db k c' F w'
theorem OutQ.same {w w':World}{st:Int}{sb db k:Nat}{c:Led}{F:Nat→Prop}(hc:c.ok)(h:LedAt w st sb db (k+2) c F)(hb:Below w.heap.size w w'){b:Option Bool}(hbf:b≠some true):OutQ w st sb db k c F c.ld b w':=
 ⟨c,hc,rfl,⟨rfl,fun D hD=>hD.elim id (fun h=>absurd h.1 hbf),fun _=>rfl,id⟩,OutL.same (h.less (by omega)) hb⟩
theorem Kept.all {c c':Led}{es:Es}(h:Kept c c' es)(hc:c.ok)(res:∀ p∈es,Res c.blk p.2.1 p.2.2)(wnd:∀ p∈es,p.2.2.kd=2→p.2.2.wn≤c.time / p.2.2.y)(b:Bool):(∀ D,(c.has D∨some b=some true∧D=c.time)→c'.has D)∧(some b=none→c'=c)∧(Sm c.fsD c.fsN→Sm c'.fsD c'.fsN):=⟨fun D hD=>by
  have h1:=h.has hc res wnd
  rcases hD with h2 | ⟨_,rfl⟩
  · exact Dur.less h1 (h2.le hc)
  · exact h1,(fun h=>absurd h (by simp)),fun hs=>by
  obtain⟨ks,a,d,hp,rfl⟩:=h
  exact hs.put _ _ _ _⟩
def oneB (r:Rp):Bool:=decide (r.c=1)
theorem je4 (st:Int)(sb db k:Nat){c:Led}{F:Nat→Prop}(hc:c.ok){es:Es}(rc ra rb:Int)(nd:(es.map Prod.fst).Nodup)(key:∀ p∈es,p.1.ok)(fit:∀ p∈es,p.2.2.fit)(len:es.length≤12) :
  Hid (∀ w1 mp',LedAt w1 st sb db (k+2) c F→MapE w1 mp' es→¬F mp'→Calls Tryz.prog 134 #[.pointer (some ⟨sb,2,none⟩),.map (some mp'),.agg #[.int .u8 rc,.int .u64 ra,.int .u64 rb]] w1 fun e w'=>e=.returned (.agg #[.int .u8 rc,.int .u64 ra,.int .u64 rb])∧∃ c' F',Kept c c' es∧LedAt w' st sb db k c' F'∧Keep F w1 w'∧∀ b,F' b→F b∨w1.heap.size≤b∨b=mp'):=
 hide (fun w1 mp' h hE hF=>jkq st sb db k mp' c F es rc ra rb w1 h hc hE hF nd key fit len)
theorem jbg {k:Ky}{es:Es}(h:fnd k (jad es)=none):fndG k es=none:=by
 rw [jaP] at h
 cases e:fndG k es with
 | none=>rfl
 | some p=>rw [e] at h;cases h
theorem jb7 {k:Ky}{es:Es}{z:Qt}(h:fnd k (jad es)=some z):∃ z2,fndG k es=some (z,z2):=by
 rw [jaP] at h
 cases e:fndG k es with
 | none=>rw [e] at h;cases h
 | some p=>
  rw [e] at h
  obtain⟨p1,p2⟩:=p
  injection h with h
  exact⟨p2,by rw [←h]⟩
theorem jfj (st:Int)(sb db k:Nat)(c:Led)(F:Nat→Prop)(q:Rq)(w:World)(hop:q.op=3)(hq:q.ok)(hL:LedAt w st sb db (k+2) c F)(hc:c.ok) :
  Calls Tryz.prog 112 #[.pointer (some ⟨sb,2,none⟩),.agg #[.int .u8 q.k0,.int .u8 q.k1,.int .u8 q.k2,.int .u8 q.k3,.int .u8 q.k4,.int .u8 q.k5,.int .u8 q.k6,.int .u8 q.k7]] w fun e w'=>e=.returned (.agg #[.int .u8 (doM c.ld q).2.c,.int .u64 (doM c.ld q).2.a,.int .u64 (doM c.ld q).2.b])∧OutQ w st sb db k c F (doM c.ld q).1 none w':=by
 obtain⟨mp,g,FD,m1,m2,_⟩:=hL.mem
 cases hf:fnd q.key (jad c.es) with
 | none=>
  have e:doM c.ld q=(c.ld,⟨4,0,0⟩):=by
   unfold doM;rw [if_neg (by omega),if_neg (by omega),if_pos hop]
   show (match fnd q.key (jad c.es) with | none=>_ | some z=>_)=_
   rw [hf]
  rw [e]
  refine (jeh sb mp _ _ _ _ c.time c.blk c.es q.key w m1 m2 hq.key (jbg hf)).mono ?_
  rintro e w' ⟨rfl,hb⟩
  exact⟨rfl,OutQ.same hc hL hb (by first | (intro h;cases h;done) | exact (fun h=>Bool.noConfusion (show false=true from Option.some.inj h)))⟩
 | some z=>
  obtain⟨z2,hg⟩:=jb7 hf
  have e:doM c.ld q=(c.ld,⟨1,(turnM z c.time).lv,(turnM z c.time).wn⟩):=by
   unfold doM;rw [if_neg (by omega),if_neg (by omega),if_pos hop]
   show (match fnd q.key (jad c.es) with | none=>_ | some z=>_)=_
   rw [hf];rfl
  rw [e]
  have hz:z.ok:=hc.qt _ (jao hg)
  refine (jef sb mp _ _ _ _ c.time c.blk c.es q.key w m1 m2 hq.key z z2 hg 1 (turnM z c.time).lv (turnM z c.time).wn (hide (fun w1=>jfy z c.time w1 hz hc.time.1 hc.time.2))).mono ?_
  rintro e w' ⟨rfl,hb⟩
  exact⟨rfl,OutQ.same hc hL hb (by first | (intro h;cases h;done) | exact (fun h=>Bool.noConfusion (show false=true from Option.some.inj h)))⟩
theorem je8 (st:Int)(sb db k:Nat)(c:Led)(F:Nat→Prop)(q:Rq)(w:World)(hop:q.op=4)(hq:q.ok)(hL:LedAt w st sb db (k+2) c F)(hc:c.ok) :
  Calls Tryz.prog 113 #[.pointer (some ⟨sb,2,none⟩),.agg #[.int .u8 q.k0,.int .u8 q.k1,.int .u8 q.k2,.int .u8 q.k3,.int .u8 q.k4,.int .u8 q.k5,.int .u8 q.k6,.int .u8 q.k7]] w fun e w'=>e=.returned (.agg #[.int .u8 (doM c.ld q).2.c,.int .u64 (doM c.ld q).2.a,.int .u64 (doM c.ld q).2.b])∧OutQ w st sb db k c F (doM c.ld q).1 (some (oneB (doM c.ld q).2)) w':=by
 obtain⟨mp,g,FD,m1,m2,_⟩:=hL.mem
 cases hf:fnd q.key (jad c.es) with
 | none=>
  have e:doM c.ld q=(c.ld,⟨4,0,0⟩):=by
   unfold doM;rw [if_neg (by omega),if_neg (by omega),if_neg (by omega),if_pos hop]
   show (match fnd q.key (jad c.es) with | none=>_ | some z=>_)=_
   rw [hf]
  rw [e]
  refine (jdG sb mp _ _ _ _ c.time c.blk c.es q.key w m1 m2 hq.key (jbg hf)).mono ?_
  rintro e w' ⟨rfl,hb⟩
  exact⟨rfl,OutQ.same hc hL hb (by first | (intro h;cases h;done) | exact (fun h=>Bool.noConfusion (show false=true from Option.some.inj h)))⟩
 | some z=>
  obtain⟨z2,hg⟩:=jb7 hf
  have e:doM c.ld q=(⟨c.time,c.adm,del q.key (jad c.es)⟩,⟨1,0,0⟩):=by
   unfold doM;rw [if_neg (by omega),if_neg (by omega),if_neg (by omega),if_pos hop]
   show (match fnd q.key (jad c.es) with | none=>_ | some z=>_)=_
   rw [hf];rfl
  rw [e]
  have nd:((delG q.key c.es).map Prod.fst).Nodup:=hc.nd.sublist (jaZ.map _)
  have sub:∀ p∈delG q.key c.es,p∈c.es:=fun p hp=>jaZ.subset hp
  have len:(delG q.key c.es).length≤12:=Nat.le_trans jaZ.length_le hc.len
  refine (jdL sb mp _ _ _ _ c.time c.blk c.es q.key w m1 m2 hq.key z z2 hg st db k c F hc.nd hc.len (hide (fun w1 hb=>hL.below hb (Nat.le_refl _))) hL.lt (je4 st sb db k hc 1 0 0 nd (fun p hp=>hc.key p (sub p hp)) (fun p hp=>hc.fit p (sub p hp)) len)).mono ?_
  rintro e w' ⟨rfl,c',hK,hO⟩
  refine⟨rfl,c',hK.ok hc nd (fun p hp=>hc.key p (sub p hp)) (fun p hp=>hc.qt p (sub p hp)) (fun p hp=>hc.fit p (sub p hp)) len (fun p hp=>hc.dur.res p (sub p hp)) (fun p hp=>hc.dur.wnd p (sub p hp)),?_,⟨hK.blk,hK.all hc (fun p hp=>hc.dur.res p (sub p hp)) (fun p hp=>hc.dur.wnd p (sub p hp)) _⟩,hO⟩
  rw [hK.ld,jcQ]
theorem jiE {k:Ky}{v:Qt×Qt}{es:Es}(h:fndG k es=none):putG k v es=es ++ [(k,v)]:=by unfold putG;rw [h];rfl
theorem jbx {k:Ky}{v:Qt×Qt}{es:Es}(h:(fndG k es).isSome=true):putG k v es=updG k v es:=by unfold putG;rw [if_pos h]
theorem jbv {k:Ky}{v:Qt×Qt}{es:Es}(hk:k.ok)(h:∀ p∈es,p.1.ok):∀ p∈putG k v es,p.1.ok:=fun p hp=>by
 rcases jaW hp with h1 | rfl
 ·exact h p h1
 ·exact hk
theorem jer {k:Ky}{v:Qt×Qt}{es:Es}(hk:v.1.ok)(h:∀ p∈es,p.2.1.ok):∀ p∈putG k v es,p.2.1.ok:=fun p hp=>by
 rcases jaW hp with h1 | rfl
 ·exact h p h1
 ·exact hk
theorem jbF {k:Ky}{v:Qt×Qt}{es:Es}(hk:v.2.fit)(h:∀ p∈es,p.2.2.fit):∀ p∈putG k v es,p.2.2.fit:=fun p hp=>by
 rcases jaW hp with h1 | rfl
 ·exact h p h1
 ·exact hk
theorem jc5 {blk:Int}{k:Ky}{v:Qt×Qt}{es:Es}(hv:Res blk v.1 v.2)(h:∀ p∈es,Res blk p.2.1 p.2.2):∀ p∈putG k v es,Res blk p.2.1 p.2.2:=fun p hp=>by
 rcases jaW hp with h1 | rfl
 ·exact h p h1
 ·exact hv
theorem jc3 {time:Int}{k:Ky}{v:Qt×Qt}{es:Es}(hv:v.2.kd=2→v.2.wn≤time / v.2.y)(h:∀ p∈es,p.2.2.kd=2→p.2.2.wn≤time / p.2.2.y):∀ p∈putG k v es,p.2.2.kd=2→p.2.2.wn≤time / p.2.2.y:=fun p hp=>by
 rcases jaW hp with h1 | rfl
 ·exact h p h1
 ·exact hv
theorem jff {k:Ky}{z z2 zq:Qt}{es:Es}(hg:fndG k es=some (z,z2))(k':Ky):jag es k'=jag (putG k (zq,z2) es) k':=by
 unfold jag
 by_cases h:k'=k
 ·subst h
  rw [jaE,hg]
  rfl
 ·rw [jaI _ _ h]
theorem Dur.cover {D time blk:Int}{es:Es}{turn:Int}{fs:Fs}{k:Ky}{z z2 zq:Qt}(h:Dur D time blk es turn fs)(hg:fndG k es=some (z,z2))(hr:Res blk zq z2):Dur D time blk (putG k (zq,z2) es) turn fs:=by
 have old:(fndG k es).isSome=true:=by rw [hg];rfl
 refine⟨jc5 hr h.res,?_,h.old⟩
 rcases h.img with ⟨h1,h2,_⟩ | ⟨tm,ks,a,h1,h2,h3,h4,h5⟩
 ·rw [h2] at hg
  simp [fndG] at hg
 ·refine Or.inr ⟨tm,ks,a,?_,h2,h3,?_,jc3 (h5 _ (jao hg)) h5⟩
  ·rw [jbx old,jdo]
   exact h1
  ·rw [←jbT turn tm es (putG k (zq,z2) es) ks (fun k' _=>jff hg k')]
   exact h4
theorem jeb (st:Int)(sb db k:Nat)(c:Led)(F:Nat→Prop)(q:Rq)(w:World)(hop:q.op=1)(hq:q.ok)(hL:LedAt w st sb db (k+2) c F)(hc:c.ok) :
  Calls Tryz.prog 109 #[.pointer (some ⟨sb,2,none⟩),.agg #[.int .u8 q.k0,.int .u8 q.k1,.int .u8 q.k2,.int .u8 q.k3,.int .u8 q.k4,.int .u8 q.k5,.int .u8 q.k6,.int .u8 q.k7],.agg #[.int .u8 q.kd,.int .u64 q.x,.int .u64 q.y]] w fun e w'=>e=.returned (.agg #[.int .u8 (doM c.ld q).2.c,.int .u64 (doM c.ld q).2.a,.int .u64 (doM c.ld q).2.b])∧OutQ w st sb db k c F (doM c.ld q).1 (some (oneB (doM c.ld q).2)) w':=by
 obtain⟨mp,g,FD,m1,m2,_⟩:=hL.mem
 by_cases hso:jaL q.kd q.x q.y
 ·cases hf:fnd q.key (jad c.es) with
  | some z=>
   obtain⟨z2,hg⟩:=jb7 hf
   have e:doM c.ld q=(c.ld,⟨9,0,0⟩):=by unfold doM;rw [if_pos hop,if_neg (not_not_intro hso),if_pos (by show (fnd q.key (jad c.es)).isSome=true;rw [hf];rfl)]
   rw [e]
   refine (jes sb mp _ _ _ _ c.time c.blk c.es q.key w m1 m2 hq.key q.kd q.x q.y hso z z2 hg).mono ?_
   rintro e w' ⟨rfl,hb⟩
   exact⟨rfl,OutQ.same hc hL hb (by first | (intro h;cases h;done) | exact (fun h=>Bool.noConfusion (show false=true from Option.some.inj h)))⟩
  | none=>
   have hn:¬(fnd q.key c.ld.ks).isSome=true:=by show ¬(fnd q.key (jad c.es)).isSome=true;rw [hf];simp
   have hlen:c.ld.ks.length=c.es.length:=jcH c.es
   by_cases hl:12≤c.es.length
   ·have e:doM c.ld q=(c.ld,⟨5,0,0⟩):=by unfold doM;rw [if_pos hop,if_neg (not_not_intro hso),if_neg hn,if_pos (by omega)]
    rw [e]
    refine (jgP sb mp _ _ _ _ c.time c.blk c.es q.key w m1 m2 hq.key q.kd q.x q.y hso (jbg hf) hl).mono ?_
    rintro e w' ⟨rfl,hb⟩
    exact⟨rfl,OutQ.same hc hL hb (by first | (intro h;cases h;done) | exact (fun h=>Bool.noConfusion (show false=true from Option.some.inj h)))⟩
   ·have e:doM c.ld q=(⟨c.time,c.adm,jad c.es ++ [(q.key,⟨q.kd,q.x,q.y,0,0⟩)]⟩,⟨1,0,0⟩):=by unfold doM;rw [if_pos hop,if_neg (not_not_intro hso),if_neg hn,if_neg (by omega)];rfl
    rw [e]
    have hqt:(⟨q.kd,q.x,q.y,0,0⟩:Qt).ok:=⟨hso,hq.x,hq.y,by simp,by simp⟩
    have nd:((putG q.key ((⟨q.kd,q.x,q.y,0,0⟩:Qt),(⟨q.kd,q.x,q.y,0,0⟩:Qt)) c.es).map Prod.fst).Nodup:=jb1 hc.nd
    have len:(putG q.key ((⟨q.kd,q.x,q.y,0,0⟩:Qt),(⟨q.kd,q.x,q.y,0,0⟩:Qt)) c.es).length≤12:=Nat.le_trans (jew _ _ _) (by omega)
    refine (jiR sb mp _ _ _ _ c.time c.blk c.es q.key w m1 m2 hq.key q.kd q.x q.y hso (jbg hf) (by omega) st db k c F (hide (fun w1 hb=>hL.below hb (Nat.le_refl _))) hL.lt (je4 st sb db k hc 1 0 0 nd (jbv hq.key hc.key) (jbF hqt.fit hc.fit) len)).mono ?_
    rintro e w' ⟨rfl,c',hK,hO⟩
    refine⟨rfl,c',hK.ok hc nd (jbv hq.key hc.key) (jer hqt hc.qt) (jbF hqt.fit hc.fit) len (jc5 (Res.same hqt hc.blk.1) hc.dur.res) (jc3 (fun hk=>Int.ediv_nonneg hc.time.1 hq.y.1) hc.dur.wnd),?_,⟨hK.blk,hK.all hc (jc5 (Res.same hqt hc.blk.1) hc.dur.res) (jc3 (fun hk=>Int.ediv_nonneg hc.time.1 hq.y.1) hc.dur.wnd) _⟩,hO⟩
    rw [hK.ld,jiE (jbg hf),jgc]
 ·have e:doM c.ld q=(c.ld,⟨8,0,0⟩):=by unfold doM;rw [if_pos hop,if_pos hso]
  rw [e]
  cases hf:fnd q.key (jad c.es) with
  | some z=>
   obtain⟨z2,hg⟩:=jb7 hf
   refine (jhc sb mp _ _ _ _ c.time c.blk c.es q.key w m1 m2 hq.key q.kd q.x q.y hso z z2 hg).mono ?_
   rintro e w' ⟨rfl,hb⟩
   exact⟨rfl,OutQ.same hc hL hb (by first | (intro h;cases h;done) | exact (fun h=>Bool.noConfusion (show false=true from Option.some.inj h)))⟩
  | none=>
   refine (jhw sb mp _ _ _ _ c.time c.blk c.es q.key w m1 m2 hq.key q.kd q.x q.y hso (jbg hf)).mono ?_
   rintro e w' ⟨rfl,hb⟩
   exact⟨rfl,OutQ.same hc hL hb (by first | (intro h;cases h;done) | exact (fun h=>Bool.noConfusion (show false=true from Option.some.inj h)))⟩
def admB (L:Ld)(q:Rq):Ld×Rp:=
 match fnd q.key L.ks with
 | none=>(L,⟨4,0,0⟩)
 | some z=>(⟨L.time,L.adm,upd q.key (admM z L.time q.n).1 L.ks⟩,(admM z L.time q.n).2)
theorem LedAt.turn {w w':World}{st:Int}{sb db k mp:Nat}{c:Led}{F:Nat→Prop}{es:Es}(h:LedAt w st sb db k c F)(hs:∃ s0 s1 s2 s3 s5 s6,w.heap[sb]?=some (.cells #[s0,s1,s2,s3,.map (some mp),s5,s6] 130))(hm:MapE w' mp es)(hk:Keep (fun b=>b=mp) w w'):OutL w st sb db k ⟨c.time,c.adm,c.blk,es,c.turn,c.fsD,c.fsN⟩ F w':=by
 obtain⟨mp2,g,FD,h1,h2,h3,h4,h5,h6,h7,h8,h9,h10,h11,h12,h13⟩:=h.mem
 obtain⟨s0,s1,s2,s3,s5,s6,hs⟩:=hs
 have e:mp2=mp:=by
  rw [h1] at hs
  simp at hs
  exact hs.2.2.2.2.1
 subst e
 refine⟨F,⟨⟨mp2,g,FD,(hk.block sb (h.lt sb h.own) h13).trans h1,hm,h3.kept (hk.block g (h.lt g h7) (fun e=>h10 e.symm)),h4.kept hk.size (fun b hb=>hk.block b (h.lt b (h5 b hb)) (fun e=>h9 (e▸hb))),h5,h6,h7,h8,h9,h10,h11,h12,h13⟩,h.own,fun b hb=>Nat.lt_of_lt_of_le (h.lt b hb) hk.size⟩,hk.mono (fun b e _=>e▸h6),fun b hb=>Or.inl hb⟩
theorem jiu (st:Int)(sb db k:Nat)(c:Led)(F:Nat→Prop)(q:Rq)(w:World)(hq:q.ok)(hL:LedAt w st sb db (k+2) c F)(hc:c.ok) :
  Calls Tryz.prog 111 #[.pointer (some ⟨sb,2,none⟩),.agg #[.int .u8 q.k0,.int .u8 q.k1,.int .u8 q.k2,.int .u8 q.k3,.int .u8 q.k4,.int .u8 q.k5,.int .u8 q.k6,.int .u8 q.k7],.int .u64 q.n] w fun e w'=>e=.returned (.agg #[.int .u8 (admB c.ld q).2.c,.int .u64 (admB c.ld q).2.a,.int .u64 (admB c.ld q).2.b])∧OutQ w st sb db k c F (admB c.ld q).1 (some false) w':=by
 obtain⟨mp,g,FD,m1,m2,_⟩:=hL.mem
 cases hf:fnd q.key (jad c.es) with
 | none=>
  have e:admB c.ld q=(c.ld,⟨4,0,0⟩):=by
   unfold admB
   show (match fnd q.key (jad c.es) with | none=>_ | some z=>_)=_
   rw [hf]
  rw [e]
  refine (jea sb mp _ _ _ _ c.time c.blk c.es q.key w m1 m2 hq.key (jbg hf) q.n).mono ?_
  rintro e w' ⟨rfl,hb⟩
  exact⟨rfl,OutQ.same hc hL hb (by first | (intro h;cases h;done) | exact (fun h=>Bool.noConfusion (show false=true from Option.some.inj h)))⟩
 | some z=>
  obtain⟨z2,hg⟩:=jb7 hf
  have hz:z.ok:=hc.qt _ (jao hg)
  have hz2:z2.fit:=hc.fit _ (jao hg)
  have e:admB c.ld q=(⟨c.time,c.adm,upd q.key (admM z c.time q.n).1 (jad c.es)⟩,(admM z c.time q.n).2):=by
   unfold admB
   show (match fnd q.key (jad c.es) with | none=>_ | some z=>_)=_
   rw [hf];rfl
  rw [e]
  obtain⟨a1,a2,a3⟩:=jgE z c.time q.n hz hc.time.1 hc.time.2 hq.n.1
  have hfc:=jfB z c.time q.n hz hq.n.1
  have hrs:Res c.blk z z2:=hc.dur.res _ (jao hg)
  have hqa:=fun w1=>jfp z c.time q.n w1 hz hc.time.1 hc.time.2 hq.n.1 hq.n.2 _ rfl
  unfold admM
  by_cases hin:(admQ z c.time q.n).2.c=2∧q.n≠0
  ·rw [if_pos hin]
   generalize admQ z c.time q.n=zr at a1 a2 a3 hqa hin hfc
   obtain⟨zq,zc,za,zb⟩:=zr
   obtain⟨h2,hn⟩:=hin
   have h2:zc=2:=h2
   subst h2
   obtain⟨f1,f2,f3,f4,f5,f6⟩:=hfc rfl
   dsimp only at f1 f2 f3 f4 f5 f6
   have hcov:=fun w1=>jkE z2 zq w1
   have old:(fndG q.key c.es).isSome=true:=by rw [hg];rfl
   cases hcv:jb5 z2 zq with
   | true=>
    rw [hcv] at hcov
    refine (jfN sb mp _ _ _ _ c.time c.blk c.es q.key w m1 m2 hq.key z z2 hg q.n zq 2 za zb (hide hqa) (hide rfl) hn hc.len (MapG.lt m2) (hide hcov)).mono ?_
    rintro e w' ⟨rfl,hm,hk⟩
    have hres:Res c.blk zq z2:=by
     refine⟨hrs.ok,hrs.kd.trans f1.symm,hrs.x.trans f2.symm,hrs.y.trans f3.symm,?_,?_,?_⟩
     ·unfold jb5 at hcv
      simp at hcv
      exact hcv.1.symm
     ·unfold jb5 at hcv
      simp at hcv
      exact hcv.2
     ·unfold jb5 at hcv
      simp at hcv
      have e1:=f5 (hcv.1.trans hrs.wn)
      have e2:=hrs.up
      show z2.lv≤zq.lv+c.blk
      omega
    refine⟨rfl,⟨c.time,c.adm,c.blk,putG q.key (zq,z2) c.es,c.turn,c.fsD,c.fsN⟩,⟨hc.time,hc.adm,hc.blk,hc.turn,jb1 hc.nd,jbv hq.key hc.key,jer (v:=(zq,z2)) a1 hc.qt,jbF (v:=(zq,z2)) hz2 hc.fit,?_,hc.dur.cover hg hres⟩,?_,⟨rfl,fun D hD=>hD.elim (fun h=>Dur.cover h hg hres) (fun h=>absurd h.1 (by simp)),(fun h=>absurd h (by simp)),id⟩,(hL.less (by omega)).turn ⟨_,_,_,_,_,_,m1⟩ hm hk⟩
    ·show (putG q.key (zq,z2) c.es).length≤12
     rw [jbx old,jaS];exact hc.len
    ·show (⟨c.time,c.adm,jad (putG q.key (zq,z2) c.es)⟩:Ld)=_
     rw [jbx old,jbN]
   | false=>
    rw [hcv] at hcov
    have hah:(jar zq c.blk).ok:=jdH zq c.blk a1 hc.blk.1
    have nd:((putG q.key (zq,jar zq c.blk) c.es).map Prod.fst).Nodup:=jb1 hc.nd
    have len:(putG q.key (zq,jar zq c.blk) c.es).length≤12:=by rw [jbx old,jaS];exact hc.len
    refine (jfY sb mp _ _ _ _ c.time c.blk c.es q.key w m1 m2 hq.key z z2 hg q.n zq za zb (hide hqa) hn hc.len (hide hcov) (jar zq c.blk) (hide (fun w1=>jfn zq c.blk w1 a1 hc.blk)) st db k c F rfl (hide (fun w1 hb=>hL.below hb (Nat.le_refl _))) hL.lt (je4 st sb db k hc 2 za zb nd (jbv hq.key hc.key) (jbF hah.fit hc.fit) len)).mono ?_
    rintro e w' ⟨rfl,c',hK,hO⟩
    have hrr:=jc5 (k:=q.key) (v:=(zq,jar zq c.blk)) (jcP zq c.blk a1 hc.blk.1 f4) hc.dur.res
    have hww:=jc3 (k:=q.key) (v:=(zq,jar zq c.blk)) (time:=c.time) (fun hk=>by
      have hr:=jcP zq c.blk a1 hc.blk.1 f4
      have e1:(jar zq c.blk).wn=zq.wn:=hr.wn
      have e2:(jar zq c.blk).y=z.y:=hr.y.trans f3
      have e3:z.kd≠1:=fun e=>by have h1:(jar zq c.blk).kd=1:=(hr.kd.trans f1).trans e;have h2:(jar zq c.blk).kd=2:=hk;omega
      show (jar zq c.blk).wn≤c.time / (jar zq c.blk).y
      rw [e1,e2,f6 e3]
      exact Int.le_refl _) hc.dur.wnd
    refine⟨rfl,c',hK.ok hc nd (jbv hq.key hc.key) (jer a1 hc.qt) (jbF hah.fit hc.fit) len hrr hww,?_,⟨hK.blk,hK.all hc hrr hww _⟩,hO⟩
    rw [hK.ld,jbx old,jbN]
  ·rw [if_neg hin,jf0 hf]
   clear hfc
   generalize admQ z c.time q.n=zr at a1 a2 a3 hqa hin
   obtain⟨zq,zc,za,zb⟩:=zr
   have hno:zc≠2∨q.n=0:=by
    by_cases h:zc=2
    ·exact Or.inr (Decidable.byContradiction fun hn=>hin ⟨h,hn⟩)
    ·exact Or.inl h
   refine (jfi sb mp _ _ _ _ c.time c.blk c.es q.key w m1 m2 hq.key z z2 hg q.n zq zc za zb (hide hqa) hno).mono ?_
   rintro e w' ⟨rfl,hb⟩
   exact⟨rfl,OutQ.same hc hL hb (by first | (intro h;cases h;done) | exact (fun h=>Bool.noConfusion (show false=true from Option.some.inj h)))⟩
theorem OutL.fin {w W w':World}{st:Int}{sb db kk:Nat}{c:Led}{F F':Nat→Prop}(hB:Below w.heap.size w W)(hr:w.heap.size+1<W.heap.size)(hF:∀ b,F b→b<w.heap.size)(h1:LedAt w' st sb db kk c F')(h2:Keep F W w')(h3:∀ b,F' b→F b∨W.heap.size≤b)(rc ra rb:Int) :
  OutL w st sb db kk c F (((w'.setCell ⟨w.heap.size+1,0,none⟩ (.int .u8 rc)).setCell ⟨w.heap.size+1,1,none⟩ (.int .u64 ra)).setCell ⟨w.heap.size+1,2,none⟩ (.int .u64 rb)):=
 jcM rc ra rb h1 (Keep.then (S:=F) (Keep.of_below hB) h2 (fun _ _ h=>h)) hF (by omega) (fun b hb=>(h3 b hb).imp_right (fun h=>by omega))
theorem jid (sb:Nat)(st:Int)(db kk:Nat)(cc:Led)(L':Ld)(bb:Option Bool)(F:Nat→Prop)(q:Rq)(c a b:Int)(w:World)(hop:q.op=3)(hS:LedAt w st sb db (kk+2) cc F)
  (hc:Hid (∀ w1,LedAt w1 st sb db (kk+2) cc F→Calls Tryz.prog 112 #[.pointer (some ⟨sb,2,none⟩),.agg #[.int .u8 q.k0,.int .u8 q.k1,.int .u8 q.k2,.int .u8 q.k3,.int .u8 q.k4,.int .u8 q.k5,.int .u8 q.k6,.int .u8 q.k7]] w1 fun e w'=>e=.returned (.agg #[.int .u8 c,.int .u64 a,.int .u64 b])∧OutQ w1 st sb db kk cc F L' bb w')) :
  Calls Tryz.prog 74 #[.pointer (some ⟨sb,0,none⟩),.agg #[.int .u8 q.op,.int .u8 q.k0,.int .u8 q.k1,.int .u8 q.k2,.int .u8 q.k3,.int .u8 q.k4,.int .u8 q.k5,.int .u8 q.k6,.int .u8 q.k7,.int .u8 q.kd,.int .u64 q.x,.int .u64 q.y,.int .u64 q.n]] w fun e w'=>e=.returned (.agg #[.int .u8 c,.int .u64 a,.int .u64 b])∧OutQ w st sb db kk cc F L' bb w':=by
 rw [hop]
 have hFl:=hS.lt
 obtain⟨W,hW⟩:∃ W,W=(w.alloc (.cells #[.int .u8 3,.int .u8 q.k0,.int .u8 q.k1,.int .u8 q.k2,.int .u8 q.k3,.int .u8 q.k4,.int .u8 q.k5,.int .u8 q.k6,.int .u8 q.k7,.int .u8 q.kd,.int .u64 q.x,.int .u64 q.y,.int .u64 q.n] 65)).alloc (.cells #[.int .u8 0,.int .u64 0,.int .u64 0] 40):=⟨_,rfl⟩
 have hB:Below w.heap.size w W:=hW▸((Below.refl _ w).alloc (Nat.le_refl _) _).alloc (by simp) _
 have hk0:W.heap[w.heap.size]?=some (.cells #[.int .u8 3,.int .u8 q.k0,.int .u8 q.k1,.int .u8 q.k2,.int .u8 q.k3,.int .u8 q.k4,.int .u8 q.k5,.int .u8 q.k6,.int .u8 q.k7,.int .u8 q.kd,.int .u64 q.x,.int .u64 q.y,.int .u64 q.n] 65):=hW▸upB (ja1 _ _) _
 have hr0:W.heap[w.heap.size+1]?=some (.cells #[.int .u8 0,.int .u64 0,.int .u64 0] 40):=hW▸heapN (by simp)
 have hSW:=hS.below hB (Nat.le_refl _)
 have a1:=cellB hk0
 have lr:=ltB hr0
 go_enter Tryz.func74,Tryz.ntmps74
 go_upto_region 1 with fail
 rw [←hW]
 clear hW
 go_upto_region 7 with fail
 go_region_with (go_at_call 112;go_loud (refine (hc.out _ hSW.drew).mono ?_;rintro e w2 ⟨rfl,c',hc1,hc2,hc3,F',ho1,ho2,ho3⟩;have HC:=hide (And.intro hc1 (And.intro hc2 hc3));clear hc1 hc2 hc3;have HO1:=hide ho1;clear ho1;have hr2:=(ho2.block _ lr (fun h=>by have:=hFl _ h;omega)).trans hr0;have c2:=cellB hr2;have f2:=ja2 hr2))
 all_goals go_wp2
 all_goals (
   refine bodyPost_ret (v:=.agg #[.int .u8 c,.int .u64 a,.int .u64 b]) (by simp [results,Tryz.results74,go_sem,c2]) rfl ⟨rfl,?_⟩
   exact⟨c',HC.out.1,HC.out.2.1,HC.out.2.2,OutL.fin hB.drew lr hFl HO1.out ho2 ho3 _ _ _⟩)
theorem jhp (sb:Nat)(st:Int)(db kk:Nat)(cc:Led)(L':Ld)(bb:Option Bool)(F:Nat→Prop)(q:Rq)(c a b:Int)(w:World)(hop:q.op=4)(hS:LedAt w st sb db (kk+2) cc F)
  (hc:Hid (∀ w1,LedAt w1 st sb db (kk+2) cc F→Calls Tryz.prog 113 #[.pointer (some ⟨sb,2,none⟩),.agg #[.int .u8 q.k0,.int .u8 q.k1,.int .u8 q.k2,.int .u8 q.k3,.int .u8 q.k4,.int .u8 q.k5,.int .u8 q.k6,.int .u8 q.k7]] w1 fun e w'=>e=.returned (.agg #[.int .u8 c,.int .u64 a,.int .u64 b])∧OutQ w1 st sb db kk cc F L' bb w')) :
  Calls Tryz.prog 74 #[.pointer (some ⟨sb,0,none⟩),.agg #[.int .u8 q.op,.int .u8 q.k0,.int .u8 q.k1,.int .u8 q.k2,.int .u8 q.k3,.int .u8 q.k4,.int .u8 q.k5,.int .u8 q.k6,.int .u8 q.k7,.int .u8 q.kd,.int .u64 q.x,.int .u64 q.y,.int .u64 q.n]] w fun e w'=>e=.returned (.agg #[.int .u8 c,.int .u64 a,.int .u64 b])∧OutQ w st sb db kk cc F L' bb w':=by
 rw [hop]
 have hFl:=hS.lt
 obtain⟨W,hW⟩:∃ W,W=(w.alloc (.cells #[.int .u8 4,.int .u8 q.k0,.int .u8 q.k1,.int .u8 q.k2,.int .u8 q.k3,.int .u8 q.k4,.int .u8 q.k5,.int .u8 q.k6,.int .u8 q.k7,.int .u8 q.kd,.int .u64 q.x,.int .u64 q.y,.int .u64 q.n] 65)).alloc (.cells #[.int .u8 0,.int .u64 0,.int .u64 0] 40):=⟨_,rfl⟩
 have hB:Below w.heap.size w W:=hW▸((Below.refl _ w).alloc (Nat.le_refl _) _).alloc (by simp) _
 have hk0:W.heap[w.heap.size]?=some (.cells #[.int .u8 4,.int .u8 q.k0,.int .u8 q.k1,.int .u8 q.k2,.int .u8 q.k3,.int .u8 q.k4,.int .u8 q.k5,.int .u8 q.k6,.int .u8 q.k7,.int .u8 q.kd,.int .u64 q.x,.int .u64 q.y,.int .u64 q.n] 65):=hW▸upB (ja1 _ _) _
 have hr0:W.heap[w.heap.size+1]?=some (.cells #[.int .u8 0,.int .u64 0,.int .u64 0] 40):=hW▸heapN (by simp)
 have hSW:=hS.below hB (Nat.le_refl _)
 have a1:=cellB hk0
 have lr:=ltB hr0
 go_enter Tryz.func74,Tryz.ntmps74
 go_upto_region 1 with fail
 rw [←hW]
 clear hW
 go_upto_region 9 with fail
 go_region_with (go_at_call 113;go_loud (refine (hc.out _ hSW.drew).mono ?_;rintro e w2 ⟨rfl,c',hc1,hc2,hc3,F',ho1,ho2,ho3⟩;have HC:=hide (And.intro hc1 (And.intro hc2 hc3));clear hc1 hc2 hc3;have HO1:=hide ho1;clear ho1;have hr2:=(ho2.block _ lr (fun h=>by have:=hFl _ h;omega)).trans hr0;have c2:=cellB hr2;have f2:=ja2 hr2))
 all_goals go_wp2
 all_goals (
   refine bodyPost_ret (v:=.agg #[.int .u8 c,.int .u64 a,.int .u64 b]) (by simp [results,Tryz.results74,go_sem,c2]) rfl ⟨rfl,?_⟩
   exact⟨c',HC.out.1,HC.out.2.1,HC.out.2.2,OutL.fin hB.drew lr hFl HO1.out ho2 ho3 _ _ _⟩)
theorem jh4 (sb:Nat)(st:Int)(db kk:Nat)(cc:Led)(L':Ld)(bb:Option Bool)(F:Nat→Prop)(q:Rq)(c a b:Int)(w:World)(hop:q.op=1)(hS:LedAt w st sb db (kk+2) cc F)
  (hc:Hid (∀ w1,LedAt w1 st sb db (kk+2) cc F→Calls Tryz.prog 109 #[.pointer (some ⟨sb,2,none⟩),.agg #[.int .u8 q.k0,.int .u8 q.k1,.int .u8 q.k2,.int .u8 q.k3,.int .u8 q.k4,.int .u8 q.k5,.int .u8 q.k6,.int .u8 q.k7],.agg #[.int .u8 q.kd,.int .u64 q.x,.int .u64 q.y]] w1 fun e w'=>e=.returned (.agg #[.int .u8 c,.int .u64 a,.int .u64 b])∧OutQ w1 st sb db kk cc F L' bb w')) :
  Calls Tryz.prog 74 #[.pointer (some ⟨sb,0,none⟩),.agg #[.int .u8 q.op,.int .u8 q.k0,.int .u8 q.k1,.int .u8 q.k2,.int .u8 q.k3,.int .u8 q.k4,.int .u8 q.k5,.int .u8 q.k6,.int .u8 q.k7,.int .u8 q.kd,.int .u64 q.x,.int .u64 q.y,.int .u64 q.n]] w fun e w'=>e=.returned (.agg #[.int .u8 c,.int .u64 a,.int .u64 b])∧OutQ w st sb db kk cc F L' bb w':=by
 rw [hop]
 have hFl:=hS.lt
 obtain⟨W,hW⟩:∃ W,W=(w.alloc (.cells #[.int .u8 1,.int .u8 q.k0,.int .u8 q.k1,.int .u8 q.k2,.int .u8 q.k3,.int .u8 q.k4,.int .u8 q.k5,.int .u8 q.k6,.int .u8 q.k7,.int .u8 q.kd,.int .u64 q.x,.int .u64 q.y,.int .u64 q.n] 65)).alloc (.cells #[.int .u8 0,.int .u64 0,.int .u64 0] 40):=⟨_,rfl⟩
 have hB:Below w.heap.size w W:=hW▸((Below.refl _ w).alloc (Nat.le_refl _) _).alloc (by simp) _
 have hk0:W.heap[w.heap.size]?=some (.cells #[.int .u8 1,.int .u8 q.k0,.int .u8 q.k1,.int .u8 q.k2,.int .u8 q.k3,.int .u8 q.k4,.int .u8 q.k5,.int .u8 q.k6,.int .u8 q.k7,.int .u8 q.kd,.int .u64 q.x,.int .u64 q.y,.int .u64 q.n] 65):=hW▸upB (ja1 _ _) _
 have hr0:W.heap[w.heap.size+1]?=some (.cells #[.int .u8 0,.int .u64 0,.int .u64 0] 40):=hW▸heapN (by simp)
 have hSW:=hS.below hB (Nat.le_refl _)
 have a1:=cellB hk0
 have lr:=ltB hr0
 go_enter Tryz.func74,Tryz.ntmps74
 go_upto_region 1 with fail
 rw [←hW]
 clear hW
 go_upto_region 3 with fail
 go_region_with (go_at_call 109;go_loud (refine (hc.out _ hSW.drew).mono ?_;rintro e w2 ⟨rfl,c',hc1,hc2,hc3,F',ho1,ho2,ho3⟩;have HC:=hide (And.intro hc1 (And.intro hc2 hc3));clear hc1 hc2 hc3;have HO1:=hide ho1;clear ho1;have hr2:=(ho2.block _ lr (fun h=>by have:=hFl _ h;omega)).trans hr0;have c2:=cellB hr2;have f2:=ja2 hr2))
 all_goals go_wp2
 all_goals (
   refine bodyPost_ret (v:=.agg #[.int .u8 c,.int .u64 a,.int .u64 b]) (by simp [results,Tryz.results74,go_sem,c2]) rfl ⟨rfl,?_⟩
   exact⟨c',HC.out.1,HC.out.2.1,HC.out.2.2,OutL.fin hB.drew lr hFl HO1.out ho2 ho3 _ _ _⟩)
theorem jif (sb:Nat)(st:Int)(db kk:Nat)(cc:Led)(F:Nat→Prop)(q:Rq)(w:World)(hop:q.op=6)(hcc:cc.ok)(hS:LedAt w st sb db (kk+2) cc F) :
  Calls Tryz.prog 74 #[.pointer (some ⟨sb,0,none⟩),.agg #[.int .u8 q.op,.int .u8 q.k0,.int .u8 q.k1,.int .u8 q.k2,.int .u8 q.k3,.int .u8 q.k4,.int .u8 q.k5,.int .u8 q.k6,.int .u8 q.k7,.int .u8 q.kd,.int .u64 q.x,.int .u64 q.y,.int .u64 q.n]] w fun e w'=>e=.returned (.agg #[.int .u8 1,.int .u64 cc.time,.int .u64 0])∧OutQ w st sb db kk cc F cc.ld none w':=by
 rw [hop]
 have hFl:=hS.lt
 obtain⟨W,hW⟩:∃ W,W=(w.alloc (.cells #[.int .u8 6,.int .u8 q.k0,.int .u8 q.k1,.int .u8 q.k2,.int .u8 q.k3,.int .u8 q.k4,.int .u8 q.k5,.int .u8 q.k6,.int .u8 q.k7,.int .u8 q.kd,.int .u64 q.x,.int .u64 q.y,.int .u64 q.n] 65)).alloc (.cells #[.int .u8 0,.int .u64 0,.int .u64 0] 40):=⟨_,rfl⟩
 have hB:Below w.heap.size w W:=hW▸((Below.refl _ w).alloc (Nat.le_refl _) _).alloc (by simp) _
 have hk0:W.heap[w.heap.size]?=some (.cells #[.int .u8 6,.int .u8 q.k0,.int .u8 q.k1,.int .u8 q.k2,.int .u8 q.k3,.int .u8 q.k4,.int .u8 q.k5,.int .u8 q.k6,.int .u8 q.k7,.int .u8 q.kd,.int .u64 q.x,.int .u64 q.y,.int .u64 q.n] 65):=hW▸upB (ja1 _ _) _
 have hr0:W.heap[w.heap.size+1]?=some (.cells #[.int .u8 0,.int .u64 0,.int .u64 0] 40):=hW▸heapN (by simp)
 have hSW:=hS.below hB (Nat.le_refl _)
 have a1:=cellB hk0
 have lr:=ltB hr0
 obtain⟨mp,g,FD,m1,_⟩:=hSW.mem
 go_enter Tryz.func74,Tryz.ntmps74
 go_upto_region 1 with fail
 rw [←hW]
 clear hW
 go_wp2_with fail
 refine (jlh sb _ _ _ _ _ _ cc.time _ m1).mono ?_
 rintro e w2 ⟨rfl,hb2⟩
 have hr2:=(hb2.block _ lr).trans hr0
 have c2:=cellB hr2
 have f2:=ja2 hr2
 clear a1
 go_wp2
 refine bodyPost_ret (v:=.agg #[.int .u8 1,.int .u64 cc.time,.int .u64 0]) (by simp [results,Tryz.results74,go_sem,c2]) rfl ⟨rfl,?_⟩
 exact⟨cc,hcc,rfl,⟨rfl,fun D hD=>hD.elim id (fun h=>absurd h.1 (by simp)),fun _=>rfl,id⟩,OutL.fin hB lr hFl ((hSW.below hb2 (Nat.le_refl _)).less (by omega)) (Keep.of_below hb2) (fun b h=>Or.inl h) _ _ _⟩
end Go.Proofs.YtnlgndpcddngoaaGreatDoor
