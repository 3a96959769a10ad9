import Derived.Test.YtnlgndpcddngoaaGreatDoorZd21
import Derived.Test.YtnlgndpcddngoaaGreatDoorZd00
import Derived.Test.YtnlgndpcddngoaaGreatDoorZd18
import Derived.LoopN
import Derived.Deep.QuietTactic
import Derived.BigQuiet
import Derived.Shelf.SlicesE.Index
import Derived.Deep.RegionHeld3
import Derived.Deep.DeepCutAuto
import Derived.Maps.RangeWalk
import Derived.Laws.IdiomRangeMap
import Derived.Carry
import Derived.Test.YtnlgndpcddngoaaGreatDoorZd11
import Derived.Laws.StructEq
set_option linter.unusedVariables false
set_option linter.unusedSimpArgs false
set_option maxRecDepth 100000
set_option maxHeartbeats 4000000
namespace Go.Proofs.YtnlgndpcddngoaaGreatDoor
open Go.RowKit Go.Maps
structure Ig where
 turn:Int
 time:Int
 es:Es
 ks:List Ky
structure Ig.ok (i:Ig):Prop where
 turn:0≤i.turn∧i.turn≤18446744073709551615
 time:0≤i.time∧i.time≤18446744073709551615
 len:i.ks.length≤12
 rec_:∀ k∈i.ks,k.ok∧(jag i.es k).ok
def Ig.bytes (i:Ig):List Int:=imgB i.turn i.time i.es i.ks
theorem Ig.ok.byt {i:Ig}(h:i.ok):Bytes i.bytes:=by
 have hfit:∀ k∈i.ks,k.ok∧(jag i.es k).fit:=fun k hk=>⟨(h.rec_ k hk).1,⟨by rcases (h.rec_ k hk).2.kd with h | h <;> omega,(h.rec_ k hk).2.x,(h.rec_ k hk).2.y,(h.rec_ k hk).2.lv,(h.rec_ k hk).2.wn⟩⟩
 intro b hb
 unfold Ig.bytes imgB at hb
 exact (List.mem_append.1 hb).elim (jbS i.turn i.time i.es i.ks h.len hfit b) (jaq _ b)
theorem Ig.blen (i:Ig):i.bytes.length=25+41 * i.ks.length:=by
 unfold Ig.bytes imgB
 rw [List.length_append,jbK]
 have:(be8 (sumM (imgA i.turn i.time i.es i.ks))).length=8:=rfl
 omega
structure Res (blk:Int)(st hd:Qt):Prop where
 ok:hd.ok
 kd:hd.kd=st.kd
 x:hd.x=st.x
 y:hd.y=st.y
 wn:hd.wn=st.wn
 lo:st.lv≤hd.lv
 up:hd.lv≤st.lv+blk
theorem Res.same {blk:Int}{q:Qt}(h:q.ok)(hb:0≤blk):Res blk q q:=⟨h,rfl,rfl,rfl,rfl,Int.le_refl _,by omega⟩
structure Dur (D time blk:Int)(es:Es)(turn:Int)(fs:Fs):Prop where
 res:∀ p∈es,Res blk p.2.1 p.2.2
 img:(fs=[]∧es=[]∧D≤0)∨∃ (tm:Int) (ks:List Ky) (a:Nat),ks.Perm (es.map Prod.fst)∧(0≤tm∧D≤tm)∧tm≤time∧fndG (turn % 2==1) fs=some (a,strOfNums (imgB turn tm es ks))∧∀ p∈es,p.2.2.kd=2→p.2.2.wn≤tm / p.2.2.y
 old:∀ p,fndG (!(turn % 2==1)) fs=some p→∃ i:Ig,i.ok∧i.ks.Nodup∧nextT i.turn=turn∧p.2=strOfNums i.bytes
theorem Dur.less {D D' time blk:Int}{es:Es}{turn:Int}{fs:Fs}(h:Dur D time blk es turn fs)(hd:D'≤D):Dur D' time blk es turn fs:=
 ⟨h.res,h.img.imp (fun ⟨h1,h2,h3⟩=>⟨h1,h2,by omega⟩) (fun ⟨tm,ks,a,h1,h2,h3,h4,h5⟩=>⟨tm,ks,a,h1,⟨h2.1,by omega⟩,h3,h4,h5⟩),h.old⟩
theorem Dur.pass {D time time' blk:Int}{es:Es}{turn:Int}{fs:Fs}(h:Dur D time blk es turn fs)(ht:time≤time'):Dur D time' blk es turn fs:=
 ⟨h.res,h.img.imp id (fun ⟨tm,ks,a,h1,h2,h3,h4,h5⟩=>⟨tm,ks,a,h1,h2,by omega,h4,h5⟩),h.old⟩
theorem Dur.wnd {D time blk:Int}{es:Es}{turn:Int}{fs:Fs}(h:Dur D time blk es turn fs):∀ p∈es,p.2.2.kd=2→p.2.2.wn≤time / p.2.2.y:=fun p hp hk=>by
 rcases h.img with ⟨_,h2,_⟩ | ⟨tm,ks,a,_,_,h3,_,h5⟩
 ·rw [h2] at hp;cases hp
 ·refine Int.le_trans (h5 p hp hk) (Int.ediv_le_ediv ?_ h3)
  have:=(h.res p hp).ok.kd
  rcases this with ⟨h,_⟩ | ⟨_,h⟩ <;> omega
theorem jcr (t:Int):(nextT t % 2==1)=!(t % 2==1):=by
 unfold nextT
 have h:t % 2=0∨t % 2=1:=by omega
 rcases h with h | h
 ·have:(t+1) % 18446744073709551616 % 2=1:=by omega
  rw [this,h];rfl
 ·have:(t+1) % 18446744073709551616 % 2=0:=by omega
  rw [this,h];rfl
theorem jaE {K V:Type} [DecidableEq K] (k:K)(v:V)(l:List (K×V)):fndG k (putG k v l)=some v:=by
 unfold putG
 split
 ·exact jaA (by assumption)
 ·rename_i h
  rw [jaX,if_neg h,if_pos rfl]
theorem jaI {K V:Type} [DecidableEq K] {k k':K}(v:V)(l:List (K×V))(h:k'≠k):fndG k' (putG k v l)=fndG k' l:=by
 unfold putG
 split
 ·exact jaJ h
 ·rw [jaX]
  by_cases hs:(fndG k' l).isSome=true
  ·rw [if_pos hs]
  ·rw [if_neg hs,if_neg (fun e=>h e.symm)]
   cases h2:fndG k' l with
   | none=>rfl
   | some x=>rw [h2] at hs;exact absurd rfl hs
theorem jcD (es es':Es):∀ (ks:List Ky),(∀ k∈ks,jag es k=jag es' k)→recs es ks=recs es' ks
 | [],_=>rfl
 | k :: r,h=>by
  have ih:=jcD es es' r (fun x hx=>h x (List.mem_cons_of_mem _ hx))
  unfold recs at ih ⊢
  rw [List.flatMap_cons,List.flatMap_cons,ih,h k (by simp)]
theorem jbT (turn time:Int)(es es':Es)(ks:List Ky)(h:∀ k∈ks,jag es k=jag es' k):imgB turn time es ks=imgB turn time es' ks:=by
 unfold imgB imgA
 rw [jcD es es' ks h]
theorem Dur.cur {D time blk:Int}{es:Es}{turn:Int}{fs:Fs}(h:Dur D time blk es turn fs)(ht:0≤turn∧turn≤18446744073709551615)(hm:time≤18446744073709551615)(nd:(es.map Prod.fst).Nodup)(key:∀ p∈es,p.1.ok)(len:es.length≤12){p:Nat×ByteArray}(hp:fndG (turn % 2==1) fs=some p):∃ i:Ig,i.ok∧i.ks.Nodup∧i.turn=turn∧i.es=es∧i.ks.Perm (es.map Prod.fst)∧i.time≤time∧p.2=strOfNums i.bytes∧(∀ p∈es,p.2.2.kd=2→p.2.2.wn≤i.time / p.2.2.y)∧D≤i.time:=by
 rcases h.img with ⟨rfl,_⟩ | ⟨tm,ks,a,h1,h2,h3,h4,h5⟩
 ·simp [fndG] at hp
 ·rw [h4] at hp
  cases hp
  have hmem:∀ k∈ks,∃ q∈es,q.1=k:=fun k hk=>by
   have:=(h1.mem_iff).1 hk
   obtain⟨q,hq,e⟩:=List.mem_map.1 this
   exact⟨q,hq,e⟩
  refine⟨⟨turn,tm,es,ks⟩,⟨ht,⟨h2.1,by show tm≤18446744073709551615;omega⟩,by have:=h1.length_eq;rw [List.length_map] at this;show ks.length≤12;omega,fun k hk=>?_⟩,h1.nodup_iff.2 nd,rfl,rfl,h1,h3,rfl,h5,h2.2⟩
  obtain⟨q,hq,rfl⟩:=hmem k hk
  refine⟨key q hq,?_⟩
  have:fndG q.1 es=some q.2:=jak nd hq
  show (jag es q.1).ok
  unfold jag
  rw [this]
  exact (h.res q hq).ok
theorem Dur.keep {D time blk:Int}{es0 es:Es}{turn:Int}{fs:Fs}(h:Dur D time blk es0 turn fs)(ht:0≤turn∧turn≤18446744073709551615)(hm:0≤time∧time≤18446744073709551615)(nd:(es0.map Prod.fst).Nodup)(key:∀ p∈es0,p.1.ok)(len:es0.length≤12)(hr:∀ p∈es,Res blk p.2.1 p.2.2)(hw:∀ p∈es,p.2.2.kd=2→p.2.2.wn≤time / p.2.2.y){ks:List Ky}(hp:ks.Perm (es.map Prod.fst))(a:Nat):Dur time time blk es (nextT turn) (putG (nextT turn % 2==1) (a,strOfNums (imgB (nextT turn) time es ks)) fs):=by
 refine⟨hr,Or.inr ⟨time,ks,a,hp,⟨hm.1,Int.le_refl _⟩,Int.le_refl _,jaE _ _ _,hw⟩,fun p hpp=>?_⟩
 have hne:(!(nextT turn % 2==1))≠(nextT turn % 2==1):=by cases (nextT turn % 2==1) <;> simp
 rw [jaI _ _ hne,jcr,Bool.not_not] at hpp
 obtain⟨i,i1,i2,i3,_,_,_,i4,_,_⟩:=h.cur ht hm.2 nd key len hpp
 exact⟨i,i1,i2,by rw [i3],i4⟩
theorem Dur.swept {D time blk:Int}{es:Es}{turn:Int}{fs:Fs}(h:Dur D time blk es turn fs)(hnd:(fs.map Prod.fst).Nodup)(hne:fs≠[]∨es=[]):Dur D time blk es turn (delG (!(turn % 2==1)) fs):=by
 have ho:(turn % 2==1)≠(!(turn % 2==1)):=by cases (turn % 2==1) <;> simp
 refine⟨h.res,?_,fun p hp=>?_⟩
 ·rcases h.img with ⟨rfl,h2⟩ | ⟨tm,ks,a,h1,h2,h3,h4,h5⟩
  ·exact Or.inl ⟨rfl,h2⟩
  ·exact Or.inr ⟨tm,ks,a,h1,h2,h3,by rw [jas ho];exact h4,h5⟩
 ·rw [jaw hnd] at hp
  cases hp
structure Led where
 time:Int
 adm:Int
 blk:Int
 es:Es
 turn:Int
 fsD:Fs
 fsN:Fs
structure Led.ok (c:Led):Prop where
 time:0≤c.time∧c.time≤18446744073709551615
 adm:0≤c.adm∧c.adm≤18446744073709551615
 blk:0≤c.blk∧c.blk≤18446744073709551615
 turn:0≤c.turn∧c.turn≤18446744073709551615
 nd:(c.es.map Prod.fst).Nodup
 key:∀ p∈c.es,p.1.ok
 qt:∀ p∈c.es,p.2.1.ok
 fit:∀ p∈c.es,p.2.2.fit
 len:c.es.length≤12
 dur:Dur 0 c.time c.blk c.es c.turn c.fsD
def Led.has (c:Led)(D:Int):Prop:=Dur D c.time c.blk c.es c.turn c.fsD
structure LedAt (w:World)(st:Int)(sb db k:Nat)(c:Led)(F:Nat→Prop):Prop where
 mem:∃ mp g FD,w.heap[sb]?=some (.cells #[.int .i32 st,.int .u32 0,.int .u64 c.time,.int .u64 c.blk,.map (some mp),.pointer (some ⟨g,0,none⟩),.int .u64 c.adm] 130)∧MapE w mp c.es∧StoAt w g db c.turn∧DskAt w db k c.fsD c.fsN FD∧(∀ b,FD b→F b)∧F mp∧F g∧¬FD g∧¬FD mp∧mp≠g∧¬FD sb∧sb≠g∧sb≠mp
 own:F sb
 lt:∀ b,F b→b<w.heap.size
theorem LedAt.kept {w w':World}{st:Int}{sb db k:Nat}{c:Led}{F:Nat→Prop}(h:LedAt w st sb db k c F)(hs:w.heap.size≤w'.heap.size)(hb:∀ b,F b→w'.heap[b]?=w.heap[b]?):LedAt w' st sb db k c F:=by
 obtain⟨mp,g,FD,h1,h2,h3,h4,h5,h6,h7,h8⟩:=h.mem
 exact⟨⟨mp,g,FD,(hb sb h.own).trans h1,MapG.kept h2 (hb mp h6),h3.kept (hb g h7),h4.kept hs (fun b hF=>hb b (h5 b hF)),h5,h6,h7,h8⟩,h.own,fun b hF=>Nat.lt_of_lt_of_le (h.lt b hF) hs⟩
theorem LedAt.below {w w':World}{st:Int}{sb db k:Nat}{c:Led}{F:Nat→Prop}(h:LedAt w st sb db k c F){B:Nat}(hb:Below B w w')(hB:w.heap.size≤B):LedAt w' st sb db k c F:=
 h.kept hb.size fun b hF=>hb.block b (Nat.lt_of_lt_of_le (h.lt b hF) hB)
theorem LedAt.drew {w:World}{st:Int}{sb db k:Nat}{c:Led}{F:Nat→Prop}(h:LedAt w st sb db k c F):LedAt w.drew st sb db k c F:=h.kept (Nat.le_refl _) fun _ _=>rfl
def OutL (w:World)(st:Int)(sb db k:Nat)(c:Led)(F:Nat→Prop)(w':World):Prop:=
 ∃ F',LedAt w' st sb db k c F'∧Keep F w w'∧∀ b,F' b→F b∨w.heap.size≤b
theorem OutL.same {w w':World}{st:Int}{sb db k:Nat}{c:Led}{F:Nat→Prop}(h:LedAt w st sb db k c F)(hb:Below w.heap.size w w'):OutL w st sb db k c F w':=
 ⟨F,h.below hb (Nat.le_refl _),Keep.of_below hb,fun _ hF=>Or.inl hF⟩
theorem DskAt.less {w:World}{db k k':Nat}{fsD fsN:Fs}{F:Nat→Prop}(h:DskAt w db k fsD fsN F)(hk:k'≤k):DskAt w db k' fsD fsN F:=by
 obtain⟨mb,nb,l,f,h1,h2,h3,h4,h5,h6⟩:=h.mem
 exact⟨⟨mb,nb,l,f,h1,h2,h3,h4.less hk,h5.less hk,h6⟩,h.sD,h.sN,h.own,h.lt⟩
theorem LedAt.less {w:World}{st:Int}{sb db k k':Nat}{c:Led}{F:Nat→Prop}(h:LedAt w st sb db k c F)(hk:k'≤k):LedAt w st sb db k' c F:=by
 obtain⟨mp,g,FD,h1,h2,h3,h4,h5⟩:=h.mem
 exact⟨⟨mp,g,FD,h1,h2,h3,h4.less hk,h5⟩,h.own,h.lt⟩
def keptL (c:Led)(es:Es)(ks:List Ky)(a d:Nat):Led:=⟨c.time,c.adm,c.blk,es,nextT c.turn,putG (nextT c.turn % 2==1) (a,strOfNums (imgB (nextT c.turn) c.time es ks)) c.fsD,putG (nextT c.turn % 2==1) (d,strOfNums (imgB (nextT c.turn) c.time es ks)) c.fsN⟩
def Kept (c c':Led)(es:Es):Prop:=∃ ks a d,ks.Perm (es.map Prod.fst)∧c'=keptL c es ks a d
theorem jiv (vs:Array Value)(w:World):Sem.run Tryz.prog (callFunc 154 vs) w=.ok (.enter 154 vs) w:=by simp [go_sem]
theorem jkq (st:Int)(sb db k mp':Nat)(c:Led)(F:Nat→Prop)(es':Es)(rc ra rb:Int)(w:World)(h:LedAt w st sb db (k+2) c F)(hc:c.ok)(hE:MapE w mp' es')(hF:¬F mp')(hnd:(es'.map Prod.fst).Nodup)(hok:∀ p∈es',p.1.ok)(hfit:∀ p∈es',p.2.2.fit)(hsz:es'.length≤12) :
  Calls Tryz.prog 134 #[.pointer (some ⟨sb,2,none⟩),.map (some mp'),.agg #[.int .u8 rc,.int .u64 ra,.int .u64 rb]] w fun e w'=>e=.returned (.agg #[.int .u8 rc,.int .u64 ra,.int .u64 rb])∧∃ c' F',Kept c c' es'∧LedAt w' st sb db k c' F'∧Keep F w w'∧∀ b,F' b→F b∨w.heap.size≤b∨b=mp':=by
 obtain⟨mp,g,FD,s1,s2,s3,s4,s5,s6,s7,s8,s9,s10,s11,s12,s13⟩:=h.mem
 obtain⟨V,hV⟩:∃ V,V=(w.alloc (.cells #[.int .u8 rc,.int .u64 ra,.int .u64 rb] 40)).alloc (.cells #[.int .u8 0,.int .u64 0,.int .u64 0] 40):=⟨_,rfl⟩
 have hKV:Keep (fun _=>False) w V:=hV▸((Keep.refl _ w).alloc _).alloc _
 have hr0:V.heap[w.heap.size]?=some (.cells #[.int .u8 rc,.int .u64 ra,.int .u64 rb] 40):=hV▸upB (ja1 _ _) _
 have hr1:V.heap[w.heap.size+1]?=some (.cells #[.int .u8 0,.int .u64 0,.int .u64 0] 40):=hV▸heapN (by simp)
 have hsV:V.heap[sb]?=_:=(hKV.block sb (ltB s1) (fun h=>h)).trans s1
 have hpre:KpPre w g db mp' k c.turn c.time es' c.fsD c.fsN FD:=⟨hE,hnd,hok,hfit,hsz,hc.turn.1,hc.turn.2,hc.time.1,hc.time.2,s3,s4,s8,fun hh=>hF (s5 _ hh),fun e=>hF (e▸s7)⟩
 have hmf:∀ (fn:Fn) (first cap:Array Value) (w:World),(Instr.makeFunc fn first cap).run Tryz.prog w=.ok (.func fn first cap) w:=fun _ _ _ _=>rfl
 have hlw:=h.lt
 have HK:=hide (jkM g db mp' k c.turn c.time es' c.fsD c.fsN FD V.drew ((hpre.to hKV).to ⟨rfl,rfl,rfl,Nat.le_refl _,fun _ _ _=>rfl⟩))
 have HH:=hide h
 have HKV:=hide hKV
 have a1:=cellB hsV
 have HE:=hide hE
 have hml:=MapG.lt hE
 clear hpre h hKV hE
 go_enter Tryz.func134,Tryz.ntmps134
 go_upto_region 1 with fail
 rw [←hV]
 have HVV:=hide hV
 clear hV
 go_cut [7] (fun s7 wx=>∃ (W:World),W=wx∧s7=.nilIface∧KpPost V W g db k c.turn c.time es' c.fsD c.fsN FD)
 case first=>
  go_region_law (refine jaj (by rfl) 154 jiv _ _ (by rfl) #[.pointer (some ⟨g,0,none⟩),.int .u64 c.time,.func (.func 143) #[.map (some mp')] #[]] (by simp only [List.map_toArray,List.map_cons,List.map_nil];rfl) HK.out ?_;rintro e w2 ⟨rfl,hX⟩;refine⟨_,rfl,?_⟩;have HX:=hide hX;clear hX)
  all_goals (go_wp2_with fail;go_meet)
  all_goals exact⟨w2,rfl,rfl,HX.out.from (w:=V) ⟨rfl,rfl,rfl,Nat.le_refl _,fun _ _ _=>rfl⟩⟩
 case rest=>
  obtain⟨w2,rfl,rfl,ks,a,d,F',p1,p2,p3,p4,p5⟩:=hcut
  have sV:V.heap.size=w.heap.size+2:=by rw [HVV.out];simp
  have ls:=ltB s1
  have hkF:∀ x,x<V.heap.size→¬(x=g∨FD x)→w2.heap[x]?=V.heap[x]?:=fun x hx hn=>p5.block x hx hn
  have hs2:w2.heap[sb]?=_:=(hkF sb (ltB hsV) (fun h=>h.elim s12 s11)).trans hsV
  have lg:=hlw g s7
  have hq0:=(hkF w.heap.size (by omega) (fun h=>h.elim (fun e=>by omega) (fun e=>by have:=hlw _ (s5 _ e);omega))).trans hr0
  have hq1:=(hkF (w.heap.size+1) (by omega) (fun h=>h.elim (fun e=>by omega) (fun e=>by have:=hlw _ (s5 _ e);omega))).trans hr1
  have c1:=cellB hs2
  have c2:=ja2 hs2
  have d1:=cellB hq0
  have e1:=cellB hq1
  have e2:=ja2 hq1
  have HPP:=hide (And.intro p1 (And.intro p2 (And.intro p3 (And.intro p4 p5))))
  have n1:¬w.heap.size=sb:=by omega
  have n2:¬sb=w.heap.size:=by omega
  have n3:¬w.heap.size+1=sb:=by omega
  have n4:¬sb=w.heap.size+1:=by omega
  clear p1 p2 p3 p4 p5 a1 hkF
  go_wp2
  obtain⟨p1,p2,p3,p4,p5⟩:=HPP.out
  have hmp1:mp'≠sb:=MapG.ne HE.out s1
  have hmp2:mp'≠g:=fun e=>hF (e▸s7)
  have hmp3:¬FD mp':=fun e=>hF (s5 _ e)
  have hF'g:¬F' g:=fun e=>(p4 g e).elim s8 (fun e=>by omega)
  have hF'm:¬F' mp':=fun e=>(p4 mp' e).elim hmp3 (fun e=>by omega)
  have hF's:¬F' sb:=fun e=>(p4 sb e).elim s11 (fun e=>by omega)
  have hF'r:¬F' (w.heap.size+1):=fun e=>(p4 _ e).elim (fun e=>by have:=hlw _ (s5 _ e);omega) (fun e=>by omega)
  have sz2:=p5.size
  obtain⟨w3,hw3⟩:∃ w3,w3=(((w2.setCell ⟨sb,4,none⟩ (.map (some mp'))).setCell ⟨w.heap.size+1,0,none⟩ (.int .u8 rc)).setCell ⟨w.heap.size+1,1,none⟩ (.int .u64 ra)).setCell ⟨w.heap.size+1,2,none⟩ (.int .u64 rb):=⟨_,rfl⟩
  have hX:∀ x,x≠sb→x≠w.heap.size+1→w3.heap[x]?=w2.heap[x]?:=fun x h1 h2=>by rw [hw3,ja0 h2,ja0 h2,ja0 h2,ja0 h1]
  have hsz3:w3.heap.size=w2.heap.size:=by rw [hw3];simp
  refine bodyPost_ret (v:=.agg #[.int .u8 rc,.int .u64 ra,.int .u64 rb]) (by simp [results,Tryz.results134,go_sem,e1]) rfl ⟨rfl,?_⟩
  rw [←hw3]
  refine⟨keptL c es' ks a d,fun x=>x=sb∨x=mp'∨x=g∨F' x,⟨ks,a,d,p1,rfl⟩,⟨⟨mp',g,F',?_,?_,p2.kept (hX g (fun e=>s12 e.symm) (by omega)),p3.kept (by omega) (fun x hx=>hX x (fun e=>hF's (e▸hx)) (fun e=>hF'r (e▸hx))),fun x hx=>Or.inr (Or.inr (Or.inr hx)),Or.inr (Or.inl rfl),Or.inr (Or.inr (Or.inl rfl)),hF'g,hF'm,hmp2,hF's,s12,fun e=>hmp1 e.symm⟩,Or.inl rfl,fun x hx=>?_⟩,?_,fun x hx=>?_⟩
  ·rw [hw3,ja0 n4,ja0 n4,ja0 n4]
   show (w2.setCell ⟨sb,4,none⟩ (.map (some mp'))).heap[sb]?=some (.cells #[.int .i32 st,.int .u32 0,.int .u64 c.time,.int .u64 c.blk,.map (some mp'),.pointer (some ⟨g,0,none⟩),.int .u64 c.adm] 130)
   simpa using ja4 hs2 4 (.map (some mp'))
  ·exact MapG.kept HE.out (((hX mp' hmp1 (by omega)).trans (p5.block mp' (by omega) (fun h=>h.elim hmp2 hmp3))).trans (HKV.out.block mp' hml (fun h=>h)))
  ·rw [hsz3]
   rcases hx with h | h | h | h
   ·rw [h];omega
   ·rw [h];omega
   ·rw [h];omega
   ·exact p3.lt x h
  ·have k0:Keep F w w2:=(HKV.out.mono (fun _ h _=>h.elim)).then p5 (fun i hi h=>h.elim (fun e=>e▸s7) (s5 i))
   rw [hw3]
   exact (((k0.set (Or.inl HH.out.own) _ _).set (Or.inr (by omega)) _ _).set (Or.inr (by omega)) _ _).set (Or.inr (by omega)) _ _
  ·rcases hx with h | h | h | h
   ·exact Or.inl (h▸HH.out.own)
   ·exact Or.inr (Or.inr h)
   ·exact Or.inl (h▸s7)
   ·rcases p4 x h with h | h
    ·exact Or.inl (s5 x h)
    ·exact Or.inr (Or.inl (by omega))
theorem jbe {w:World}{mp:Nat}{es:Es}(h:MapE w mp es){k:Ky}(hk:k.ok)(hf:fndG k es=none) :
  (Instr.lookup 121 (.map (some mp)) (.agg #[.int .u8 k.k0,.int .u8 k.k1,.int .u8 k.k2,.int .u8 k.k3,.int .u8 k.k4,.int .u8 k.k5,.int .u8 k.k6,.int .u8 k.k7]) true).run Tryz.prog w=.ok (.tuple #[.agg #[.int .u8 0,.int .u64 0,.int .u64 0,.int .u64 0,.int .u64 0,.int .u8 0,.int .u64 0,.int .u64 0,.int .u64 0,.int .u64 0],.bool false]) w:=by
 have:=MapG.look mkey h hk undE (zeroE w)
 rw [hf] at this
 exact this
theorem jaT {w:World}{mp:Nat}{es:Es}(h:MapE w mp es){k:Ky}(hk:k.ok){p1 p2:Qt}(hf:fndG k es=some (p1,p2)) :
  (Instr.lookup 121 (.map (some mp)) (.agg #[.int .u8 k.k0,.int .u8 k.k1,.int .u8 k.k2,.int .u8 k.k3,.int .u8 k.k4,.int .u8 k.k5,.int .u8 k.k6,.int .u8 k.k7]) true).run Tryz.prog w=.ok (.tuple #[.agg #[.int .u8 p1.kd,.int .u64 p1.x,.int .u64 p1.y,.int .u64 p1.lv,.int .u64 p1.wn,.int .u8 p2.kd,.int .u64 p2.x,.int .u64 p2.y,.int .u64 p2.lv,.int .u64 p2.wn],.bool true]) w:=by
 have:=MapG.look mkey h hk undE (zeroE w)
 rw [hf] at this
 exact this
theorem jeh (sb mp:Nat)(s0 s1 sp adm:Value)(time blk:Int)(es:Es)(k:Ky)(w:World)(hs:w.heap[sb]?=some (.cells #[s0,s1,.int .u64 time,.int .u64 blk,.map (some mp),sp,adm] 130))(hm:MapE w mp es)(hk:k.ok)(hf:fndG k es=none) :
  Calls Tryz.prog 112 #[.pointer (some ⟨sb,2,none⟩),.agg #[.int .u8 k.k0,.int .u8 k.k1,.int .u8 k.k2,.int .u8 k.k3,.int .u8 k.k4,.int .u8 k.k5,.int .u8 k.k6,.int .u8 k.k7]] w fun e w'=>e=.returned (.agg #[.int .u8 4,.int .u64 0,.int .u64 0])∧Below w.heap.size w w':=by
 go_enter Tryz.func112,Tryz.ntmps112
 go_upto_region 1 with fail
 obtain⟨W,hW⟩:∃ W,W=(w.alloc (.cells #[.int .u8 k.k0,.int .u8 k.k1,.int .u8 k.k2,.int .u8 k.k3,.int .u8 k.k4,.int .u8 k.k5,.int .u8 k.k6,.int .u8 k.k7] 63)).alloc (.cells #[.int .u8 0,.int .u64 0,.int .u64 0] 40):=⟨_,rfl⟩
 rw [←hW]
 have hB:Below w.heap.size w W:=hW▸((Below.refl _ w).alloc (Nat.le_refl _) _).alloc (by simp) _
 have hk0:W.heap[w.heap.size]?=some (.cells #[.int .u8 k.k0,.int .u8 k.k1,.int .u8 k.k2,.int .u8 k.k3,.int .u8 k.k4,.int .u8 k.k5,.int .u8 k.k6,.int .u8 k.k7] 63):=hW▸upB (ja1 _ _) _
 have hr0:W.heap[w.heap.size+1]?=some (.cells #[.int .u8 0,.int .u64 0,.int .u64 0] 40):=hW▸heapN (by simp)
 have hs0:W.heap[sb]?=some (.cells #[s0,s1,.int .u64 time,.int .u64 blk,.map (some mp),sp,adm] 130):=hW▸upB (upB hs _) _
 have hm0:MapE W mp es:=MapG.kept hm (hB.block mp (MapG.lt hm))
 have hsb:=ltB hs
 clear hW hs hm
 have a1:=cellB hk0
 have a2:=upC hk0 (.cells #[.int .u8 0,.int .u64 0,.int .u64 0,.int .u64 0,.int .u64 0,.int .u8 0,.int .u64 0,.int .u64 0,.int .u64 0,.int .u64 0] 177)
 have a3:=cellB hs0
 have a4:=upC hs0 (.cells #[.int .u8 0,.int .u64 0,.int .u64 0,.int .u64 0,.int .u64 0,.int .u8 0,.int .u64 0,.int .u64 0,.int .u64 0,.int .u64 0] 177)
 have a5:=jbe (w:=W.drew) (MapG.kept hm0 rfl) hk hf
 have a6:=jbe (w:=(W.alloc (.cells #[.int .u8 0,.int .u64 0,.int .u64 0,.int .u64 0,.int .u64 0,.int .u8 0,.int .u64 0,.int .u64 0,.int .u64 0,.int .u64 0] 177)).drew) (MapG.kept hm0 (ja3 _ _ (MapG.lt hm0))) hk hf
 go_cut [5,6] (fun s5 s6 wx=>s5=.pointer (some ⟨W.heap.size,0,none⟩)∧s6=.bool false∧wx=(W.alloc (.cells #[.int .u8 0,.int .u64 0,.int .u64 0,.int .u64 0,.int .u64 0,.int .u8 0,.int .u64 0,.int .u64 0,.int .u64 0,.int .u64 0] 177)).drew)
 case first=>
  go_region
  all_goals (go_wp2_with fail;go_meet)
  all_goals exact⟨rfl,rfl,rfl⟩
 case rest=>
  obtain⟨rfl,rfl,rfl⟩:=hcut
  have hz0:(W.alloc (.cells #[.int .u8 0,.int .u64 0,.int .u64 0,.int .u64 0,.int .u64 0,.int .u8 0,.int .u64 0,.int .u64 0,.int .u64 0,.int .u64 0] 177)).heap[W.heap.size]?=some (.cells #[.int .u8 0,.int .u64 0,.int .u64 0,.int .u64 0,.int .u64 0,.int .u8 0,.int .u64 0,.int .u64 0,.int .u64 0,.int .u64 0] 177):=ja1 _ _
  have hk1:=upB hk0 (.cells #[.int .u8 0,.int .u64 0,.int .u64 0,.int .u64 0,.int .u64 0,.int .u8 0,.int .u64 0,.int .u64 0,.int .u64 0,.int .u64 0] 177)
  have hr1:=upB hr0 (.cells #[.int .u8 0,.int .u64 0,.int .u64 0,.int .u64 0,.int .u64 0,.int .u8 0,.int .u64 0,.int .u64 0,.int .u64 0,.int .u64 0] 177)
  have hs1:=upB hs0 (.cells #[.int .u8 0,.int .u64 0,.int .u64 0,.int .u64 0,.int .u64 0,.int .u8 0,.int .u64 0,.int .u64 0,.int .u64 0,.int .u64 0] 177)
  have hm1:MapE (W.alloc (.cells #[.int .u8 0,.int .u64 0,.int .u64 0,.int .u64 0,.int .u64 0,.int .u8 0,.int .u64 0,.int .u64 0,.int .u64 0,.int .u64 0] 177)) mp es:=MapG.kept hm0 (ja3 _ _ (MapG.lt hm0))
  have hB1:=hB.alloc hB.size (.cells #[.int .u8 0,.int .u64 0,.int .u64 0,.int .u64 0,.int .u64 0,.int .u8 0,.int .u64 0,.int .u64 0,.int .u64 0,.int .u64 0] 177)
  have hB0:=hB.size
  clear a1 a2 a3 a4 a5 a6 hk0 hr0 hs0 hm0
  have b1:=cellB hr1
  have b2:=ja2 hr1
  go_wp2
  refine bodyPost_ret (v:=.agg #[.int .u8 4,.int .u64 0,.int .u64 0]) (by simp [results,Tryz.results112,go_sem,b1]) rfl ⟨rfl,Below.drew ?_⟩
  repeat (refine Below.setCell ?_ (by simp <;> omega) _)
  exact hB1
theorem jdG (sb mp:Nat)(s0 s1 sp adm:Value)(time blk:Int)(es:Es)(k:Ky)(w:World)(hs:w.heap[sb]?=some (.cells #[s0,s1,.int .u64 time,.int .u64 blk,.map (some mp),sp,adm] 130))(hm:MapE w mp es)(hk:k.ok)(hf:fndG k es=none) :
  Calls Tryz.prog 113 #[.pointer (some ⟨sb,2,none⟩),.agg #[.int .u8 k.k0,.int .u8 k.k1,.int .u8 k.k2,.int .u8 k.k3,.int .u8 k.k4,.int .u8 k.k5,.int .u8 k.k6,.int .u8 k.k7]] w fun e w'=>e=.returned (.agg #[.int .u8 4,.int .u64 0,.int .u64 0])∧Below w.heap.size w w':=by
 go_enter Tryz.func113,Tryz.ntmps113
 go_upto_region 1 with fail
 obtain⟨W,hW⟩:∃ W,W=(w.alloc (.cells #[.int .u8 k.k0,.int .u8 k.k1,.int .u8 k.k2,.int .u8 k.k3,.int .u8 k.k4,.int .u8 k.k5,.int .u8 k.k6,.int .u8 k.k7] 63)).alloc (.cells #[.int .u8 0,.int .u64 0,.int .u64 0] 40):=⟨_,rfl⟩
 rw [←hW]
 have hB:Below w.heap.size w W:=hW▸((Below.refl _ w).alloc (Nat.le_refl _) _).alloc (by simp) _
 have hk0:W.heap[w.heap.size]?=some (.cells #[.int .u8 k.k0,.int .u8 k.k1,.int .u8 k.k2,.int .u8 k.k3,.int .u8 k.k4,.int .u8 k.k5,.int .u8 k.k6,.int .u8 k.k7] 63):=hW▸upB (ja1 _ _) _
 have hr0:W.heap[w.heap.size+1]?=some (.cells #[.int .u8 0,.int .u64 0,.int .u64 0] 40):=hW▸heapN (by simp)
 have hs0:W.heap[sb]?=some (.cells #[s0,s1,.int .u64 time,.int .u64 blk,.map (some mp),sp,adm] 130):=hW▸upB (upB hs _) _
 have hm0:MapE W mp es:=MapG.kept hm (hB.block mp (MapG.lt hm))
 have hsb:=ltB hs
 clear hW hs hm
 have a1:=cellB hk0
 have a2:=upC hk0 (.cells #[.int .u8 0,.int .u64 0,.int .u64 0,.int .u64 0,.int .u64 0,.int .u8 0,.int .u64 0,.int .u64 0,.int .u64 0,.int .u64 0] 177)
 have a3:=cellB hs0
 have a4:=upC hs0 (.cells #[.int .u8 0,.int .u64 0,.int .u64 0,.int .u64 0,.int .u64 0,.int .u8 0,.int .u64 0,.int .u64 0,.int .u64 0,.int .u64 0] 177)
 have a5:=jbe (w:=W.drew) (MapG.kept hm0 rfl) hk hf
 have a6:=jbe (w:=(W.alloc (.cells #[.int .u8 0,.int .u64 0,.int .u64 0,.int .u64 0,.int .u64 0,.int .u8 0,.int .u64 0,.int .u64 0,.int .u64 0,.int .u64 0] 177)).drew) (MapG.kept hm0 (ja3 _ _ (MapG.lt hm0))) hk hf
 go_cut [5,6] (fun s5 s6 wx=>s5=.pointer (some ⟨W.heap.size,0,none⟩)∧s6=.bool false∧wx=(W.alloc (.cells #[.int .u8 0,.int .u64 0,.int .u64 0,.int .u64 0,.int .u64 0,.int .u8 0,.int .u64 0,.int .u64 0,.int .u64 0,.int .u64 0] 177)).drew)
 case first=>
  go_region
  all_goals (go_wp2_with fail;go_meet)
  all_goals exact⟨rfl,rfl,rfl⟩
 case rest=>
  obtain⟨rfl,rfl,rfl⟩:=hcut
  have hz0:(W.alloc (.cells #[.int .u8 0,.int .u64 0,.int .u64 0,.int .u64 0,.int .u64 0,.int .u8 0,.int .u64 0,.int .u64 0,.int .u64 0,.int .u64 0] 177)).heap[W.heap.size]?=some (.cells #[.int .u8 0,.int .u64 0,.int .u64 0,.int .u64 0,.int .u64 0,.int .u8 0,.int .u64 0,.int .u64 0,.int .u64 0,.int .u64 0] 177):=ja1 _ _
  have hk1:=upB hk0 (.cells #[.int .u8 0,.int .u64 0,.int .u64 0,.int .u64 0,.int .u64 0,.int .u8 0,.int .u64 0,.int .u64 0,.int .u64 0,.int .u64 0] 177)
  have hr1:=upB hr0 (.cells #[.int .u8 0,.int .u64 0,.int .u64 0,.int .u64 0,.int .u64 0,.int .u8 0,.int .u64 0,.int .u64 0,.int .u64 0,.int .u64 0] 177)
  have hs1:=upB hs0 (.cells #[.int .u8 0,.int .u64 0,.int .u64 0,.int .u64 0,.int .u64 0,.int .u8 0,.int .u64 0,.int .u64 0,.int .u64 0,.int .u64 0] 177)
  have hm1:MapE (W.alloc (.cells #[.int .u8 0,.int .u64 0,.int .u64 0,.int .u64 0,.int .u64 0,.int .u8 0,.int .u64 0,.int .u64 0,.int .u64 0,.int .u64 0] 177)) mp es:=MapG.kept hm0 (ja3 _ _ (MapG.lt hm0))
  have hB1:=hB.alloc hB.size (.cells #[.int .u8 0,.int .u64 0,.int .u64 0,.int .u64 0,.int .u64 0,.int .u8 0,.int .u64 0,.int .u64 0,.int .u64 0,.int .u64 0] 177)
  have hB0:=hB.size
  clear a1 a2 a3 a4 a5 a6 hk0 hr0 hs0 hm0
  have b1:=cellB hr1
  have b2:=ja2 hr1
  go_wp2
  refine bodyPost_ret (v:=.agg #[.int .u8 4,.int .u64 0,.int .u64 0]) (by simp [results,Tryz.results113,go_sem,b1]) rfl ⟨rfl,Below.drew ?_⟩
  repeat (refine Below.setCell ?_ (by simp <;> omega) _)
  exact hB1
theorem jea (sb mp:Nat)(s0 s1 sp adm:Value)(time blk:Int)(es:Es)(k:Ky)(w:World)(hs:w.heap[sb]?=some (.cells #[s0,s1,.int .u64 time,.int .u64 blk,.map (some mp),sp,adm] 130))(hm:MapE w mp es)(hk:k.ok)(hf:fndG k es=none)(n:Int) :
  Calls Tryz.prog 111 #[.pointer (some ⟨sb,2,none⟩),.agg #[.int .u8 k.k0,.int .u8 k.k1,.int .u8 k.k2,.int .u8 k.k3,.int .u8 k.k4,.int .u8 k.k5,.int .u8 k.k6,.int .u8 k.k7],.int .u64 n] w fun e w'=>e=.returned (.agg #[.int .u8 4,.int .u64 0,.int .u64 0])∧Below w.heap.size w w':=by
 go_enter Tryz.func111,Tryz.ntmps111
 go_upto_region 1 with fail
 obtain⟨W,hW⟩:∃ W,W=(w.alloc (.cells #[.int .u8 k.k0,.int .u8 k.k1,.int .u8 k.k2,.int .u8 k.k3,.int .u8 k.k4,.int .u8 k.k5,.int .u8 k.k6,.int .u8 k.k7] 63)).alloc (.cells #[.int .u8 0,.int .u64 0,.int .u64 0] 40):=⟨_,rfl⟩
 rw [←hW]
 have hB:Below w.heap.size w W:=hW▸((Below.refl _ w).alloc (Nat.le_refl _) _).alloc (by simp) _
 have hk0:W.heap[w.heap.size]?=some (.cells #[.int .u8 k.k0,.int .u8 k.k1,.int .u8 k.k2,.int .u8 k.k3,.int .u8 k.k4,.int .u8 k.k5,.int .u8 k.k6,.int .u8 k.k7] 63):=hW▸upB (ja1 _ _) _
 have hr0:W.heap[w.heap.size+1]?=some (.cells #[.int .u8 0,.int .u64 0,.int .u64 0] 40):=hW▸heapN (by simp)
 have hs0:W.heap[sb]?=some (.cells #[s0,s1,.int .u64 time,.int .u64 blk,.map (some mp),sp,adm] 130):=hW▸upB (upB hs _) _
 have hm0:MapE W mp es:=MapG.kept hm (hB.block mp (MapG.lt hm))
 have hsb:=ltB hs
 clear hW hs hm
 have a1:=cellB hk0
 have a2:=upC hk0 (.cells #[.int .u8 0,.int .u64 0,.int .u64 0,.int .u64 0,.int .u64 0,.int .u8 0,.int .u64 0,.int .u64 0,.int .u64 0,.int .u64 0] 177)
 have a3:=cellB hs0
 have a4:=upC hs0 (.cells #[.int .u8 0,.int .u64 0,.int .u64 0,.int .u64 0,.int .u64 0,.int .u8 0,.int .u64 0,.int .u64 0,.int .u64 0,.int .u64 0] 177)
 have a5:=jbe (w:=W.drew) (MapG.kept hm0 rfl) hk hf
 have a6:=jbe (w:=(W.alloc (.cells #[.int .u8 0,.int .u64 0,.int .u64 0,.int .u64 0,.int .u64 0,.int .u8 0,.int .u64 0,.int .u64 0,.int .u64 0,.int .u64 0] 177)).drew) (MapG.kept hm0 (ja3 _ _ (MapG.lt hm0))) hk hf
 go_cut [7,8] (fun s5 s6 wx=>s5=.pointer (some ⟨W.heap.size,0,none⟩)∧s6=.bool false∧wx=(W.alloc (.cells #[.int .u8 0,.int .u64 0,.int .u64 0,.int .u64 0,.int .u64 0,.int .u8 0,.int .u64 0,.int .u64 0,.int .u64 0,.int .u64 0] 177)).drew)
 case first=>
  go_region
  all_goals (go_wp2_with fail;go_meet)
  all_goals exact⟨rfl,rfl,rfl⟩
 case rest=>
  obtain⟨rfl,rfl,rfl⟩:=hcut
  have hz0:(W.alloc (.cells #[.int .u8 0,.int .u64 0,.int .u64 0,.int .u64 0,.int .u64 0,.int .u8 0,.int .u64 0,.int .u64 0,.int .u64 0,.int .u64 0] 177)).heap[W.heap.size]?=some (.cells #[.int .u8 0,.int .u64 0,.int .u64 0,.int .u64 0,.int .u64 0,.int .u8 0,.int .u64 0,.int .u64 0,.int .u64 0,.int .u64 0] 177):=ja1 _ _
  have hk1:=upB hk0 (.cells #[.int .u8 0,.int .u64 0,.int .u64 0,.int .u64 0,.int .u64 0,.int .u8 0,.int .u64 0,.int .u64 0,.int .u64 0,.int .u64 0] 177)
  have hr1:=upB hr0 (.cells #[.int .u8 0,.int .u64 0,.int .u64 0,.int .u64 0,.int .u64 0,.int .u8 0,.int .u64 0,.int .u64 0,.int .u64 0,.int .u64 0] 177)
  have hs1:=upB hs0 (.cells #[.int .u8 0,.int .u64 0,.int .u64 0,.int .u64 0,.int .u64 0,.int .u8 0,.int .u64 0,.int .u64 0,.int .u64 0,.int .u64 0] 177)
  have hm1:MapE (W.alloc (.cells #[.int .u8 0,.int .u64 0,.int .u64 0,.int .u64 0,.int .u64 0,.int .u8 0,.int .u64 0,.int .u64 0,.int .u64 0,.int .u64 0] 177)) mp es:=MapG.kept hm0 (ja3 _ _ (MapG.lt hm0))
  have hB1:=hB.alloc hB.size (.cells #[.int .u8 0,.int .u64 0,.int .u64 0,.int .u64 0,.int .u64 0,.int .u8 0,.int .u64 0,.int .u64 0,.int .u64 0,.int .u64 0] 177)
  have hB0:=hB.size
  clear a1 a2 a3 a4 a5 a6 hk0 hr0 hs0 hm0
  have b1:=cellB hr1
  have b2:=ja2 hr1
  go_wp2
  refine bodyPost_ret (v:=.agg #[.int .u8 4,.int .u64 0,.int .u64 0]) (by simp [results,Tryz.results111,go_sem,b1]) rfl ⟨rfl,Below.drew ?_⟩
  repeat (refine Below.setCell ?_ (by simp <;> omega) _)
  exact hB1
theorem jef (sb mp:Nat)(s0 s1 sp adm:Value)(time blk:Int)(es:Es)(k:Ky)(w:World)(hs:w.heap[sb]?=some (.cells #[s0,s1,.int .u64 time,.int .u64 blk,.map (some mp),sp,adm] 130))(hm:MapE w mp es)(hk:k.ok)(p1 p2:Qt)(hf:fndG k es=some (p1,p2))(c a b:Int)
  (h126:Hid (∀ w1,Calls Tryz.prog 140 #[.agg #[.int .u8 p1.kd,.int .u64 p1.x,.int .u64 p1.y,.int .u64 p1.lv,.int .u64 p1.wn],.int .u64 time] w1 fun e w'=>e=.returned (.agg #[.int .u8 c,.int .u64 a,.int .u64 b])∧Below w1.heap.size w1 w')) :
  Calls Tryz.prog 112 #[.pointer (some ⟨sb,2,none⟩),.agg #[.int .u8 k.k0,.int .u8 k.k1,.int .u8 k.k2,.int .u8 k.k3,.int .u8 k.k4,.int .u8 k.k5,.int .u8 k.k6,.int .u8 k.k7]] w fun e w'=>e=.returned (.agg #[.int .u8 c,.int .u64 a,.int .u64 b])∧Below w.heap.size w w':=by
 go_enter Tryz.func112,Tryz.ntmps112
 go_upto_region 1 with fail
 obtain⟨W,hW⟩:∃ W,W=(w.alloc (.cells #[.int .u8 k.k0,.int .u8 k.k1,.int .u8 k.k2,.int .u8 k.k3,.int .u8 k.k4,.int .u8 k.k5,.int .u8 k.k6,.int .u8 k.k7] 63)).alloc (.cells #[.int .u8 0,.int .u64 0,.int .u64 0] 40):=⟨_,rfl⟩
 rw [←hW]
 have hB:Below w.heap.size w W:=hW▸((Below.refl _ w).alloc (Nat.le_refl _) _).alloc (by simp) _
 have hk0:W.heap[w.heap.size]?=some (.cells #[.int .u8 k.k0,.int .u8 k.k1,.int .u8 k.k2,.int .u8 k.k3,.int .u8 k.k4,.int .u8 k.k5,.int .u8 k.k6,.int .u8 k.k7] 63):=hW▸upB (ja1 _ _) _
 have hr0:W.heap[w.heap.size+1]?=some (.cells #[.int .u8 0,.int .u64 0,.int .u64 0] 40):=hW▸heapN (by simp)
 have hs0:W.heap[sb]?=some (.cells #[s0,s1,.int .u64 time,.int .u64 blk,.map (some mp),sp,adm] 130):=hW▸upB (upB hs _) _
 have hm0:MapE W mp es:=MapG.kept hm (hB.block mp (MapG.lt hm))
 have hsb:=ltB hs
 clear hW hs hm
 have a1:=cellB hk0
 have a2:=upC hk0 (.cells #[.int .u8 0,.int .u64 0,.int .u64 0,.int .u64 0,.int .u64 0,.int .u8 0,.int .u64 0,.int .u64 0,.int .u64 0,.int .u64 0] 177)
 have a3:=cellB hs0
 have a4:=upC hs0 (.cells #[.int .u8 0,.int .u64 0,.int .u64 0,.int .u64 0,.int .u64 0,.int .u8 0,.int .u64 0,.int .u64 0,.int .u64 0,.int .u64 0] 177)
 have a5:=jaT (w:=W.drew) (MapG.kept hm0 rfl) hk hf
 have a6:=jaT (w:=(W.alloc (.cells #[.int .u8 0,.int .u64 0,.int .u64 0,.int .u64 0,.int .u64 0,.int .u8 0,.int .u64 0,.int .u64 0,.int .u64 0,.int .u64 0] 177)).drew) (MapG.kept hm0 (ja3 _ _ (MapG.lt hm0))) hk hf
 go_cut [5,6] (fun s5 s6 wx=>s5=.pointer (some ⟨W.heap.size,0,none⟩)∧s6=.bool true∧wx=(W.alloc (.cells #[.int .u8 p1.kd,.int .u64 p1.x,.int .u64 p1.y,.int .u64 p1.lv,.int .u64 p1.wn,.int .u8 p2.kd,.int .u64 p2.x,.int .u64 p2.y,.int .u64 p2.lv,.int .u64 p2.wn] 177)).drew)
 case first=>
  go_region
  all_goals (go_wp2_with fail;go_meet)
  all_goals exact⟨rfl,rfl,rfl⟩
 case rest=>
  obtain⟨rfl,rfl,rfl⟩:=hcut
  have hz0:(W.alloc (.cells #[.int .u8 p1.kd,.int .u64 p1.x,.int .u64 p1.y,.int .u64 p1.lv,.int .u64 p1.wn,.int .u8 p2.kd,.int .u64 p2.x,.int .u64 p2.y,.int .u64 p2.lv,.int .u64 p2.wn] 177)).heap[W.heap.size]?=some (.cells #[.int .u8 p1.kd,.int .u64 p1.x,.int .u64 p1.y,.int .u64 p1.lv,.int .u64 p1.wn,.int .u8 p2.kd,.int .u64 p2.x,.int .u64 p2.y,.int .u64 p2.lv,.int .u64 p2.wn] 177):=ja1 _ _
  have hk1:=upB hk0 (.cells #[.int .u8 p1.kd,.int .u64 p1.x,.int .u64 p1.y,.int .u64 p1.lv,.int .u64 p1.wn,.int .u8 p2.kd,.int .u64 p2.x,.int .u64 p2.y,.int .u64 p2.lv,.int .u64 p2.wn] 177)
  have hr1:=upB hr0 (.cells #[.int .u8 p1.kd,.int .u64 p1.x,.int .u64 p1.y,.int .u64 p1.lv,.int .u64 p1.wn,.int .u8 p2.kd,.int .u64 p2.x,.int .u64 p2.y,.int .u64 p2.lv,.int .u64 p2.wn] 177)
  have hs1:=upB hs0 (.cells #[.int .u8 p1.kd,.int .u64 p1.x,.int .u64 p1.y,.int .u64 p1.lv,.int .u64 p1.wn,.int .u8 p2.kd,.int .u64 p2.x,.int .u64 p2.y,.int .u64 p2.lv,.int .u64 p2.wn] 177)
  have hm1:MapE (W.alloc (.cells #[.int .u8 p1.kd,.int .u64 p1.x,.int .u64 p1.y,.int .u64 p1.lv,.int .u64 p1.wn,.int .u8 p2.kd,.int .u64 p2.x,.int .u64 p2.y,.int .u64 p2.lv,.int .u64 p2.wn] 177)) mp es:=MapG.kept hm0 (ja3 _ _ (MapG.lt hm0))
  have hB1:=hB.alloc hB.size (.cells #[.int .u8 p1.kd,.int .u64 p1.x,.int .u64 p1.y,.int .u64 p1.lv,.int .u64 p1.wn,.int .u8 p2.kd,.int .u64 p2.x,.int .u64 p2.y,.int .u64 p2.lv,.int .u64 p2.wn] 177)
  have hB0:=hB.size
  clear a1 a2 a3 a4 a5 a6 hk0 hr0 hs0 hm0
  have a1:=cellB hs1
  have a2:=cellB hz0
  have l1:=ltB hr1
  go_wp2_with fail
  go_region_with (go_at_call 140;refine (h126.out _).mono ?_;rintro e w2 ⟨rfl,hb2⟩;have f1:=fun j=>(hb2.cell (p:=⟨w.heap.size+1,j,none⟩) l1).trans (cellB hr1 j);have g1:=fun j=>(hb2.frozen (p:=⟨w.heap.size+1,j,none⟩) l1).trans (ja2 hr1 j))
  all_goals go_wp2
  all_goals (
    refine bodyPost_ret (v:=.agg #[.int .u8 c,.int .u64 a,.int .u64 b]) (by simp [results,Tryz.results112,go_sem,f1]) rfl ⟨rfl,?_⟩
    repeat (refine Below.setCell ?_ (by simp <;> omega) _)
    exact hB1.drew.drew.trans (hb2.mono (by simp;omega)))
theorem jbs {P:Program}(w:World){ops:Array Oper}{rest:List Oper}{o:Oper}{a:Act}{Q:Exit→Act→World→Prop}(hg:o.guard=none)(m:Operand)(t:TypeId)(hop:o.op=Op.call { callee:=Callee.builtin Builtin.len,args:=#[m],argTypes:=#[t] })
  (vm:Value) (hm:a.eval m=vm) (r:Value) (hrun:(Builtin.len_ #[t] o.type #[vm]).run P w=.ok r w) (hK:wpList P ops Q rest (a.put o.dst r) w) :
  wpList P ops Q (o :: rest) a w:=by
 refine wpList_plain hg fun K' hK'=>?_
 unfold Oper.wp
 simp [execOp,hop,resolve,invoke,builtin,hm,hrun,Result.andThen]
 exact hK' _ _ hK
theorem jhw (sb mp:Nat)(s0 s1 sp adm:Value)(time blk:Int)(es:Es)(k:Ky)(w:World)(hs:w.heap[sb]?=some (.cells #[s0,s1,.int .u64 time,.int .u64 blk,.map (some mp),sp,adm] 130))(hm:MapE w mp es)(hk:k.ok)(kd x y:Int)(hso:¬((kd=1∧1≤x)∨(kd=2∧1≤y)))(hf:fndG k es=none) :
  Calls Tryz.prog 109 #[.pointer (some ⟨sb,2,none⟩),.agg #[.int .u8 k.k0,.int .u8 k.k1,.int .u8 k.k2,.int .u8 k.k3,.int .u8 k.k4,.int .u8 k.k5,.int .u8 k.k6,.int .u8 k.k7],.agg #[.int .u8 kd,.int .u64 x,.int .u64 y]] w fun e w'=>e=.returned (.agg #[.int .u8 8,.int .u64 0,.int .u64 0])∧Below w.heap.size w w':=by
 have hmlt:=MapG.lt hm
 have hsb:=ltB hs
 go_enter Tryz.func109,Tryz.ntmps109
 go_wp2_with fail
 refine (jeI kd x y _ hso).mono ?_
 rintro e w1 ⟨rfl,hb1⟩
 have hb1':Below w.heap.size w w1:=((((Below.refl _ w).alloc (Nat.le_refl _) _).alloc (by simp) _).alloc (by simp <;> omega) _).trans (hb1.mono (by simp <;> omega))
 have hk9:w1.heap[w.heap.size]?=some (.cells #[.int .u8 k.k0,.int .u8 k.k1,.int .u8 k.k2,.int .u8 k.k3,.int .u8 k.k4,.int .u8 k.k5,.int .u8 k.k6,.int .u8 k.k7] 63):=(hb1.block _ (by simp <;> omega)).trans (upB (upB (ja1 _ _) _) _)
 have hr9:w1.heap[w.heap.size+2]?=some (.cells #[.int .u8 0,.int .u64 0,.int .u64 0] 40):=(hb1.block _ (by simp <;> omega)).trans (heapN (by simp))
 have hs9:w1.heap[sb]?=some (.cells #[s0,s1,.int .u64 time,.int .u64 blk,.map (some mp),sp,adm] 130):=(hb1.block _ (by simp <;> omega)).trans (upB (upB (upB hs _) _) _)
 have hm9:MapE w1 mp es:=MapG.kept hm (hb1'.block mp hmlt)
 clear hb1 hs hm
 go_upto_region 2 with fail
 obtain⟨W,hW⟩:∃ W,W=w1.alloc (.cells #[.int .u8 0,.int .u64 0,.int .u64 0,.int .u64 0,.int .u64 0] 173):=⟨_,rfl⟩
 rw [←hW]
 have hB:Below w.heap.size w W:=hW▸hb1'.alloc hb1'.size _
 have hk0:W.heap[w.heap.size]?=some (.cells #[.int .u8 k.k0,.int .u8 k.k1,.int .u8 k.k2,.int .u8 k.k3,.int .u8 k.k4,.int .u8 k.k5,.int .u8 k.k6,.int .u8 k.k7] 63):=hW▸upB hk9 _
 have hr0:W.heap[w.heap.size+2]?=some (.cells #[.int .u8 0,.int .u64 0,.int .u64 0] 40):=hW▸upB hr9 _
 have hs0:W.heap[sb]?=some (.cells #[s0,s1,.int .u64 time,.int .u64 blk,.map (some mp),sp,adm] 130):=hW▸upB hs9 _
 have hq0:W.heap[w1.heap.size]?=some (.cells #[.int .u8 0,.int .u64 0,.int .u64 0,.int .u64 0,.int .u64 0] 173):=hW▸ja1 _ _
 have hm0:MapE W mp es:=hW▸MapG.kept hm9 (ja3 _ _ (MapG.lt hm9))
 have lr9:=ltB hr9
 clear hW hb1' hk9 hr9 hs9 hm9
 have a1:=cellB hk0
 have a2:=upC hk0 (.cells #[.int .u8 0,.int .u64 0,.int .u64 0,.int .u64 0,.int .u64 0,.int .u8 0,.int .u64 0,.int .u64 0,.int .u64 0,.int .u64 0] 177)
 have a3:=cellB hs0
 have a4:=upC hs0 (.cells #[.int .u8 0,.int .u64 0,.int .u64 0,.int .u64 0,.int .u64 0,.int .u8 0,.int .u64 0,.int .u64 0,.int .u64 0,.int .u64 0] 177)
 have a5:=jbe (w:=W.drew) (MapG.kept hm0 rfl) hk hf
 have a6:=jbe (w:=(W.alloc (.cells #[.int .u8 0,.int .u64 0,.int .u64 0,.int .u64 0,.int .u64 0,.int .u8 0,.int .u64 0,.int .u64 0,.int .u64 0,.int .u64 0] 177)).drew) (MapG.kept hm0 (ja3 _ _ (MapG.lt hm0))) hk hf
 go_cut [9,10] (fun s5 s6 wx=>s5=.pointer (some ⟨W.heap.size,0,none⟩)∧s6=.bool false∧wx=(W.alloc (.cells #[.int .u8 0,.int .u64 0,.int .u64 0,.int .u64 0,.int .u64 0,.int .u8 0,.int .u64 0,.int .u64 0,.int .u64 0,.int .u64 0] 177)).drew)
 case first=>
  go_region
  all_goals (go_wp2_with fail;go_meet)
  all_goals exact⟨rfl,rfl,rfl⟩
 case rest=>
  obtain⟨rfl,rfl,rfl⟩:=hcut
  have hk1:=upB hk0 (.cells #[.int .u8 0,.int .u64 0,.int .u64 0,.int .u64 0,.int .u64 0,.int .u8 0,.int .u64 0,.int .u64 0,.int .u64 0,.int .u64 0] 177)
  have hr1:=upB hr0 (.cells #[.int .u8 0,.int .u64 0,.int .u64 0,.int .u64 0,.int .u64 0,.int .u8 0,.int .u64 0,.int .u64 0,.int .u64 0,.int .u64 0] 177)
  have hs1:=upB hs0 (.cells #[.int .u8 0,.int .u64 0,.int .u64 0,.int .u64 0,.int .u64 0,.int .u8 0,.int .u64 0,.int .u64 0,.int .u64 0,.int .u64 0] 177)
  have hq1:=upB hq0 (.cells #[.int .u8 0,.int .u64 0,.int .u64 0,.int .u64 0,.int .u64 0,.int .u8 0,.int .u64 0,.int .u64 0,.int .u64 0,.int .u64 0] 177)
  have hm1:MapE (W.alloc (.cells #[.int .u8 0,.int .u64 0,.int .u64 0,.int .u64 0,.int .u64 0,.int .u8 0,.int .u64 0,.int .u64 0,.int .u64 0,.int .u64 0] 177)) mp es:=MapG.kept hm0 (ja3 _ _ (MapG.lt hm0))
  have hB1:=hB.alloc hB.size (.cells #[.int .u8 0,.int .u64 0,.int .u64 0,.int .u64 0,.int .u64 0,.int .u8 0,.int .u64 0,.int .u64 0,.int .u64 0,.int .u64 0] 177)
  have hB0:=hB.size
  clear a1 a2 a3 a4 a5 a6 hk0 hr0 hs0 hm0 hq0
  have b1:=cellB hr1
  have b2:=ja2 hr1
  go_wp2
  refine bodyPost_ret (v:=.agg #[.int .u8 8,.int .u64 0,.int .u64 0]) (by simp [results,Tryz.results109,go_sem,b1]) rfl ⟨rfl,Below.drew ?_⟩
  repeat (refine Below.setCell ?_ (by simp <;> omega) _)
  exact hB1
theorem jhc (sb mp:Nat)(s0 s1 sp adm:Value)(time blk:Int)(es:Es)(k:Ky)(w:World)(hs:w.heap[sb]?=some (.cells #[s0,s1,.int .u64 time,.int .u64 blk,.map (some mp),sp,adm] 130))(hm:MapE w mp es)(hk:k.ok)(kd x y:Int)(hso:¬((kd=1∧1≤x)∨(kd=2∧1≤y)))(p1 p2:Qt)(hf:fndG k es=some (p1,p2)) :
  Calls Tryz.prog 109 #[.pointer (some ⟨sb,2,none⟩),.agg #[.int .u8 k.k0,.int .u8 k.k1,.int .u8 k.k2,.int .u8 k.k3,.int .u8 k.k4,.int .u8 k.k5,.int .u8 k.k6,.int .u8 k.k7],.agg #[.int .u8 kd,.int .u64 x,.int .u64 y]] w fun e w'=>e=.returned (.agg #[.int .u8 8,.int .u64 0,.int .u64 0])∧Below w.heap.size w w':=by
 have hmlt:=MapG.lt hm
 have hsb:=ltB hs
 go_enter Tryz.func109,Tryz.ntmps109
 go_wp2_with fail
 refine (jeI kd x y _ hso).mono ?_
 rintro e w1 ⟨rfl,hb1⟩
 have hb1':Below w.heap.size w w1:=((((Below.refl _ w).alloc (Nat.le_refl _) _).alloc (by simp) _).alloc (by simp <;> omega) _).trans (hb1.mono (by simp <;> omega))
 have hk9:w1.heap[w.heap.size]?=some (.cells #[.int .u8 k.k0,.int .u8 k.k1,.int .u8 k.k2,.int .u8 k.k3,.int .u8 k.k4,.int .u8 k.k5,.int .u8 k.k6,.int .u8 k.k7] 63):=(hb1.block _ (by simp <;> omega)).trans (upB (upB (ja1 _ _) _) _)
 have hr9:w1.heap[w.heap.size+2]?=some (.cells #[.int .u8 0,.int .u64 0,.int .u64 0] 40):=(hb1.block _ (by simp <;> omega)).trans (heapN (by simp))
 have hs9:w1.heap[sb]?=some (.cells #[s0,s1,.int .u64 time,.int .u64 blk,.map (some mp),sp,adm] 130):=(hb1.block _ (by simp <;> omega)).trans (upB (upB (upB hs _) _) _)
 have hm9:MapE w1 mp es:=MapG.kept hm (hb1'.block mp hmlt)
 clear hb1 hs hm
 go_upto_region 2 with fail
 obtain⟨W,hW⟩:∃ W,W=w1.alloc (.cells #[.int .u8 0,.int .u64 0,.int .u64 0,.int .u64 0,.int .u64 0] 173):=⟨_,rfl⟩
 rw [←hW]
 have hB:Below w.heap.size w W:=hW▸hb1'.alloc hb1'.size _
 have hk0:W.heap[w.heap.size]?=some (.cells #[.int .u8 k.k0,.int .u8 k.k1,.int .u8 k.k2,.int .u8 k.k3,.int .u8 k.k4,.int .u8 k.k5,.int .u8 k.k6,.int .u8 k.k7] 63):=hW▸upB hk9 _
 have hr0:W.heap[w.heap.size+2]?=some (.cells #[.int .u8 0,.int .u64 0,.int .u64 0] 40):=hW▸upB hr9 _
 have hs0:W.heap[sb]?=some (.cells #[s0,s1,.int .u64 time,.int .u64 blk,.map (some mp),sp,adm] 130):=hW▸upB hs9 _
 have hq0:W.heap[w1.heap.size]?=some (.cells #[.int .u8 0,.int .u64 0,.int .u64 0,.int .u64 0,.int .u64 0] 173):=hW▸ja1 _ _
 have hm0:MapE W mp es:=hW▸MapG.kept hm9 (ja3 _ _ (MapG.lt hm9))
 have lr9:=ltB hr9
 clear hW hb1' hk9 hr9 hs9 hm9
 have a1:=cellB hk0
 have a2:=upC hk0 (.cells #[.int .u8 0,.int .u64 0,.int .u64 0,.int .u64 0,.int .u64 0,.int .u8 0,.int .u64 0,.int .u64 0,.int .u64 0,.int .u64 0] 177)
 have a3:=cellB hs0
 have a4:=upC hs0 (.cells #[.int .u8 0,.int .u64 0,.int .u64 0,.int .u64 0,.int .u64 0,.int .u8 0,.int .u64 0,.int .u64 0,.int .u64 0,.int .u64 0] 177)
 have a5:=jaT (w:=W.drew) (MapG.kept hm0 rfl) hk hf
 have a6:=jaT (w:=(W.alloc (.cells #[.int .u8 0,.int .u64 0,.int .u64 0,.int .u64 0,.int .u64 0,.int .u8 0,.int .u64 0,.int .u64 0,.int .u64 0,.int .u64 0] 177)).drew) (MapG.kept hm0 (ja3 _ _ (MapG.lt hm0))) hk hf
 go_cut [9,10] (fun s5 s6 wx=>s5=.pointer (some ⟨W.heap.size,0,none⟩)∧s6=.bool true∧wx=(W.alloc (.cells #[.int .u8 p1.kd,.int .u64 p1.x,.int .u64 p1.y,.int .u64 p1.lv,.int .u64 p1.wn,.int .u8 p2.kd,.int .u64 p2.x,.int .u64 p2.y,.int .u64 p2.lv,.int .u64 p2.wn] 177)).drew)
 case first=>
  go_region
  all_goals (go_wp2_with fail;go_meet)
  all_goals exact⟨rfl,rfl,rfl⟩
 case rest=>
  obtain⟨rfl,rfl,rfl⟩:=hcut
  have hk1:=upB hk0 (.cells #[.int .u8 p1.kd,.int .u64 p1.x,.int .u64 p1.y,.int .u64 p1.lv,.int .u64 p1.wn,.int .u8 p2.kd,.int .u64 p2.x,.int .u64 p2.y,.int .u64 p2.lv,.int .u64 p2.wn] 177)
  have hr1:=upB hr0 (.cells #[.int .u8 p1.kd,.int .u64 p1.x,.int .u64 p1.y,.int .u64 p1.lv,.int .u64 p1.wn,.int .u8 p2.kd,.int .u64 p2.x,.int .u64 p2.y,.int .u64 p2.lv,.int .u64 p2.wn] 177)
  have hs1:=upB hs0 (.cells #[.int .u8 p1.kd,.int .u64 p1.x,.int .u64 p1.y,.int .u64 p1.lv,.int .u64 p1.wn,.int .u8 p2.kd,.int .u64 p2.x,.int .u64 p2.y,.int .u64 p2.lv,.int .u64 p2.wn] 177)
  have hq1:=upB hq0 (.cells #[.int .u8 p1.kd,.int .u64 p1.x,.int .u64 p1.y,.int .u64 p1.lv,.int .u64 p1.wn,.int .u8 p2.kd,.int .u64 p2.x,.int .u64 p2.y,.int .u64 p2.lv,.int .u64 p2.wn] 177)
  have hm1:MapE (W.alloc (.cells #[.int .u8 p1.kd,.int .u64 p1.x,.int .u64 p1.y,.int .u64 p1.lv,.int .u64 p1.wn,.int .u8 p2.kd,.int .u64 p2.x,.int .u64 p2.y,.int .u64 p2.lv,.int .u64 p2.wn] 177)) mp es:=MapG.kept hm0 (ja3 _ _ (MapG.lt hm0))
  have hB1:=hB.alloc hB.size (.cells #[.int .u8 p1.kd,.int .u64 p1.x,.int .u64 p1.y,.int .u64 p1.lv,.int .u64 p1.wn,.int .u8 p2.kd,.int .u64 p2.x,.int .u64 p2.y,.int .u64 p2.lv,.int .u64 p2.wn] 177)
  have hB0:=hB.size
  clear a1 a2 a3 a4 a5 a6 hk0 hr0 hs0 hm0 hq0
  have b1:=cellB hr1
  have b2:=ja2 hr1
  go_wp2
  refine bodyPost_ret (v:=.agg #[.int .u8 8,.int .u64 0,.int .u64 0]) (by simp [results,Tryz.results109,go_sem,b1]) rfl ⟨rfl,Below.drew ?_⟩
  repeat (refine Below.setCell ?_ (by simp <;> omega) _)
  exact hB1
theorem jes (sb mp:Nat)(s0 s1 sp adm:Value)(time blk:Int)(es:Es)(k:Ky)(w:World)(hs:w.heap[sb]?=some (.cells #[s0,s1,.int .u64 time,.int .u64 blk,.map (some mp),sp,adm] 130))(hm:MapE w mp es)(hk:k.ok)(kd x y:Int)(hso:((kd=1∧1≤x)∨(kd=2∧1≤y)))(p1 p2:Qt)(hf:fndG k es=some (p1,p2)) :
  Calls Tryz.prog 109 #[.pointer (some ⟨sb,2,none⟩),.agg #[.int .u8 k.k0,.int .u8 k.k1,.int .u8 k.k2,.int .u8 k.k3,.int .u8 k.k4,.int .u8 k.k5,.int .u8 k.k6,.int .u8 k.k7],.agg #[.int .u8 kd,.int .u64 x,.int .u64 y]] w fun e w'=>e=.returned (.agg #[.int .u8 9,.int .u64 0,.int .u64 0])∧Below w.heap.size w w':=by
 have hmlt:=MapG.lt hm
 have hsb:=ltB hs
 go_enter Tryz.func109,Tryz.ntmps109
 go_wp2_with fail
 refine (jdp kd x y _ hso).mono ?_
 rintro e w1 ⟨rfl,hb1⟩
 have hb1':Below w.heap.size w w1:=((((Below.refl _ w).alloc (Nat.le_refl _) _).alloc (by simp) _).alloc (by simp <;> omega) _).trans (hb1.mono (by simp <;> omega))
 have hk9:w1.heap[w.heap.size]?=some (.cells #[.int .u8 k.k0,.int .u8 k.k1,.int .u8 k.k2,.int .u8 k.k3,.int .u8 k.k4,.int .u8 k.k5,.int .u8 k.k6,.int .u8 k.k7] 63):=(hb1.block _ (by simp <;> omega)).trans (upB (upB (ja1 _ _) _) _)
 have hr9:w1.heap[w.heap.size+2]?=some (.cells #[.int .u8 0,.int .u64 0,.int .u64 0] 40):=(hb1.block _ (by simp <;> omega)).trans (heapN (by simp))
 have hs9:w1.heap[sb]?=some (.cells #[s0,s1,.int .u64 time,.int .u64 blk,.map (some mp),sp,adm] 130):=(hb1.block _ (by simp <;> omega)).trans (upB (upB (upB hs _) _) _)
 have hm9:MapE w1 mp es:=MapG.kept hm (hb1'.block mp hmlt)
 clear hb1 hs hm
 go_upto_region 2 with fail
 obtain⟨W,hW⟩:∃ W,W=w1.alloc (.cells #[.int .u8 kd,.int .u64 x,.int .u64 y,.int .u64 0,.int .u64 0] 173):=⟨_,rfl⟩
 rw [←hW]
 have hB:Below w.heap.size w W:=hW▸hb1'.alloc hb1'.size _
 have hk0:W.heap[w.heap.size]?=some (.cells #[.int .u8 k.k0,.int .u8 k.k1,.int .u8 k.k2,.int .u8 k.k3,.int .u8 k.k4,.int .u8 k.k5,.int .u8 k.k6,.int .u8 k.k7] 63):=hW▸upB hk9 _
 have hr0:W.heap[w.heap.size+2]?=some (.cells #[.int .u8 0,.int .u64 0,.int .u64 0] 40):=hW▸upB hr9 _
 have hs0:W.heap[sb]?=some (.cells #[s0,s1,.int .u64 time,.int .u64 blk,.map (some mp),sp,adm] 130):=hW▸upB hs9 _
 have hq0:W.heap[w1.heap.size]?=some (.cells #[.int .u8 kd,.int .u64 x,.int .u64 y,.int .u64 0,.int .u64 0] 173):=hW▸ja1 _ _
 have hm0:MapE W mp es:=hW▸MapG.kept hm9 (ja3 _ _ (MapG.lt hm9))
 have lr9:=ltB hr9
 clear hW hb1' hk9 hr9 hs9 hm9
 have a1:=cellB hk0
 have a2:=upC hk0 (.cells #[.int .u8 0,.int .u64 0,.int .u64 0,.int .u64 0,.int .u64 0,.int .u8 0,.int .u64 0,.int .u64 0,.int .u64 0,.int .u64 0] 177)
 have a3:=cellB hs0
 have a4:=upC hs0 (.cells #[.int .u8 0,.int .u64 0,.int .u64 0,.int .u64 0,.int .u64 0,.int .u8 0,.int .u64 0,.int .u64 0,.int .u64 0,.int .u64 0] 177)
 have a5:=jaT (w:=W.drew) (MapG.kept hm0 rfl) hk hf
 have a6:=jaT (w:=(W.alloc (.cells #[.int .u8 0,.int .u64 0,.int .u64 0,.int .u64 0,.int .u64 0,.int .u8 0,.int .u64 0,.int .u64 0,.int .u64 0,.int .u64 0] 177)).drew) (MapG.kept hm0 (ja3 _ _ (MapG.lt hm0))) hk hf
 go_cut [9,10] (fun s5 s6 wx=>s5=.pointer (some ⟨W.heap.size,0,none⟩)∧s6=.bool true∧wx=(W.alloc (.cells #[.int .u8 p1.kd,.int .u64 p1.x,.int .u64 p1.y,.int .u64 p1.lv,.int .u64 p1.wn,.int .u8 p2.kd,.int .u64 p2.x,.int .u64 p2.y,.int .u64 p2.lv,.int .u64 p2.wn] 177)).drew)
 case first=>
  go_region
  all_goals (go_wp2_with fail;go_meet)
  all_goals exact⟨rfl,rfl,rfl⟩
 case rest=>
  obtain⟨rfl,rfl,rfl⟩:=hcut
  have hk1:=upB hk0 (.cells #[.int .u8 p1.kd,.int .u64 p1.x,.int .u64 p1.y,.int .u64 p1.lv,.int .u64 p1.wn,.int .u8 p2.kd,.int .u64 p2.x,.int .u64 p2.y,.int .u64 p2.lv,.int .u64 p2.wn] 177)
  have hr1:=upB hr0 (.cells #[.int .u8 p1.kd,.int .u64 p1.x,.int .u64 p1.y,.int .u64 p1.lv,.int .u64 p1.wn,.int .u8 p2.kd,.int .u64 p2.x,.int .u64 p2.y,.int .u64 p2.lv,.int .u64 p2.wn] 177)
  have hs1:=upB hs0 (.cells #[.int .u8 p1.kd,.int .u64 p1.x,.int .u64 p1.y,.int .u64 p1.lv,.int .u64 p1.wn,.int .u8 p2.kd,.int .u64 p2.x,.int .u64 p2.y,.int .u64 p2.lv,.int .u64 p2.wn] 177)
  have hq1:=upB hq0 (.cells #[.int .u8 p1.kd,.int .u64 p1.x,.int .u64 p1.y,.int .u64 p1.lv,.int .u64 p1.wn,.int .u8 p2.kd,.int .u64 p2.x,.int .u64 p2.y,.int .u64 p2.lv,.int .u64 p2.wn] 177)
  have hm1:MapE (W.alloc (.cells #[.int .u8 p1.kd,.int .u64 p1.x,.int .u64 p1.y,.int .u64 p1.lv,.int .u64 p1.wn,.int .u8 p2.kd,.int .u64 p2.x,.int .u64 p2.y,.int .u64 p2.lv,.int .u64 p2.wn] 177)) mp es:=MapG.kept hm0 (ja3 _ _ (MapG.lt hm0))
  have hB1:=hB.alloc hB.size (.cells #[.int .u8 p1.kd,.int .u64 p1.x,.int .u64 p1.y,.int .u64 p1.lv,.int .u64 p1.wn,.int .u8 p2.kd,.int .u64 p2.x,.int .u64 p2.y,.int .u64 p2.lv,.int .u64 p2.wn] 177)
  have hB0:=hB.size
  clear a1 a2 a3 a4 a5 a6 hk0 hr0 hs0 hm0 hq0
  have b1:=cellB hr1
  have b2:=ja2 hr1
  go_wp2
  refine bodyPost_ret (v:=.agg #[.int .u8 9,.int .u64 0,.int .u64 0]) (by simp [results,Tryz.results109,go_sem,b1]) rfl ⟨rfl,Below.drew ?_⟩
  repeat (refine Below.setCell ?_ (by simp <;> omega) _)
  exact hB1
theorem jgP (sb mp:Nat)(s0 s1 sp adm:Value)(time blk:Int)(es:Es)(k:Ky)(w:World)(hs:w.heap[sb]?=some (.cells #[s0,s1,.int .u64 time,.int .u64 blk,.map (some mp),sp,adm] 130))(hm:MapE w mp es)(hk:k.ok)(kd x y:Int)(hso:((kd=1∧1≤x)∨(kd=2∧1≤y)))(hf:fndG k es=none)(hl:12≤es.length) :
  Calls Tryz.prog 109 #[.pointer (some ⟨sb,2,none⟩),.agg #[.int .u8 k.k0,.int .u8 k.k1,.int .u8 k.k2,.int .u8 k.k3,.int .u8 k.k4,.int .u8 k.k5,.int .u8 k.k6,.int .u8 k.k7],.agg #[.int .u8 kd,.int .u64 x,.int .u64 y]] w fun e w'=>e=.returned (.agg #[.int .u8 5,.int .u64 0,.int .u64 0])∧Below w.heap.size w w':=by
 have hmlt:=MapG.lt hm
 have hsb:=ltB hs
 go_enter Tryz.func109,Tryz.ntmps109
 go_wp2_with fail
 refine (jdp kd x y _ hso).mono ?_
 rintro e w1 ⟨rfl,hb1⟩
 have hb1':Below w.heap.size w w1:=((((Below.refl _ w).alloc (Nat.le_refl _) _).alloc (by simp) _).alloc (by simp <;> omega) _).trans (hb1.mono (by simp <;> omega))
 have hk9:w1.heap[w.heap.size]?=some (.cells #[.int .u8 k.k0,.int .u8 k.k1,.int .u8 k.k2,.int .u8 k.k3,.int .u8 k.k4,.int .u8 k.k5,.int .u8 k.k6,.int .u8 k.k7] 63):=(hb1.block _ (by simp <;> omega)).trans (upB (upB (ja1 _ _) _) _)
 have hr9:w1.heap[w.heap.size+2]?=some (.cells #[.int .u8 0,.int .u64 0,.int .u64 0] 40):=(hb1.block _ (by simp <;> omega)).trans (heapN (by simp))
 have hs9:w1.heap[sb]?=some (.cells #[s0,s1,.int .u64 time,.int .u64 blk,.map (some mp),sp,adm] 130):=(hb1.block _ (by simp <;> omega)).trans (upB (upB (upB hs _) _) _)
 have hm9:MapE w1 mp es:=MapG.kept hm (hb1'.block mp hmlt)
 clear hb1 hs hm
 go_upto_region 2 with fail
 obtain⟨W,hW⟩:∃ W,W=w1.alloc (.cells #[.int .u8 kd,.int .u64 x,.int .u64 y,.int .u64 0,.int .u64 0] 173):=⟨_,rfl⟩
 rw [←hW]
 have hB:Below w.heap.size w W:=hW▸hb1'.alloc hb1'.size _
 have hk0:W.heap[w.heap.size]?=some (.cells #[.int .u8 k.k0,.int .u8 k.k1,.int .u8 k.k2,.int .u8 k.k3,.int .u8 k.k4,.int .u8 k.k5,.int .u8 k.k6,.int .u8 k.k7] 63):=hW▸upB hk9 _
 have hr0:W.heap[w.heap.size+2]?=some (.cells #[.int .u8 0,.int .u64 0,.int .u64 0] 40):=hW▸upB hr9 _
 have hs0:W.heap[sb]?=some (.cells #[s0,s1,.int .u64 time,.int .u64 blk,.map (some mp),sp,adm] 130):=hW▸upB hs9 _
 have hq0:W.heap[w1.heap.size]?=some (.cells #[.int .u8 kd,.int .u64 x,.int .u64 y,.int .u64 0,.int .u64 0] 173):=hW▸ja1 _ _
 have hm0:MapE W mp es:=hW▸MapG.kept hm9 (ja3 _ _ (MapG.lt hm9))
 have lr9:=ltB hr9
 clear hW hb1' hk9 hr9 hs9 hm9
 have a1:=cellB hk0
 have a2:=upC hk0 (.cells #[.int .u8 0,.int .u64 0,.int .u64 0,.int .u64 0,.int .u64 0,.int .u8 0,.int .u64 0,.int .u64 0,.int .u64 0,.int .u64 0] 177)
 have a3:=cellB hs0
 have a4:=upC hs0 (.cells #[.int .u8 0,.int .u64 0,.int .u64 0,.int .u64 0,.int .u64 0,.int .u8 0,.int .u64 0,.int .u64 0,.int .u64 0,.int .u64 0] 177)
 have a5:=jbe (w:=W.drew) (MapG.kept hm0 rfl) hk hf
 have a6:=jbe (w:=(W.alloc (.cells #[.int .u8 0,.int .u64 0,.int .u64 0,.int .u64 0,.int .u64 0,.int .u8 0,.int .u64 0,.int .u64 0,.int .u64 0,.int .u64 0] 177)).drew) (MapG.kept hm0 (ja3 _ _ (MapG.lt hm0))) hk hf
 go_cut [9,10] (fun s5 s6 wx=>s5=.pointer (some ⟨W.heap.size,0,none⟩)∧s6=.bool false∧wx=(W.alloc (.cells #[.int .u8 0,.int .u64 0,.int .u64 0,.int .u64 0,.int .u64 0,.int .u8 0,.int .u64 0,.int .u64 0,.int .u64 0,.int .u64 0] 177)).drew)
 case first=>
  go_region
  all_goals (go_wp2_with fail;go_meet)
  all_goals exact⟨rfl,rfl,rfl⟩
 case rest=>
  obtain⟨rfl,rfl,rfl⟩:=hcut
  have hk1:=upB hk0 (.cells #[.int .u8 0,.int .u64 0,.int .u64 0,.int .u64 0,.int .u64 0,.int .u8 0,.int .u64 0,.int .u64 0,.int .u64 0,.int .u64 0] 177)
  have hr1:=upB hr0 (.cells #[.int .u8 0,.int .u64 0,.int .u64 0,.int .u64 0,.int .u64 0,.int .u8 0,.int .u64 0,.int .u64 0,.int .u64 0,.int .u64 0] 177)
  have hs1:=upB hs0 (.cells #[.int .u8 0,.int .u64 0,.int .u64 0,.int .u64 0,.int .u64 0,.int .u8 0,.int .u64 0,.int .u64 0,.int .u64 0,.int .u64 0] 177)
  have hq1:=upB hq0 (.cells #[.int .u8 0,.int .u64 0,.int .u64 0,.int .u64 0,.int .u64 0,.int .u8 0,.int .u64 0,.int .u64 0,.int .u64 0,.int .u64 0] 177)
  have hm1:MapE (W.alloc (.cells #[.int .u8 0,.int .u64 0,.int .u64 0,.int .u64 0,.int .u64 0,.int .u8 0,.int .u64 0,.int .u64 0,.int .u64 0,.int .u64 0] 177)) mp es:=MapG.kept hm0 (ja3 _ _ (MapG.lt hm0))
  have hB1:=hB.alloc hB.size (.cells #[.int .u8 0,.int .u64 0,.int .u64 0,.int .u64 0,.int .u64 0,.int .u8 0,.int .u64 0,.int .u64 0,.int .u64 0,.int .u64 0] 177)
  have hB0:=hB.size
  clear a1 a2 a3 a4 a5 a6 hk0 hr0 hs0 hm0 hq0
  have b1:=cellB hr1
  have b2:=ja2 hr1
  have b3:=cellB hs1
  have hlen:Hid ((Builtin.len_ #[121] 3 #[.map (some mp)]).run Tryz.prog (W.alloc (.cells #[.int .u8 0,.int .u64 0,.int .u64 0,.int .u64 0,.int .u64 0,.int .u8 0,.int .u64 0,.int .u64 0,.int .u64 0,.int .u64 0] 177)).drew=.ok (.int .i64 es.length) (W.alloc (.cells #[.int .u8 0,.int .u64 0,.int .u64 0,.int .u64 0,.int .u64 0,.int .u8 0,.int .u64 0,.int .u64 0,.int .u64 0,.int .u64 0] 177)).drew):=hide (MapG.len (w:=(W.alloc (.cells #[.int .u8 0,.int .u64 0,.int .u64 0,.int .u64 0,.int .u64 0,.int .u8 0,.int .u64 0,.int .u64 0,.int .u64 0,.int .u64 0] 177)).drew) (MapG.kept hm1 rfl) undE 3)
  have h12:decide ((12:Int)≤es.length)=true:=by simp;omega
  go_upto_region 7 with fail
  go_wp2_with (at_len;refine jbs _ (by rfl) _ _ (by rfl) _ (by rfl) _ hlen.out ?_)
  refine bodyPost_ret (v:=.agg #[.int .u8 5,.int .u64 0,.int .u64 0]) (by simp [results,Tryz.results109,go_sem,b1]) rfl ⟨rfl,Below.drew ?_⟩
  repeat (refine Below.setCell ?_ (by simp <;> omega) _)
  exact hB1
theorem jcP (q:Qt)(blk:Int)(hq:q.ok)(hb:0≤blk)(hle:q.kd≠1→q.lv≤q.x):Res blk q (jar q blk):=by
 have hk:=jdH q blk hq hb
 have hlv:=hq.lv
 have hxx:=hq.x
 have e:q.lv≤ja6 (q.lv+blk)∧ja6 (q.lv+blk)≤q.lv+blk:=by unfold ja6;split <;> omega
 refine⟨hk,?_,?_,?_,?_,?_,?_⟩ <;> unfold jar <;> split <;> first | rfl | skip
 ·exact e.1
 ·rename_i hkd
  have:=hle hkd
  show q.lv≤if ja6 (q.lv+blk)<q.x then ja6 (q.lv+blk) else q.x
  split <;> omega
 ·exact e.2
 ·show (if ja6 (q.lv+blk)<q.x then ja6 (q.lv+blk) else q.x)≤q.lv+blk
  split <;> omega
theorem jfB (z:Qt)(now n:Int)(hz:z.ok)(hn:0≤n)(h2:(admQ z now n).2.c=2):(admQ z now n).1.kd=z.kd∧(admQ z now n).1.x=z.x∧(admQ z now n).1.y=z.y∧((admQ z now n).1.kd≠1→(admQ z now n).1.lv≤(admQ z now n).1.x)∧((admQ z now n).1.wn=z.wn→z.lv≤(admQ z now n).1.lv)∧(z.kd≠1→(admQ z now n).1.wn=now / z.y):=by
 have hx:=hz.x
 unfold admQ at h2 ⊢
 by_cases hk:z.kd=1
 ·rw [if_pos hk] at h2 ⊢
  unfold admS at h2 ⊢
  split at h2
  ·rename_i h0
   rw [if_pos h0]
   exact⟨rfl,rfl,rfl,fun h=>absurd hk h,fun _=>Int.le_refl _,fun h=>absurd hk h⟩
  ·rename_i h0
   rw [if_neg h0]
   split at h2
   ·simp at h2
   ·rename_i h1
    rw [if_neg h1]
    split at h2
    ·simp at h2
    ·rename_i h3
     rw [if_neg h3]
     split at h2
     ·simp at h2
     ·rename_i h4
      rw [if_neg h4]
      refine⟨rfl,rfl,rfl,fun h=>absurd hk h,fun _=>?_,fun h=>absurd hk h⟩
      show z.lv≤jal z now+n * z.x
      have h5:z.lv≤jal z now:=by unfold jal;split <;> omega
      have h6:0≤n * z.x:=Int.mul_nonneg hn hx.1
      omega
 ·rw [if_neg hk] at h2 ⊢
  have hT:(turnM z now).kd=z.kd∧(turnM z now).x=z.x∧(turnM z now).y=z.y∧((turnM z now).wn=z.wn→(turnM z now).lv=z.lv)∧(turnM z now).wn=now / z.y:=by
   unfold turnM
   rw [if_neg hk]
   split
   ·rename_i h
    exact⟨rfl,rfl,rfl,fun _=>rfl,h.symm⟩
   ·rename_i h
    exact⟨rfl,rfl,rfl,fun e=>absurd e h,rfl⟩
  unfold admW at h2 ⊢
  split at h2
  ·rename_i h0
   rw [if_pos h0]
   refine⟨hT.1,hT.2.1,hT.2.2.1,fun _=>h0,fun e=>?_,fun _=>hT.2.2.2.2⟩
   have:=hT.2.2.2.1 e
   show z.lv≤(turnM z now).lv+n
   omega
  ·split at h2 <;> simp at h2
end Go.Proofs.YtnlgndpcddngoaaGreatDoor
namespace Go.Proofs.YtnlgndpcddngoaaGreatDoor
open Go.RowKit
theorem jdK (L:Ld)(now:Int)(h:L.ok)(h0:0≤now)(h1:now≤18446744073709551615):(passM L now).ok:=by
 refine⟨?_,h.adm,h.key,h.qt,h.nd,h.len⟩
 have:=h.time
 unfold passM
 dsimp only
 split <;> omega
end Go.Proofs.YtnlgndpcddngoaaGreatDoor
namespace Go.Proofs.YtnlgndpcddngoaaGreatDoor
open Go.RowKit Go.Maps
theorem jeu (n:Int)(h:n=0∨n=1∨n=2)(w:World):Calls Tryz.prog 216 #[.int .u64 n] w fun e w'=>e=.returned (.int .i64 n)∧w'=w:=by
 rcases h with rfl | rfl | rfl
 ·go_enter Tryz.func216,Tryz.ntmps216
  go_wp2
  go_ret
  exact⟨by kernel_rfl,rfl⟩
 ·go_enter Tryz.func216,Tryz.ntmps216
  go_wp2
  go_ret
  exact⟨by kernel_rfl,rfl⟩
 ·go_enter Tryz.func216,Tryz.ntmps216
  go_wp2
  go_ret
  exact⟨by kernel_rfl,rfl⟩
theorem jjP (s:ByteArray)(w:World):Calls Tryz.prog 278 #[.string s] w fun e w'=>e=.returned (.bool false)∧w'=w:=by
 go_enter Tryz.func278,Tryz.ntmps278
 go_wp2
 go_ret
 exact⟨rfl,rfl⟩
theorem jfu (a b:ByteArray)(w:World):Calls Tryz.prog 272 #[.string a,.string b] w fun e w'=>e=.returned (.bool (Op.bytesLess a.toList b.toList))∧w'=w:=by
 go_enter Tryz.func272,Tryz.ntmps272
 go_wp2_with (go_at_call 278;refine (jjP _ _).mono ?_;rintro e w' ⟨rfl,rfl⟩)
 all_goals go_ret
 all_goals exact⟨rfl,rfl⟩
theorem jbj (x:Option Addr)(m c:Nat)(n:Int)(h:n=0∨n=1)(w:World):Calls Tryz.prog 266 #[.slice x m c,.int .i64 0,.int .i64 n] w fun e w'=>e=.returned (.tuple #[])∧w'=w:=by
 have hn:¬(1:Int)<n:=by omega
 clear h
 go_enter Tryz.func266,Tryz.ntmps266
 go_wp2
 refine wp_loop_rounds 1 ?_
 rw [rounds_succ]
 go_wp2
 go_end0
 exact⟨rfl,rfl⟩
theorem jdg (g c:Nat)(a b:Bool)(w:World)(h0:w.cell? ⟨g,0,none⟩=some (.string (nameB a)))(h1:w.cell? ⟨g,1,none⟩=some (.string (nameB b)))(f0:w.frozen? ⟨g,0,none⟩=false)(f1:w.frozen? ⟨g,1,none⟩=false) :
  Calls Tryz.prog 266 #[.slice (some ⟨g,0,none⟩) 2 c,.int .i64 0,.int .i64 2] w fun e w'=>e=.returned (.tuple #[])∧((w'.cell? ⟨g,0,none⟩=some (.string (nameB a))∧w'.cell? ⟨g,1,none⟩=some (.string (nameB b)))∨(w'.cell? ⟨g,0,none⟩=some (.string (nameB b))∧w'.cell? ⟨g,1,none⟩=some (.string (nameB a))))∧Keep (fun x=>x=g) w w':=by
 have HL:=hide (jfu (nameB b) (nameB a))
 obtain⟨t,ht⟩:∃ t,t=Op.bytesLess (nameB b).toList (nameB a).toList:=⟨_,rfl⟩
 rw [←ht] at HL
 clear ht
 generalize nameB a=na at *
 generalize nameB b=nb at *
 go_enter Tryz.func266,Tryz.ntmps266
 go_wp2
 refine wp_loop_rounds 2 ?_
 rw [rounds_succ]
 go_wp2
 refine wp_loop_rounds 2 ?_
 rw [rounds_succ]
 go_upto_region 4 with fail
 cases t
 ·go_quiet ((go_at_call 272;refine Calls.quiet_of_same (HL.out _)))
  go_wp2
  rw [rounds_succ]
  go_wp2
  go_end0
  exact⟨rfl,Or.inl ⟨h0,h1⟩,⟨rfl,rfl,rfl,Nat.le_refl _,fun _ _ _=>rfl⟩⟩
 ·go_quiet ((go_at_call 272;refine Calls.quiet_of_same (HL.out _)))
  go_wp2
  go_region
  all_goals go_wp2
  all_goals rw [rounds_succ]
  all_goals go_upto_region 4 with fail
  all_goals go_quiet (fail)
  all_goals go_wp2
  all_goals rw [rounds_succ]
  all_goals go_wp2
  all_goals go_end0
  all_goals refine⟨rfl,Or.inr ?_,?_⟩
  all_goals first
   | (refine⟨?_,?_⟩ <;> simp [World.cell?_setCell_same,World.cell?_setCell_other,h0,h1])
   | (refine⟨rfl,rfl,rfl,by simp,fun k hk hne=>?_⟩;simp [World.drewN,ja0 hne])
theorem jed (v:Value)(x:Option Addr)(m c:Nat)(hv:v=.slice x m c)(hm:m≤2)(R:World→Prop)(w:World)(hI:Calls Tryz.prog 266 #[v,.int .i64 0,.int .i64 m] w fun e w'=>e=.returned (.tuple #[])∧R w') :
  Calls Tryz.prog 260 #[v] w fun e w'=>e=.returned (.tuple #[])∧R w':=by
 subst hv
 have hL:=jeu m (by omega)
 have hw:IntKind.u64.wrap (m:Int)=m:=by rw [IntKind.wrap_u64];omega
 have h12:(m:Int)≤12:=by omega
 have HI:=hide hI
 have HL:=hide hL
 clear hI hL hm
 have HP:Hid (∀ lim:Int,Calls Tryz.prog 265 #[.slice x m c,.int .i64 0,.int .i64 m,.int .i64 lim] w fun e w'=>e=.returned (.tuple #[])∧R w'):=hide (fun lim=>by
   have ws:IntKind.i64.wrap ((m:Int) - 0)=m:=by rw [IntKind.wrap_i64];omega
   go_enter Tryz.func265,Tryz.ntmps265
   go_wp2
   refine wp_loop_rounds 1 ?_
   rw [rounds_succ]
   go_wp2_with fail
   refine HI.out.mono ?_
   rintro e w' ⟨rfl,hR⟩
   have HR:=hide hR
   clear hR
   go_wp2
   exact bodyPost_ret (results_none rfl _ _ _) rfl ⟨rfl,HR.out⟩)
 go_enter Tryz.func260,Tryz.ntmps260
 go_wp2_with (first | (go_at_call 265;refine (HP.out _).mono ?_;rintro e w' ⟨rfl,hR⟩;have HR:=hide hR;clear hR) | (go_at_call 216;refine (HL.out _).mono ?_;rintro e w' ⟨rfl,rfl⟩) | (go_at_call 264;go_in) | (go_at_call 197;go_in))
 go_end0
 go_wp2
 go_end0
 exact⟨rfl,HR.out⟩
def NmAt (w:World)(v:Value)(bs:List Bool):Prop:=∃ a c,v=.slice a bs.length c∧(bs=[]∨∃ g,a=some ⟨g,0,none⟩∧∀ j,j<bs.length→w.cell? ⟨g,j,none⟩=some (nkv bs[j]!))
def nrow (bs:List Bool):List Value:=bs.map nkv
theorem jfm (base:Nat)(v:Value)(bs:List Bool)(w:World)(hl:bs.length≤2)(h:w.ownsRow base 9 1 v bs.length (nrow bs)) :
  Calls Tryz.prog 260 #[v] w fun e w'=>e=.returned (.tuple #[])∧∃ bs',bs'.Perm bs∧NmAt w' v bs'∧Keep (fun x=>v.ownBlock=some x) w w':=by
 obtain⟨a,c,hv⟩:=ja8 h
 by_cases h0:bs.length=0
 ·have hb:bs=[]:=List.length_eq_zero_iff.1 h0
  subst hb
  refine (jed v a 0 c hv (by omega) (fun w'=>w'=w) w (by subst hv;exact jbj a 0 c 0 (Or.inl rfl) w)).mono ?_
  rintro e w' ⟨rfl,rfl⟩
  exact⟨rfl,[],List.Perm.refl _,⟨a,c,hv,Or.inl rfl⟩,Keep.refl _ _⟩
 ·obtain⟨g,cap,cur,hv',hg,hpt⟩:∃ g cap cur,v=.slice (some ⟨g,0,none⟩) bs.length cap∧w.heap[g]?=some (.cells cur 9 (0,0))∧cur.toList.take bs.length=nrow bs:=by
   rcases h.2 with ⟨_,h⟩ | ⟨g',cap',cur,h,_,hh,_,_,_,h2⟩
   ·omega
   ·exact⟨g',cap',cur,h,hh,by simpa using h2⟩
  have hcc:∀ j,j<bs.length→w.cell? ⟨g,j,none⟩=some (nkv bs[j]!):=fun j hj=>by
   rw [cellB hg j,←Array.getElem?_toList,←List.getElem?_take_of_lt hj,hpt]
   unfold nrow
   rw [List.getElem?_map,List.getElem!_eq_getElem?_getD,List.getElem?_eq_getElem hj]
   rfl
  match bs,h0,hl,hv',hcc,hpt with
  | [x],_,_,hv',hcc,_=>
   refine (jed v (some ⟨g,0,none⟩) 1 cap hv' (by omega) (fun w'=>w'=w) w (by rw [hv'];exact jbj (some ⟨g,0,none⟩) 1 cap 1 (Or.inr rfl) w)).mono ?_
   rintro e w' ⟨rfl,rfl⟩
   exact⟨rfl,[x],List.Perm.refl _,⟨_,cap,hv',Or.inr ⟨g,rfl,hcc⟩⟩,Keep.refl _ _⟩
  | [x,y],_,_,hv',hcc,hpt=>
   have fr:=ja2 hg
   have e:v.ownBlock=some g:=by rw [hv'];rfl
   refine (jed v (some ⟨g,0,none⟩) 2 cap hv' (by omega) _ w (by rw [hv'];exact jdg g cap x y w (hcc 0 (by simp)) (hcc 1 (by simp)) (fr 0) (fr 1))).mono ?_
   rintro e w' ⟨rfl,hc,hk⟩
   have hk':Keep (fun x=>v.ownBlock=some x) w w':=hk.mono (fun x h _=>by rw [h];assumption)
   rcases hc with ⟨k0,k1⟩ | ⟨k0,k1⟩
   ·refine⟨rfl,[x,y],List.Perm.refl _,⟨_,cap,hv',Or.inr ⟨g,rfl,fun j hj=>?_⟩⟩,hk'⟩
    match j,hj with
    | 0,_=>exact k0
    | 1,_=>exact k1
   ·refine⟨rfl,[y,x],List.Perm.swap _ _ _,⟨_,cap,hv',Or.inr ⟨g,rfl,fun j hj=>?_⟩⟩,hk'⟩
    match j,hj with
    | 0,_=>exact k0
    | 1,_=>exact k1
theorem jeF (a b:Bool):(nkl a).sameKey (nkl b)=(a==b):=by cases a <;> cases b <;> rfl
theorem Tryz.infoStr:(Tryz.prog.info? 9).map (fun i=>(i.zero,i.size,i.bytes))=some (some (.string ⟨#[]⟩),1,16):=by kernel_rfl
theorem undN:Tryz.prog.underlying 85=some (.map 9 95):=Tryz.underlying85
theorem jgz:∀ (l:List Bool),l.Nodup→l.length≤2
 | [],_=>by simp
 | [_],_=>by simp
 | [_,_],_=>by simp
 | a :: b :: c :: r,h=>by cases a <;> cases b <;> cases c <;> simp at h
theorem jc7 (db nb:Nat)(c0 c2 c3 c4:Value)(fs:Fs)(w:World)(hd:w.heap[db]?=some (.cells #[c0,.map (some nb),c2,c3,c4,.bool false] 88))(hD:DirAt w nb fs) :
  Calls Tryz.prog 255 #[.pointer (some ⟨db,0,none⟩)] w fun e w'=>∃ v bs,e=.returned (.tuple #[v,.nilIface])∧(∀ b,b∈bs↔(fndG b fs).isSome=true)∧bs.length≤2∧NmAt w' v bs∧Below w.heap.size w w':=by
 obtain⟨i0,hi,hz0,hz1,hz2⟩:=info_parts Tryz.infoStr
 obtain⟨n,D0,ho,hDat⟩:=hD.map
 have hsz:Maps.size D0≤2:=by rw [hDat.size];exact hD.len
 have hbl:=ho.lt
 have a1:=cellB hd
 have HD:=hide hDat
 have HSZ:=hide hsz
 clear hDat hD hsz
 go_enter Tryz.func255,Tryz.ntmps255
 go_wp2_with (first
   | (at_range;refine wpList_range_own _ rfl _ 85 rfl 9 95 mname.keyed undN _ nb n _ rfl ho ?_;intro w0 hrg0 hg0 hs0)
   | go_in)
 go_frame
 have hb0:Below w.heap.size w w0:=(Below.refl _ w).grown hg0 (Nat.le_refl _) (fun k e=>by cases e)
 have hs0':w.heap.size+1≤w0.heap.size:=by omega
 have HB0:=hide hb0
 have HR0:=hide hrg0
 have HS0:=hide hs0'
 clear ho hrg0 hg0 hs0 hb0 hs0' a1
 go_loopw [4] (fun v wr=>∃ (left:Lit→Bool) (cnt:Nat) (bs:List Bool),wr.ranges Tryz.prog 9 heldE nb w.heap.size n D0 left cnt∧wr.ownsRow (w.heap.size+1) 9 1 v bs.length (nrow bs)∧(∀ b,b∈bs↔(fndG b fs).isSome=true∧left (nkl b)=false)∧bs.Nodup∧Below w.heap.size w wr∧w.heap.size+1≤wr.heap.size)
  (fun _ wr=>wr.rangeLeft nb w.heap.size)
 case atStart=>
  refine⟨_,_,[],HR0.out,World.ownsRow_nil _ _ _ _,fun b=>?_,List.nodup_nil,HB0.out,HS0.out⟩
  rw [HD.out.has b trivial]
  cases fndG b fs <;> simp
 case round=>
  obtain⟨left,cnt,bs,hrg,hrow,hmem,hnd,hbel,hwr⟩:=hrel
  obtain⟨a0,d0,e0⟩:=ja8 hrow
  subst e0
  have hnl:=jgz bs hnd
  have HROW:=hide hrow
  have HM:=hide hmem
  have HND:=hide hnd
  have HBEL:=hide hbel
  have HWR:=hide hwr
  clear hrow hmem hnd hbel hwr
  go_wp2_with (first
    | (at_next;refine jba (P:=Tryz.prog) (kt:=9) _ mname rfl _ rfl nb w.heap.size n D0 fs HD.out left cnt rfl hrg ?_ ?_)
    | go_in)
  ·intro hc0 hl0
   have HL0:=hide hl0
   clear hl0 hc0 hrg
   have HSO:=hide (jfm (w.heap.size+1) (.slice a0 bs.length d0) bs wr hnl HROW.out)
   go_wp2_with (go_at_call 260;refine HSO.out.mono ?_;rintro e w2 ⟨rfl,bs',hp,hn,hk⟩;have HP:=hide hp;have HN:=hide hn;have HK:=hide hk;clear hp hn hk)
   go_ret2
   refine⟨_,bs',rfl,fun b=>(HP.out.mem_iff).trans ((HM.out b).trans ⟨fun h=>h.1,fun h=>⟨h,HL0.out _⟩⟩),by rw [HP.out.length_eq];exact hnl,HN.out,HBEL.out.trans (HK.out.below HBEL.out.size (fun k hk=>?_))⟩
   have:=(ja5 HROW.out hk).1
   omega
  ·refine⟨?_,?_⟩
   ·intro p1 p2 w1 cnt1 hp hlk hat hrg1 hlt hg1 hs1 hen
    simp only [nkv,evF] at hen ⊢
    have hrow1:w1.ownsRow (w.heap.size+1) 9 1 (.slice a0 bs.length d0) bs.length (nrow bs):=ja7 HROW.out (fun g hg=>hg1.block g (ja5 HROW.out hg).2 (fun e=>by
      have h1:=(ja5 HROW.out hg).1
      injection e with e
      omega))
    have hbel1:Below w.heap.size w w1:=HBEL.out.grown hg1 HBEL.out.size (fun k e=>by cases e;exact Nat.le_refl _)
    have hwr1:w.heap.size+1≤w1.heap.size:=by have:=HWR.out;omega
    have HRG:=hide hrg1
    have HRG0:=hide hrg
    have HLT:=hide hlt
    have HLK:=hide hlk
    have HP:=hide hp
    have HB1:=hide hbel1
    have HW1:=hide hwr1
    clear hrg1 hrg hlt hlk hp hbel1 hwr1 hat hg1 hs1
    go_wp2_with (first
      | (at_builtin;refine wpList_append_own_at (w:=_) rfl _ _ 279 rfl (w.heap.size+1) 9 i0 (.string ⟨#[]⟩) 1 16 Tryz.underlying279 hi hz0 hz1 hz2 rfl (by decide) (.slice a0 bs.length d0) bs.length _ rfl (hrow1.alloc _) ⟨w1.heap.size,0,none⟩ 1 1 [.string (nameB false)] rfl rfl (cell_one_new _ _ _) (by simp [Value.oneCell']) (by unfold maxLen;omega) (by omega) (by have:=HW1.out;simp;omega) ?_;intro v2 w2 hown2 hgrow2 _ hat2;obtain⟨a2,d2,e2⟩:=ja8 hown2;subst e2)
      | go_in)
    have hrow0:=HROW.out
    have hne:∀ x,(Value.slice a0 bs.length d0).ownBlock=some x→w.heap.size+1≤x:=fun x hx=>(ja5 hrow0 hx).1
    have hrg2:=(HRG.out.alloc (.cells #[.string (nameB false)] 9)).kept hgrow2 (fun e=>by have:=hne nb e.symm;omega) (fun e=>by have:=hne _ e.symm;omega)
    go_roundw
    case rel=>
     refine⟨_,cnt1,bs ++ [false],hrg2,?_,fun b=>?_,?_,(HB1.out.alloc HB1.out.size _).grown hgrow2 (by have:=HB1.out.size;simp;omega) (fun x e=>by have:=hne x e;omega),by have:=hgrow2.size;have h1:=HW1.out;simp at this;omega⟩
     ·simpa [nrow,nkv] using hown2
     ·rw [jeF,List.mem_append,HM.out b,List.mem_singleton]
      by_cases hbk:b=false
      ·subst hbk
       simp [HP.out]
      ·simp [hbk]
     ·refine List.nodup_append.2 ⟨HND.out,by simp,fun x hx y hy=>?_⟩
      rw [List.mem_singleton] at hy
      subst hy
      intro e
      subst e
      have:=((HM.out _).1 hx).2
      rw [HLK.out] at this
      cases this
    case measure=>rw [hrg2.left_eq,HRG0.out.left_eq];exact HLT.out
   ·intro p1 p2 w1 cnt1 hp hlk hat hrg1 hlt hg1 hs1 hen
    simp only [nkv,evF] at hen ⊢
    have hrow1:w1.ownsRow (w.heap.size+1) 9 1 (.slice a0 bs.length d0) bs.length (nrow bs):=ja7 HROW.out (fun g hg=>hg1.block g (ja5 HROW.out hg).2 (fun e=>by
      have h1:=(ja5 HROW.out hg).1
      injection e with e
      omega))
    have hbel1:Below w.heap.size w w1:=HBEL.out.grown hg1 HBEL.out.size (fun k e=>by cases e;exact Nat.le_refl _)
    have hwr1:w.heap.size+1≤w1.heap.size:=by have:=HWR.out;omega
    have HRG:=hide hrg1
    have HRG0:=hide hrg
    have HLT:=hide hlt
    have HLK:=hide hlk
    have HP:=hide hp
    have HB1:=hide hbel1
    have HW1:=hide hwr1
    clear hrg1 hrg hlt hlk hp hbel1 hwr1 hat hg1 hs1
    go_wp2_with (first
      | (at_builtin;refine wpList_append_own_at (w:=_) rfl _ _ 279 rfl (w.heap.size+1) 9 i0 (.string ⟨#[]⟩) 1 16 Tryz.underlying279 hi hz0 hz1 hz2 rfl (by decide) (.slice a0 bs.length d0) bs.length _ rfl (hrow1.alloc _) ⟨w1.heap.size,0,none⟩ 1 1 [.string (nameB true)] rfl rfl (cell_one_new _ _ _) (by simp [Value.oneCell']) (by unfold maxLen;omega) (by omega) (by have:=HW1.out;simp;omega) ?_;intro v2 w2 hown2 hgrow2 _ hat2;obtain⟨a2,d2,e2⟩:=ja8 hown2;subst e2)
      | go_in)
    have hrow0:=HROW.out
    have hne:∀ x,(Value.slice a0 bs.length d0).ownBlock=some x→w.heap.size+1≤x:=fun x hx=>(ja5 hrow0 hx).1
    have hrg2:=(HRG.out.alloc (.cells #[.string (nameB true)] 9)).kept hgrow2 (fun e=>by have:=hne nb e.symm;omega) (fun e=>by have:=hne _ e.symm;omega)
    go_roundw
    case rel=>
     refine⟨_,cnt1,bs ++ [true],hrg2,?_,fun b=>?_,?_,(HB1.out.alloc HB1.out.size _).grown hgrow2 (by have:=HB1.out.size;simp;omega) (fun x e=>by have:=hne x e;omega),by have:=hgrow2.size;have h1:=HW1.out;simp at this;omega⟩
     ·simpa [nrow,nkv] using hown2
     ·rw [jeF,List.mem_append,HM.out b,List.mem_singleton]
      by_cases hbk:b=true
      ·subst hbk
       simp [HP.out]
      ·simp [hbk]
     ·refine List.nodup_append.2 ⟨HND.out,by simp,fun x hx y hy=>?_⟩
      rw [List.mem_singleton] at hy
      subst hy
      intro e
      subst e
      have:=((HM.out _).1 hx).2
      rw [HLK.out] at this
      cases this
    case measure=>rw [hrg2.left_eq,HRG0.out.left_eq];exact HLT.out
namespace Con
def ren:Go.Shelf.Ren:=⟨fun n=>if n=29 then 167 else 146,fun n=>if n=0 then 0 else if n=3 then 3 else if n=4 then 4 else if n=22 then 279 else 9,fun n=>n⟩
theorem lays:SlLaysE.n31 Tryz.prog ren where
 mixed:=by first | exact Tryz.mixed | kernel_rfl | decide
 f29:=⟨Tryz.f167.name,by kernel_rfl,by kernel_rfl⟩
 f31:=⟨Tryz.f146.name,by kernel_rfl,by kernel_rfl⟩
 t0:=by first | exact Tryz.underlying0 | kernel_rfl
 a0:=by first | exact Tryz.isAgg0 | (intro w;kernel_rfl)
 z0:=by first | exact Tryz.sizeOf0 | (intro w;kernel_rfl)
 v0:=by first | exact Tryz.zeroValue0 | (intro w;kernel_rfl)
 t3:=by first | exact Tryz.underlying3 | kernel_rfl
 a3:=by first | exact Tryz.isAgg3 | (intro w;kernel_rfl)
 z3:=by first | exact Tryz.sizeOf3 | (intro w;kernel_rfl)
 v3:=by first | exact Tryz.zeroValue3 | (intro w;kernel_rfl)
 t4:=by first | exact Tryz.underlying4 | kernel_rfl
 a4:=by first | exact Tryz.isAgg4 | (intro w;kernel_rfl)
 z4:=by first | exact Tryz.sizeOf4 | (intro w;kernel_rfl)
 v4:=by first | exact Tryz.zeroValue4 | (intro w;kernel_rfl)
 t22:=by first | exact Tryz.underlying279 | kernel_rfl
 a22:=by first | exact Tryz.isAgg279 | (intro w;kernel_rfl)
 z22:=by first | exact Tryz.sizeOf279 | (intro w;kernel_rfl)
 v22:=by first | exact Tryz.zeroValue279 | (intro w;kernel_rfl)
 a23:=by first | exact Tryz.isAgg9 | (intro w;kernel_rfl)
 z23:=by first | exact Tryz.sizeOf9 | (intro w;kernel_rfl)
theorem eql:EqlAt Tryz.prog 9 nkv (fun x y:Bool=>x==y):=by
 have h:=EqlAt.string Tryz.prog 9
 refine⟨fun x y w=>?_,fun op a b x y w=>h.2 op a b (nameB x) (nameB y) w⟩
 have:=h.1 (nameB x) (nameB y) w
 refine this.trans ?_
 cases x <;> cases y <;> kernel_rfl
end Con
theorem jbb (v:Value)(bs:List Bool)(x:Bool)(w:World)(h:NmAt w v bs)(hl:bs.length≤2) :
  Calls Tryz.prog 146 #[v,.string (nameB x)] w fun e w'=>e=.returned (.bool (bs.any fun y=>x==y))∧w'=w:=by
 obtain⟨a,c,rfl,h⟩:=h
 rcases h with rfl | ⟨g,rfl,hc⟩
 ·exact AnyE.slices_Contains_empty (P:=Tryz.prog) (ρ:=Con.ren) Con.lays a c (.string (nameB x)) w
 ·have:=AnyE.slices_Contains (P:=Tryz.prog) (ρ:=Con.ren) Con.lays nkv (fun x y:Bool=>x==y) Con.eql g 0 bs.length c bs x w (Nat.le_refl _) (by omega) (fun j hj=>by rw [Nat.zero_add];exact hc j hj)
  rw [List.take_length] at this
  exact this
theorem jbc (h:Value)(w:World):(Go.method 510 78 h "Names").run Tryz.prog w=.ok (255,h) w:=by kernel_rfl
end Go.Proofs.YtnlgndpcddngoaaGreatDoor
namespace Go.Proofs.YtnlgndpcddngoaaGreatDoor
open Go.RowKit Go.Maps
theorem jiK (db mb base:Nat)(m1 pv:Value)(fs:Fs)(b:Bool)(s:ByteArray)(l f:Int)(w:World)(hd:w.heap[db]?=some (.cells #[.map (some mb),m1,pv,.int .i64 l,.int .i64 f,.bool false] 88))(hD:DirAt w mb fs)(hl:l≠0)(hf:f≠0)
  (hown:w.ownsRow base 146 3 pv 1 [.int .i64 3,.string (nameB b),.string s]) :
  Calls Tryz.prog 258 #[.pointer (some ⟨db,0,none⟩)] w fun e w'=>e=.returned .nilIface∧∃ g,w'.heap[db]?=some (.cells #[.map (some mb),m1,.slice none 0 0,.int .i64 (decM l),.int .i64 (decM f),.bool false] 88)∧w.heap.size≤g∧DirAt w' mb (delG b fs)∧Keep (fun c=>c=db∨c=mb) w w':=by
 obtain⟨gp,cap,cur,rfl,hpd,hpl,hpc,hpt⟩:∃ gp cap cur,pv=.slice (some ⟨gp,0,none⟩) 1 cap∧gp≠db∧gp<w.heap.size∧w.heap[gp]?=some (.cells cur 146 (0,0))∧cur.toList.take 3=[.int .i64 3,.string (nameB b),.string s]:=by
  rcases hown.2 with ⟨_,h⟩ | ⟨g',cap',cur,h,_,hh,_,_,_,h2⟩
  ·omega
  ·subst h
   exact⟨g',cap',cur,rfl,jab hown rfl hd (by decide),ltB hh,hh,by simpa using h2⟩
 have hmd:mb≠db:=hD.map.ne hd
 have hmg:mb≠gp:=hD.map.ne hpc
 have hcc:∀ j,j<3→cur[j]?=([.int .i64 3,.string (nameB b),.string s]:List Value)[j]?:=fun j hj=>by
  rw [←hpt,List.getElem?_take,if_pos hj,Array.getElem?_toList]
 have HNP:∀ p∈fs,¬p.2.1=db:=fun p hp e=>by have:=hD.str p hp;rw [e,hd] at this;simp at this
 have HD:=hide hD
 have HP:=hide HNP
 have HPC:=hide hpc
 have HCC:=hide hcc
 clear hown hD HNP hpc hcc hpt
 go_enter Tryz.func258,Tryz.ntmps258
 go_wp2_with fail
 refine (jbB db _ _ _ l f w hd hl hf).mono ?_
 rintro e w1 ⟨rfl,hd1,hk1⟩
 have hp1:=(hk1.block gp hpl hpd).trans HPC.out
 have hD1:DirAt w1 mb fs:=HD.out.keep hk1 hmd HP.out
 have k0:w1.cell? ⟨gp,0,none⟩=some (.int .i64 3):=(cellB hp1 0).trans (HCC.out 0 (by omega))
 have k1:w1.cell? ⟨gp,1,none⟩=some (.string (nameB b)):=(cellB hp1 1).trans (HCC.out 1 (by omega))
 have k2:w1.cell? ⟨gp,2,none⟩=some (.string s):=(cellB hp1 2).trans (HCC.out 2 (by omega))
 have a1:=cellB hd1
 have HD1:=hide hD1
 have HK1:=hide hk1
 clear hD1 hk1
 go_wp2_with fail
 refine wp_loop_rounds 2 ?_
 rw [rounds_succ]
 obtain⟨V,hV⟩:∃ V,V=w1.alloc (.cells #[.int .i64 3,.string (nameB b),.string s] 146):=⟨_,rfl⟩
 obtain⟨O,hO⟩:∃ O,O=w1.heap.size:=⟨_,rfl⟩
 have h0:V.heap[O]?=some (.cells #[.int .i64 3,.string (nameB b),.string s] 146):=by rw [hO,hV];exact ja1 _ _
 have hdV:V.heap[db]?=_:=hV▸upB hd1 _
 have hDV:DirAt V.drew mb fs:=HD1.out.kept (hV▸ja3 _ _ HD1.out.map.lt) (fun p hp=>hV▸ja3 _ _ (ltB (HD1.out.str p hp)))
 have hKV:Keep (fun _=>False) w1 V:=hV▸(Keep.refl _ w1).alloc _
 have HDV:=hide hDV
 have HKV:=hide hKV
 have HO:=hide hO
 clear hDV hKV
 go_upto_region 7 with fail
 rw [←hV,←hO]
 clear hV hO k0 k1 k2 a1
 have b1:=cellB hdV
 have b2:=cellB h0
 go_region_law (refine jaj (by rfl) 59 jeO _ _ (by rfl) #[.map (some mb),.agg #[.int .i64 3,.string (nameB b),.string s]] (by simp only [List.map_toArray,List.map_cons,List.map_nil];rfl) (do59d mb fs b s _ HDV.out) ?_;rintro e w2 ⟨rfl,hD2,hk2⟩;refine⟨_,rfl,?_⟩;have HD2:=hide hD2;have HK2:=hide hk2;clear hD2 hk2)
 all_goals (
   have hg3:Hid (w1.heap.size≤V.heap.size+1):=hide (Nat.le_trans HKV.out.size (Nat.le_succ _))
   have HK3:Hid (Keep (fun c=>c=mb) w1 w2):=hide ((HKV.out.mono (fun _ h _=>h.elim)).then (b:=V) ⟨HK2.out.os,HK2.out.tape,HK2.out.output,HK2.out.size,HK2.out.block⟩ (fun i _ h=>h))
   have hd3:=(HK3.out.block db (ltB hd1) (fun e=>hmd e.symm)).trans hd1
   have c1:=cellB hd3
   have c2:=ja2 hd3
   clear b1 b2 HK2
   go_wp2
   rw [rounds_succ]
   go_wp2
   go_ret
   have hs1:=HK1.out.size
   refine⟨rfl,V.heap.size+1,by simpa using ja4 hd3 2 (.slice none 0 0),?_,HD2.out.kept (ja0 hmd _ _) (fun p hp=>ja0 (fun e=>by have:=HD2.out.str p hp;rw [e,hd3] at this;simp at this) _ _),?_⟩
   · have:=hg3.out
     show w.heap.size≤V.heap.size+1
     omega
   · refine Keep.set ?_ (Or.inl (Or.inl rfl)) _ _
     exact (HK1.out.mono (fun k h _=>Or.inl h)).then HK3.out (fun i _ h=>Or.inr h))
theorem jj6 (db nb:Nat)(m0:Value)(fs:Fs)(b:Bool)(s:ByteArray)(l f:Int)(w:World)(hd:w.heap[db]?=some (.cells #[m0,.map (some nb),.slice none 0 0,.int .i64 l,.int .i64 f,.bool false] 88))(hD:DirAt w nb fs)(hl:l≠0)(hf:f≠0)(hin:(fndG b fs).isSome=true) :
  Calls Tryz.prog 261 #[.pointer (some ⟨db,0,none⟩),.agg #[.int .i64 3,.string (nameB b),.string s]] w fun e w'=>e=.returned .nilIface∧∃ pv,w'.heap[db]?=some (.cells #[m0,.map (some nb),pv,.int .i64 (decM l),.int .i64 (decM f),.bool false] 88)∧DirAt w' nb (delG b fs)∧w'.ownsRow w.heap.size 146 3 pv 1 [.int .i64 3,.string (nameB b),.string s]∧Keep (fun c=>c=db∨c=nb) w w':=by
 obtain⟨i0,hi,hz0,hz1,hz2⟩:=info_parts Tryz.infoOp
 have hnd:nb≠db:=hD.map.ne hd
 obtain⟨V,hV⟩:∃ V,V=w.alloc (.cells #[.int .i64 3,.string (nameB b),.string s] 146):=⟨_,rfl⟩
 obtain⟨O,hO⟩:∃ O,O=w.heap.size:=⟨_,rfl⟩
 have h0:V.heap[O]?=some (.cells #[.int .i64 3,.string (nameB b),.string s] 146):=by rw [hO,hV];exact ja1 _ _
 have hdV:V.heap[db]?=_:=hV▸upB hd _
 have hDV:DirAt V nb fs:=hD.kept (hV▸ja3 _ _ hD.map.lt) (fun p hp=>hV▸ja3 _ _ (ltB (hD.str p hp)))
 have hKV:Keep (fun c=>c=db∨c=nb) w V:=hV▸(Keep.refl _ w).alloc _
 have hOd:O≠db:=by have:=ltB hd;omega
 have hOn:O≠nb:=by have:=hD.map.lt;omega
 have hsV:V.heap.size=O+1:=by rw [hV,hO];simp
 have HNP:∀ p∈fs,¬p.2.1=db:=fun p hp e=>by have:=hD.str p hp;rw [e,hd] at this;simp at this
 have HD:=hide hDV
 have HK:=hide hKV
 have HS:=hide hsV
 have HO:=hide hO
 have HP:=hide HNP
 clear hD hDV hKV hsV hd HNP
 go_enter Tryz.func261,Tryz.ntmps261
 go_upto_region 1 with fail
 rw [←hV,←hO]
 clear hV hO
 go_wp2_with fail
 refine (jbB db _ _ _ l f V hdV hl hf).mono ?_
 rintro e w1 ⟨rfl,hd1,hk1⟩
 have h1:=(hk1.block O (ltB h0) hOd).trans h0
 have hD1:DirAt w1 nb fs:=HD.out.keep hk1 hnd HP.out
 have HD1:=hide hD1
 have HK1:=hide hk1
 clear hk1 hD1
 go_upto_region 6 with fail
 obtain⟨pv0,hpv0⟩:∃ pv0,pv0=lookG evF (.pointer none) (fndG b fs):=⟨_,rfl⟩
 have hpp:∃ x,pv0=.pointer x:=by
  rw [hpv0]
  cases fndG b fs with
  | none=>exact⟨_,rfl⟩
  | some p=>exact⟨_,rfl⟩
 obtain⟨px,hpx⟩:=hpp
 obtain⟨ok,hok,hokt⟩:∃ ok,ok=(fndG b fs).isSome∧ok=true:=⟨_,rfl,hin⟩
 have HOK:=hide hokt
 clear hokt hin
 have hlk:(Instr.lookup 85 (.map (some nb)) (.string (nameB b)) true).run Tryz.prog w1.drew=.ok (.tuple #[.pointer px,.bool ok]) w1.drew:=by
  have:=MapG.look mname (w:=w1.drew) (HD1.out.map.kept rfl) (k:=b) trivial Tryz.underlying85 (zeroP _)
  rw [←hpv0,←hok,hpx] at this
  exact this
 clear hpv0 hpx hok
 have a1:=cellB hd1
 have a2:=cellB h1
 go_cut [6,7] (fun s6 s7 wx=>s6=.pointer px∧s7=.bool ok∧wx=w1.drew)
 case first=>
  go_region
  all_goals (go_wp2_with fail;go_meet)
  all_goals exact⟨rfl,rfl,rfl⟩
 case rest=>
  obtain⟨rfl,rfl,rfl⟩:=hcut
  clear hlk
  have HDD:Hid (DirAt w1.drew.drew nb fs):=hide (HD1.out.kept rfl (fun _ _=>rfl))
  have hokt:=HOK.out
  subst hokt
  all_goals (
    go_upto_region 9 with fail
    go_cut [] (fun wx=>∃ (W:World) (g:Nat),W=wx∧w1.heap.size≤g∧DirAt W nb (delG b fs)∧Keep (fun c=>c=nb) w1 W)
    case first=>
      go_region_law (refine jaj (by rfl) 59 jeO _ _ (by rfl) #[.map (some nb),.agg #[.int .i64 3,.string (nameB b),.string s]] (by simp only [List.map_toArray,List.map_cons,List.map_nil];rfl) (do59d nb fs b s _ HDD.out) ?_;rintro e w2 ⟨rfl,hD2,hk2⟩;refine⟨_,rfl,?_⟩;have HD2:=hide hD2;have HK2:=hide hk2;clear hD2 hk2)
      all_goals (go_wp2_with fail;go_meet)
      all_goals exact⟨_,_,rfl,Nat.le_succ _,HD2.out,⟨HK2.out.os,HK2.out.tape,HK2.out.output,HK2.out.size,HK2.out.block⟩⟩
    case rest=>
      obtain⟨W,g,rfl,hg,hD3,hk3⟩:=hcut
      have hd3:=(hk3.block db (ltB hd1) (fun e=>hnd e.symm)).trans hd1
      have h3:=(hk3.block O (ltB h1) hOn).trans h1
      have hs3:O+1≤W.heap.size:=by have x1:=HS.out;have x2:=HK1.out.size;have x3:=hk3.size;omega
      have HD3:=hide hD3
      have HK3:=hide hk3
      have HG:=hide hg
      have HS3:=hide hs3
      have bu1:=upC hd3 (.cells #[.int .i64 3,.string (nameB b),.string s] 146)
      have b1:=cellB hd3
      have b2:=cellB h3
      have nD:(Value.slice none 0 0).ownBlock≠some db:=by simp [Value.ownBlock]
      clear a1 a2 hD3 hk3 hg hs3
      go_upto_region 10 with fail
      go_region_law (refine jah (by rfl) _ _ 86 146 i0 (.agg #[.int .i64 0,.string ⟨#[]⟩,.string ⟨#[]⟩]) 3 40 Tryz.underlying86 hi hz0 hz1 hz2 rfl (by decide) (by rfl) O (.slice none 0 0) 0 [] (by rfl) (World.ownsRow_nil _ _ _ _) ⟨W.heap.size,0,none⟩ 1 1 [.int .i64 3,.string (nameB b),.string s] (by rfl) (by rfl) (jcS W _ _ _ _) (by simp [Value.oneCell']) (by omega) (by omega) (by have:=HS3.out;simp;omega) ?_;intro v5 w5 hown5 hgrow5 hat5;obtain⟨a5,c5,e5⟩:=ja8 hown5;subst e5;have hd5:=(hgrow5.block db (by have:=ltB hd3;simp;omega) (fun e=>nD e.symm)).trans ((ja3 _ _ (ltB hd3)).trans hd3);have d1:=cellB hd5;have d2:=ja2 hd5;have HO5:=hide hown5;have HG5:=hide hgrow5;clear hown5 hgrow5 hat5)
      all_goals go_wp2
      all_goals go_ret
      all_goals (
        have hX:∀ k o,W.heap[k]?=some o→w5.heap[k]?=some o:=fun k o h=>(HG5.out.block k (by have:=ltB h;show k<(W.alloc _).heap.size;simp;omega) (by simp [Value.ownBlock])).trans ((ja3 _ _ (ltB h)).trans h)
        have hK5:Keep (fun _=>False) W w5:=⟨HG5.out.os,HG5.out.tape,HG5.out.output,Nat.le_trans (by show W.heap.size≤(W.alloc _).heap.size;simp) HG5.out.size,fun k hk _=>(HG5.out.block k (by show k<(W.alloc _).heap.size;simp;omega) (by simp [Value.ownBlock])).trans (ja3 _ _ hk)⟩
        refine⟨rfl,.slice a5 (0+1) c5,by simpa using ja4 hd5 2 (.slice a5 (0+1) c5),?_,?_,?_⟩
        · have hD5:DirAt w5 nb (delG b fs):=HD3.out.keep hK5 (fun h=>h) (fun _ _ h=>h)
          exact hD5.kept (ja0 hnd _ _) (fun p hp=>ja0 (fun e=>by have:=hD5.str p hp;rw [e,hd5] at this;simp at this) _ _)
        · rw [←HO.out]
          exact ownsRow_setCell_other HO5.out (a:=⟨db,2,none⟩) (fun e=>jab HO5.out e hd5 (by decide) rfl) _
        · refine Keep.set ?_ (Or.inl (Or.inl rfl)) _ _
          exact ((HK.out.then HK1.out (fun i _ h=>Or.inl h)).then HK3.out (fun i _ h=>Or.inr h)).then hK5 (fun i _ h=>h.elim)))
theorem jgV (db nb:Nat)(m0:Value)(fs:Fs)(b:Bool)(l f:Int)(w:World)(hd:w.heap[db]?=some (.cells #[m0,.map (some nb),.slice none 0 0,.int .i64 l,.int .i64 f,.bool false] 88))(hD:DirAt w nb fs)(hl:l≠0)(hf:f≠0)(hin:(fndG b fs).isSome=true) :
  Calls Tryz.prog 257 #[.pointer (some ⟨db,0,none⟩),.string (nameB b)] w fun e w'=>e=.returned .nilIface∧∃ pv,w'.heap[db]?=some (.cells #[m0,.map (some nb),pv,.int .i64 (decM l),.int .i64 (decM f),.bool false] 88)∧DirAt w' nb (delG b fs)∧w'.ownsRow w.heap.size 146 3 pv 1 [.int .i64 3,.string (nameB b),.string ⟨#[]⟩]∧Keep (fun c=>c=db∨c=nb) w w':=by
 have H:=hide (jj6 db nb m0 fs b ⟨#[]⟩ l f w hd hD hl hf hin)
 clear hd hD hl hf hin
 go_enter Tryz.func257,Tryz.ntmps257
 go_wp2_with fail
 refine H.out.mono ?_
 rintro e w2 ⟨rfl,HX⟩
 have HX:=hide HX
 go_wp2
 go_ret
 exact⟨rfl,HX.out⟩
end Go.Proofs.YtnlgndpcddngoaaGreatDoor
namespace Go.Proofs.YtnlgndpcddngoaaGreatDoor
open Go.RowKit
theorem jjl (c n:Int)(w:World)(hn:0<n)(hn1:n≤1000000000)(h0:-9223372036854775808≤c)(h1:c≤9223372036854775807) :
  Calls Tryz.prog 30 #[.int .i64 c,.int .i64 n] w fun e w'=>e=.returned (.int .i64 (pickM c n))∧w'=w:=by
 have hnz:¬n=0:=by omega
 by_cases h:c<0
 ·have e:pickM c n=-((c+1).tmod n):=by unfold pickM;rw [if_pos h,←Int.neg_tmod,Int.tmod_eq_emod_of_nonneg (by omega)]
  have k1:IntKind.i64.wrap (c+1)=c+1:=by rw [IntKind.wrap_i64];omega
  have k2:IntKind.i64.wrap (-(c+1))=-(c+1):=by rw [IntKind.wrap_i64];omega
  rw [e]
  clear e
  go_enter Tryz.func30,Tryz.ntmps30
  go_wp2
  go_ret
  exact⟨rfl,rfl⟩
 ·have e:pickM c n=c % n:=by unfold pickM;rw [if_neg h]
  rw [e]
  clear e
  go_enter Tryz.func30,Tryz.ntmps30
  go_wp2
  go_ret
  exact⟨rfl,rfl⟩
theorem jct (hb db:Nat)(dm nm:Option Nat)(pv sv cv bv:Value)(l f kept part:Int)(w:World)(hh:w.heap[hb]?=some (.cells #[.pointer (some ⟨db,0,none⟩),sv,cv,bv] 82))(hd:w.heap[db]?=some (.cells #[.map dm,.map nm,pv,.int .i64 l,.int .i64 f,.bool false] 88)) :
  Calls Tryz.prog 32 #[.pointer (some ⟨hb,0,none⟩),.int .i64 kept,.int .i64 part] w fun e w'=>e=.returned (.tuple #[])∧w'.heap[db]?=some (.cells #[.map dm,.map nm,pv,.int .i64 (-1),.int .i64 (-1),.bool false] 88)∧Keep (fun b=>b=db) w w':=by
 have hne:hb≠db:=by
  intro e;subst e
  rw [hh] at hd;simp at hd
 have a0:=cellB hh 0
 have a1:=cellB hd
 have a2:=ja2 hd
 have n1:¬hb=db:=hne
 have n2:¬db=hb:=fun e=>hne e.symm
 go_enter Tryz.func32,Tryz.ntmps32
 go_wp2_with fail
 go_region_held3 (fun w'=>w'.cell? ⟨hb,0,none⟩=some (.pointer (some ⟨db,0,none⟩))) (go_keep) (fail)
 all_goals go_wp2
 all_goals go_end0
 all_goals refine⟨rfl,(jac _ _).trans (by simpa using ja4 (ja4 hd 3 (.int .i64 (-1))) 4 (.int .i64 (-1))),Keep.drew ?_⟩
 all_goals exact Keep.set (S:=fun b=>b=db) (b:=db) (Keep.set (S:=fun b=>b=db) (b:=db) (Keep.refl _ w) (Or.inl rfl) _ _) (Or.inl rfl) _ _
theorem up29 (db mb:Nat)(nv pv c3 c4 dv:Value)(w:World)(hd:w.heap[db]?=some (.cells #[.map (some mb),nv,pv,c3,c4,dv] 88))(hm:w.heap[mb]?=some (.map #[] 0)) :
  Calls Tryz.prog 33 #[.pointer (some ⟨db,0,none⟩)] w fun e w'=>e=.returned (.tuple #[])∧w'.heap[db]?=some (.cells #[.map (some mb),.map (some w.heap.size),.slice none 0 0,c3,c4,.bool false] 88)∧w'.heap[w.heap.size]?=some (.map #[] 0)∧Keep (fun b=>b=db) w w':=by
 have ld:=ltB hd
 have lm:=ltB hm
 have hne:db≠mb:=by
  intro e;subst e
  rw [hd] at hm;simp at hm
 obtain⟨V,hV⟩:∃ V,V=(w.alloc (.map #[] 0)).setCell ⟨db,1,none⟩ (.map (some w.heap.size)):=⟨_,rfl⟩
 have hdV:V.heap[db]?=some (.cells #[.map (some mb),.map (some w.heap.size),pv,c3,c4,dv] 88):=by rw [hV];simpa using ja4 (upB hd (.map #[] 0)) 1 (.map (some w.heap.size))
 have hmV:V.heap[mb]?=some (.map #[] 0):=by rw [hV,ja0 (fun e=>hne e.symm)];exact upB hm _
 have hnV:V.heap[w.heap.size]?=some (.map #[] 0):=by rw [hV,ja0 (by omega)];exact ja1 _ _
 have hKV:Keep (fun b=>b=db) w V:=hV▸Keep.set (S:=fun b=>b=db) (b:=db) ((Keep.refl _ w).alloc _) (Or.inl rfl) _ _
 have hVs:V.heap.size=w.heap.size+1:=by rw [hV];simp
 have b1:=upC hd (.map #[] 0)
 have b2:=upF hd (.map #[] 0)
 have hmm:=@run_makeMap Tryz.prog
 have hr:=run_range_map (P:=Tryz.prog) V 85 9 95 mb #[] 0 Tryz.underlying85 hmV
 have hx:∀ ty,(Instr.next (.pointer (some ⟨V.heap.size,0,none⟩)) false ty).run Tryz.prog (V.alloc (.mapIter (some mb) 0 #[] 0))=.ok (.tuple #[.bool false]) (V.alloc (.mapIter (some mb) 0 #[] 0)):=fun ty=>by
  rcases run_next_map (P:=Tryz.prog) V ty mb 0 0 #[] #[] 0 hmV (by simp) (Nat.le_refl _) with ⟨_,h⟩ | ⟨e,he,_⟩
  ·exact h
  ·simp [leftOf] at he
 have a1:=cellB hdV
 have a2:=upC hdV (.mapIter (some mb) 0 #[] 0)
 have a3:=upF hdV (.mapIter (some mb) 0 #[] 0)
 have HVS:=hide hVs
 have HLD:=hide ld
 have HLM:=hide lm
 clear hVs ld lm
 go_enter Tryz.func33,Tryz.ntmps33
 go_upto_region 1 with fail
 rw [←hV]
 clear hV b1 b2
 go_wp2
 refine wp_loop_rounds 1 ?_
 rw [rounds_succ]
 go_wp2
 go_end0
 have ld:=HLD.out
 have hVs:=HVS.out
 refine⟨rfl,by simpa using ja4 (ja4 (upB hdV (.mapIter (some mb) 0 #[] 0)) 2 (.slice none 0 0)) 5 (.bool false),?_,?_⟩
 ·rw [ja0 (by omega),ja0 (by omega)]
  exact upB hnV _
 ·exact Keep.set (S:=fun b=>b=db) (b:=db) (Keep.set (S:=fun b=>b=db) (b:=db) (hKV.alloc _) (Or.inl rfl) _ _) (Or.inl rfl) _ _
theorem jhJ (blk:Int)(w:World) :
  Calls Tryz.prog 19 #[.slice none 0 0,.int .u64 blk] w fun e w'=>∃ nb,e=.returned (.pointer (some ⟨w.heap.size+2,0,none⟩))∧w'.heap[w.heap.size+2]?=some (.cells #[.pointer (some ⟨w.heap.size+1,0,none⟩),.pointer none,.slice none 0 0,.int .u64 blk] 82)∧w'.heap[w.heap.size+1]?=some (.cells #[.map (some w.heap.size),.map (some nb),.slice none 0 0,.int .i64 (-1),.int .i64 (-1),.bool false] 88)∧w'.heap[w.heap.size]?=some (.map #[] 0)∧w'.heap[nb]?=some (.map #[] 0)∧w.heap.size+2<nb∧Below w.heap.size w w':=by
 have hmm:=@run_makeMap Tryz.prog
 obtain⟨V,hV⟩:∃ V,V=((w.alloc (.map #[] 0)).alloc (.cells #[.map (some w.heap.size),.map none,.slice none 0 0,.int .i64 (-1),.int .i64 (-1),.bool false] 88)).alloc (.cells #[.pointer (some ⟨w.heap.size+1,0,none⟩),.pointer none,.slice none 0 0,.int .u64 blk] 82):=⟨_,rfl⟩
 have h2:V.heap[w.heap.size+2]?=some (.cells #[.pointer (some ⟨w.heap.size+1,0,none⟩),.pointer none,.slice none 0 0,.int .u64 blk] 82):=hV▸heapN (by simp)
 have h1:V.heap[w.heap.size+1]?=some (.cells #[.map (some w.heap.size),.map none,.slice none 0 0,.int .i64 (-1),.int .i64 (-1),.bool false] 88):=hV▸upB (heapN (by simp)) _
 have h0:V.heap[w.heap.size]?=some (.map #[] 0):=hV▸upB (upB (ja1 _ _) _) _
 have hB:Below w.heap.size w V:=hV▸(((Below.refl _ w).alloc (Nat.le_refl _) _).alloc (by simp) _).alloc (by simp <;> omega) _
 have hVs:V.heap.size=w.heap.size+3:=by rw [hV];simp
 have a2:=cellB h2
 have HVS:=hide hVs
 clear hVs
 go_enter Tryz.func19,Tryz.ntmps19
 go_upto_region 2 with fail
 rw [←hV]
 clear hV
 go_wp2
 refine wp_loop_rounds 1 ?_
 rw [rounds_succ]
 go_wp2_with (go_at_call 33;refine (up29 (w.heap.size+1) w.heap.size _ _ _ _ _ _ h1 h0).mono ?_;rintro e w2 ⟨rfl,g1,g2,g3⟩)
 go_ret
 have hVs:=HVS.out
 refine⟨V.heap.size,rfl,(g3.block _ (by omega) (by omega)).trans h2,g1,(g3.block _ (by omega) (by omega)).trans h0,g2,by omega,hB.trans (Keep.below g3 (by omega) (fun k hk=>by omega))⟩
end Go.Proofs.YtnlgndpcddngoaaGreatDoor
namespace Go.Proofs.YtnlgndpcddngoaaGreatDoor
open Go.RowKit Go.Maps
theorem jf6 (a:Option Addr)(c:Nat)(xv:Value)(w:World):Calls Tryz.prog 146 #[.slice a 0 c,xv] w fun e w'=>e=.returned (.bool false)∧w'=w:=
 AnyE.slices_Contains_empty (P:=Tryz.prog) (ρ:=Con.ren) Con.lays a c xv w
theorem jdW (a:Option Addr)(c:Nat)(w:World):Calls Tryz.prog 145 #[.slice a 0 c] w fun e w'=>e=.returned (.bool false)∧w'=w:=by
 have HN0:=hide (jaH 0 w (by omega) (by omega))
 have HN1:=hide (jaH 1 w (by omega) (by omega))
 go_enter Tryz.func145,Tryz.ntmps145
 go_wp2
 refine wp_loop_rounds 3 ?_
 rw [rounds_succ]
 go_wp2_with fail
 refine HN0.out.mono ?_
 rintro e w' ⟨rfl,rfl⟩
 go_wp2_with fail
 refine (jf6 _ _ _ _).mono ?_
 rintro e w' ⟨rfl,rfl⟩
 go_wp2_with fail
 rw [rounds_succ]
 go_wp2_with fail
 refine HN1.out.mono ?_
 rintro e w' ⟨rfl,rfl⟩
 go_wp2_with fail
 refine (jf6 _ _ _ _).mono ?_
 rintro e w' ⟨rfl,rfl⟩
 go_wp2_with fail
 rw [rounds_succ]
 go_wp2
 go_ret
 exact⟨rfl,rfl⟩
theorem jkk (g db nb:Nat)(c0 c2 c3 c4:Value)(w:World)(hg:w.cell? ⟨g,0,none⟩=some (.iface 78 (.pointer (some ⟨db,0,none⟩))))(hd:w.heap[db]?=some (.cells #[c0,.map (some nb),c2,c3,c4,.bool false] 88))(hD:DirAt w nb []) :
  Calls Tryz.prog 118 #[.pointer (some ⟨g,0,none⟩)] w fun e w'=>e=.returned (.tuple #[.agg #[.int .u64 0,.int .u64 0,.slice none 0 0],.nilIface])∧Below w.heap.size w w':=by
 obtain⟨V,hV⟩:∃ V,V=w.alloc (.cells #[.int .u64 0,.int .u64 0,.slice none 0 0] 169):=⟨_,rfl⟩
 have hgl:=jaN hg
 have h0:V.heap[w.heap.size]?=some (.cells #[.int .u64 0,.int .u64 0,.slice none 0 0] 169):=hV▸ja1 _ _
 have hgV:V.cell? ⟨g,0,none⟩=some (.iface 78 (.pointer (some ⟨db,0,none⟩))):=by rw [hV,World.cell?_alloc_lt _ _ ⟨g,0,none⟩ hgl];exact hg
 have hdV:V.heap[db]?=_:=hV▸upB hd _
 have hDV:DirAt V nb []:=hD.kept (hV▸ja3 _ _ hD.map.lt) (fun p hp=>by cases hp)
 have hB:Below w.heap.size w V:=hV▸(Below.refl _ w).alloc (Nat.le_refl _) _
 have hmn:=jbc (.pointer (some ⟨db,0,none⟩))
 have HNM:=hide (jc7 db nb c0 c2 c3 c4 [] V hdV hDV)
 have sV:V.heap.size=w.heap.size+1:=by rw [hV];simp
 have HSV:=hide sV
 have HB:=hide hB
 clear hD hDV hd hdV hB sV hg
 go_enter Tryz.func118,Tryz.ntmps118
 go_upto_region 1 with fail
 rw [←hV]
 clear hV
 go_wp2_with fail
 refine HNM.out.mono ?_
 rintro e w1 ⟨v,bs,rfl,hbs,_,hnm,hb1⟩
 have hb0:bs=[]:=by
  cases bs with
  | nil=>rfl
  | cons x r=>exact absurd ((hbs x).1 (by simp)) (by simp [fndG])
 subst hb0
 obtain⟨a,c,rfl,_⟩:=hnm
 have h1:=(hb1.block w.heap.size (by have:=HSV.out;omega)).trans h0
 have e1:=cellB h1
 have e2:=ja2 h1
 have HB1:=hide hb1
 clear hb1 hbs hgV
 go_wp2_with fail
 refine (jdW a c _).mono ?_
 rintro e w' ⟨rfl,rfl⟩
 go_wp2
 refine bodyPost_ret (v:=.tuple #[.agg #[.int .u64 0,.int .u64 0,.slice none 0 0],.nilIface]) (by simp [results,Tryz.results118,go_sem,e1]) rfl ⟨rfl,?_⟩
 have b2:Below w.heap.size w w':=HB.out.trans (HB1.out.mono (by have:=HSV.out;omega))
 exact ((b2.setCell (Nat.le_refl _) _).setCell (Nat.le_refl _) _).setCell (Nat.le_refl _) _
theorem jfZ (A B g db nb:Nat)(c0 c2 c3 c4:Value)(w:World)(hA:w.heap[A]?=some (.cells #[.pointer (some ⟨g,0,none⟩)] 122))(hB:w.heap[B]?=some (.cells #[.int .u64 0,.int .u64 0,.slice none 0 0] 169))(hg:w.cell? ⟨g,0,none⟩=some (.iface 78 (.pointer (some ⟨db,0,none⟩))))(hd:w.heap[db]?=some (.cells #[c0,.map (some nb),c2,c3,c4,.bool false] 88))(hD:DirAt w nb []) :
  Calls Tryz.prog 117 #[.pointer (some ⟨A,0,none⟩),.pointer (some ⟨B,0,none⟩)] w fun e w'=>e=.returned .nilIface∧w'.heap[B]?=some (.cells #[.int .u64 0,.int .u64 0,.slice none 0 0] 169)∧Keep (fun c=>c=B) w w':=by
 have HL:=hide (jkk g db nb c0 c2 c3 c4 w hg hd hD)
 have a1:=cellB hA
 have lB:=ltB hB
 clear hg hd hD
 go_enter Tryz.func117,Tryz.ntmps117
 go_wp2_with fail
 refine HL.out.mono ?_
 rintro e w1 ⟨rfl,hb1⟩
 have h1:=(hb1.block B lB).trans hB
 have e1:=cellB h1
 have e2:=ja2 h1
 have HB1:=hide hb1
 clear hb1 a1
 go_wp2
 go_ret
 refine⟨rfl,by simpa using ja4 (ja4 (ja4 h1 0 (.int .u64 0)) 1 (.int .u64 0)) 2 (.slice none 0 0),?_⟩
 exact Keep.set (S:=fun c=>c=B) (b:=B) (Keep.set (S:=fun c=>c=B) (b:=B) (Keep.set (S:=fun c=>c=B) (b:=B) (Keep.of_below HB1.out) (Or.inl rfl) _ _) (Or.inl rfl) _ _) (Or.inl rfl) _ _
theorem jbu (vs:Array Value)(w:World):Sem.run Tryz.prog (callFunc 117 vs) w=.ok (.enter 117 vs) w:=by simp [go_sem]
theorem jci (db:Nat):∃ zc:Array Value,zc=Tryz.zeroCells230.setIfInBounds 0 (.iface 78 (.pointer (some ⟨db,0,none⟩)))∧zc[0]?=some (.iface 78 (.pointer (some ⟨db,0,none⟩)))∧zc[1]?=some (.int .u32 0)∧zc[2]?=some (.int .i32 0)∧(∀ j,j<256→zc[1+3+j]?=some (.int .u64 0))∧zc[260]?=some (.int .u64 0)∧zc[261]?=some .nilIface:=by
 have hz:Tryz.zeroCells230.setIfInBounds 0 (.iface 78 (.pointer (some ⟨db,0,none⟩)))=(#[(.iface 78 (.pointer (some ⟨db,0,none⟩))),.int .u32 0,.int .i32 0,.int .u32 0] ++ Array.replicate 256 (.int .u64 0) ++ #[.int .u64 0,.nilIface]:Array Value):=by kernel_rfl
 refine⟨_,rfl,?_,?_,?_,fun j hj=>?_,?_,?_⟩
 ·rw [hz];kernel_rfl
 ·rw [hz];kernel_rfl
 ·rw [hz];kernel_rfl
 ·rw [hz,Array.getElem?_append_left (by simp;omega),Array.getElem?_append_right (by simp),Array.getElem?_replicate,if_pos (by simp;omega)]
 ·rw [hz];kernel_rfl
 ·rw [hz];kernel_rfl
theorem je2 (db nb:Nat)(c0 c2 c3 c4:Value)(w:World)(hd:w.heap[db]?=some (.cells #[c0,.map (some nb),c2,c3,c4,.bool false] 88))(hD:DirAt w nb []) :
  Calls Tryz.prog 76 #[.iface 78 (.pointer (some ⟨db,0,none⟩))] w fun e w'=>∃ g,e=.returned (.tuple #[.pointer (some ⟨g,0,none⟩),.agg #[.int .u64 0,.int .u64 0,.slice none 0 0],.nilIface])∧w.heap.size≤g∧StoAt w' g db 0∧Below w.heap.size w w':=by
 have hmf:∀ (fn:Fn) (first cap:Array Value) (w:World),(Instr.makeFunc fn first cap).run Tryz.prog w=.ok (.func fn first cap) w:=fun _ _ _ _=>rfl
 obtain⟨zc,hzc,z0,z1,z2,z3,z4,z5⟩:=jci db
 obtain⟨V,hV⟩:∃ V,V=(((w.alloc (.cells #[.int .u64 0,.int .u64 0,.slice none 0 0] 169)).alloc (.cells zc 230)).alloc (.cells #[.pointer (some ⟨w.heap.size+1,0,none⟩)] 122)).alloc (.cells #[.int .u64 0,.int .u64 0,.slice none 0 0] 169):=⟨_,rfl⟩
 have h0:V.heap[w.heap.size]?=some (.cells #[.int .u64 0,.int .u64 0,.slice none 0 0] 169):=hV▸upB (upB (upB (ja1 _ _) _) _) _
 have h1:V.heap[w.heap.size+1]?=some (.cells zc 230):=hV▸upB (upB (heapN (by simp)) _) _
 have h2:V.heap[w.heap.size+2]?=some (.cells #[.pointer (some ⟨w.heap.size+1,0,none⟩)] 122):=hV▸upB (heapN (by simp)) _
 have h3:V.heap[w.heap.size+3]?=some (.cells #[.int .u64 0,.int .u64 0,.slice none 0 0] 169):=hV▸heapN (by simp)
 have hsV:V.heap.size=w.heap.size+4:=by rw [hV];simp
 have hB:Below w.heap.size w V:=hV▸((((Below.refl _ w).alloc (Nat.le_refl _) _).alloc (by simp) _).alloc (by simp;omega) _).alloc (by simp;omega) _
 have hdV:=(hB.block db (ltB hd)).trans hd
 have hDV:DirAt V nb []:=hD.kept (hB.block nb hD.map.lt) (fun p hp=>by cases hp)
 have HG:=hide (jca 117 #[.pointer (some ⟨w.heap.size+2,0,none⟩),.pointer (some ⟨w.heap.size+3,0,none⟩)] jbu V (fun w2=>w2.heap[w.heap.size+3]?=some (.cells #[.int .u64 0,.int .u64 0,.slice none 0 0] 169)∧Keep (fun c=>c=w.heap.size+3) (V.alloc (.cells #[.nilIface] 97)) w2) (by
   refine (jfZ (w.heap.size+2) (w.heap.size+3) (w.heap.size+1) db nb c0 c2 c3 c4 _ (upB h2 _) (upB h3 _) ((cellB (upB h1 _) 0).trans z0) (upB hdV _) (hDV.kept (ja3 _ _ hDV.map.lt) (fun p hp=>by cases hp))).mono ?_
   rintro e w2 ⟨rfl,q1,q2⟩
   refine⟨rfl,?_,q1,q2⟩
   exact (q2.block V.heap.size (by simp) (fun e=>by omega)).trans (ja1 _ _)))
 have HB:=hide hB
 have HSV:=hide hsV
 have HZ:=hide (And.intro z0 (And.intro z1 (And.intro z2 (And.intro z3 (And.intro z4 z5)))))
 clear hD hDV hd hdV hB hsV z0 z1 z2 z3 z4 z5
 go_enter Tryz.func76,Tryz.ntmps76
 go_upto_region 3 with fail
 rw [←hzc,←hV]
 clear hV hzc
 go_wp2_with fail
 refine HG.out.mono ?_
 rintro e w1 ⟨rfl,w2,⟨q1,q2⟩,hb,hw1⟩
 have sV:=HSV.out
 have X:∀ k,k<V.heap.size→k≠w.heap.size+3→w1.heap[k]?=V.heap[k]?:=fun k hk h=>by
  rw [hw1,ja0 (by omega)]
  exact (q2.block k (by simp;omega) h).trans (ja3 _ _ hk)
 have g0:=(X w.heap.size (by omega) (by omega)).trans h0
 have g1:=(X (w.heap.size+1) (by omega) (by omega)).trans h1
 have g2:=(X (w.heap.size+2) (by omega) (by omega)).trans h2
 have g3:w1.heap[w.heap.size+3]?=some (.cells #[.int .u64 0,.int .u64 0,.slice none 0 0] 169):=by rw [hw1,ja0 (by omega)];exact q1
 have hB1:Below w.heap.size w w1:=by
  rw [hw1]
  refine Below.setCell ?_ (by show w.heap.size≤V.heap.size;omega) _
  exact (HB.out.alloc HB.out.size _).trans (q2.below (by simp;omega) (fun k hk=>by omega))
 obtain⟨z0,z1,z2,z3,z4,z5⟩:=HZ.out
 obtain⟨Y,hY⟩:∃ Y,Y=w1.setCell ⟨w.heap.size+1,260,none⟩ (.int .u64 0):=⟨_,rfl⟩
 have hS:StoAt Y (w.heap.size+1) db 0:=by
  have c:=cellB g1
  have f:=ja2 g1
  have o:∀ j,j≠260→Y.cell? ⟨w.heap.size+1,j,none⟩=zc[j]?:=fun j hj=>by rw [hY];exact (World.cell?_setCell_other _ _ _ _ (by simp <;> omega)).trans (c j)
  have ff:∀ j,Y.frozen? ⟨w.heap.size+1,j,none⟩=false:=fun j=>by rw [hY,World.frozen?_setCell];exact f j
  refine⟨fun j _=>ff j,(o 0 (by omega)).trans z0,⟨⟨false,(o 1 (by omega)).trans z1,fun j hj=>⟨0,(o _ (by omega)).trans (z3 j hj),fun h=>by cases h⟩⟩,(o 2 (by omega)).trans z2,fun j _=>ff _⟩,?_,(o 261 (by omega)).trans z5⟩
  rw [hY]
  exact World.cell?_setCell_same _ _ _ ((c 260).trans z4)
 have y0:Y.heap[w.heap.size]?=_:=hY▸(ja0 (by omega) _ _).trans g0
 have y2:Y.heap[w.heap.size+2]?=_:=hY▸(ja0 (by omega) _ _).trans g2
 have y3:Y.heap[w.heap.size+3]?=_:=hY▸(ja0 (by omega) _ _).trans g3
 have hBY:Below w.heap.size w Y:=hY▸hB1.setCell (by show w.heap.size≤w.heap.size+1;omega) _
 have c1:=(cellB g1 260).trans z4
 have c1':=ja2 g1 260
 have c2:=cellB g2
 have c3:=cellB g3
 have HS:=hide hS
 have HBY:=hide hBY
 clear hb hw1 q1 q2 X hB1 z0 z1 z2 z3 z4 z5 hS hBY h0 h1 h2 h3 sV
 go_upto_region 7 with fail
 rw [←hY]
 clear hY c1 c1' c2 c3 g0 g1 g2 g3
 have d0:=cellB y0
 have d0':=ja2 y0
 have d2:=cellB y2
 have d3:=cellB y3
 go_region
 all_goals go_wp2
 all_goals refine bodyPost_ret (v:=.tuple #[.pointer (some ⟨w.heap.size+1,0,none⟩),.agg #[.int .u64 0,.int .u64 0,.slice none 0 0],.nilIface]) (by simp [results,Tryz.results76,go_sem,d0,d0']) rfl ?_
 all_goals refine⟨w.heap.size+1,rfl,by omega,?_,?_⟩
 all_goals first
  | exact HS.out.kept (by simp [ja0])
  | (exact HS.out.kept ((ja0 (by omega) _ _).trans ((ja0 (by omega) _ _).trans (ja0 (by omega) _ _))))
  | skip
 all_goals first
  | (exact ((HBY.out.drew.setCell (Nat.le_refl _) _).setCell (Nat.le_refl _) _).setCell (Nat.le_refl _) _)
  | skip
theorem jcG (db nb:Nat)(c0 c2 c3 c4:Value)(blk:Int)(w:World)(hd:w.heap[db]?=some (.cells #[c0,.map (some nb),c2,c3,c4,.bool false] 88))(hD:DirAt w nb []) :
  Calls Tryz.prog 50 #[.iface 78 (.pointer (some ⟨db,0,none⟩)),.int .u64 blk] w fun e w'=>∃ g mp,e=.returned (.tuple #[.agg #[.int .u64 0,.int .u64 blk,.map (some mp),.pointer (some ⟨g,0,none⟩)],.nilIface])∧w.heap.size≤g∧w.heap.size≤mp∧g≠mp∧w'.heap[mp]?=some (.map #[] 0)∧StoAt w' g db 0∧Below w.heap.size w w':=by
 have hmm:=@run_makeMap Tryz.prog
 obtain⟨V,hV⟩:∃ V,V=w.alloc (.cells #[.int .u64 0,.int .u64 0,.map none,.pointer none] 124):=⟨_,rfl⟩
 have h0:V.heap[w.heap.size]?=some (.cells #[.int .u64 0,.int .u64 0,.map none,.pointer none] 124):=hV▸ja1 _ _
 have hB:Below w.heap.size w V:=hV▸(Below.refl _ w).alloc (Nat.le_refl _) _
 have hsV:V.heap.size=w.heap.size+1:=by rw [hV];simp
 have HO:=hide (je2 db nb c0 c2 c3 c4 V ((hB.block db (ltB hd)).trans hd) (hD.kept (hB.block nb hD.map.lt) (fun p hp=>by cases hp)))
 have HB:=hide hB
 have HSV:=hide hsV
 clear hd hD hB hsV
 go_enter Tryz.func50,Tryz.ntmps50
 go_upto_region 1 with fail
 rw [←hV]
 clear hV
 go_wp2_with fail
 refine HO.out.mono ?_
 rintro e w1 ⟨g,rfl,hgl,hS1,hb1⟩
 have sV:=HSV.out
 obtain⟨Y,hY⟩:∃ Y,Y=(w1.alloc (.cells #[.int .u64 0,.int .u64 0,.slice none 0 0] 169)).alloc (.map #[] 0):=⟨_,rfl⟩
 have hs1:=hb1.size
 have g0:=(hb1.block w.heap.size (by omega)).trans h0
 have y0:Y.heap[w.heap.size]?=_:=hY▸upB (upB g0 _) _
 have y1:Y.heap[w1.heap.size]?=some (.cells #[.int .u64 0,.int .u64 0,.slice none 0 0] 169):=hY▸upB (ja1 _ _) _
 have y2:Y.heap[w1.heap.size+1]?=some (.map #[] 0):=hY▸heapN (by simp)
 have hSY:StoAt Y g db 0:=hS1.kept (by rw [hY,ja3 _ _ (by have:=hS1.lt;simp;omega),ja3 _ _ hS1.lt])
 have hBY:Below w.heap.size w Y:=hY▸((HB.out.trans (hb1.mono (by omega))).alloc (by omega) _).alloc (by simp;omega) _
 have hgl1:=hS1.lt
 have HS:=hide hSY
 have HBY:=hide hBY
 have HL:=hide (And.intro hgl (And.intro hs1 hgl1))
 clear hS1 hb1 hSY hBY h0 g0 hgl hs1 hgl1 sV
 go_upto_region 5 with fail
 rw [←hY]
 clear hY
 have e1:=cellB y1
 have e0:=cellB y0
 have e0':=ja2 y0
 go_wp2
 refine wp_loop_rounds 1 ?_
 rw [rounds_succ]
 go_wp2
 obtain⟨l1,l2,l3⟩:=HL.out
 have sV:=HSV.out
 refine bodyPost_ret (v:=.tuple #[.agg #[.int .u64 0,.int .u64 blk,.map (some (w1.heap.size+1)),.pointer (some ⟨g,0,none⟩)],.nilIface]) (by simp [results,Tryz.results50,go_sem,e0,e0']) rfl ⟨g,w1.heap.size+1,rfl,by omega,by omega,by omega,?_,?_,?_⟩
 ·rw [ja0 (by omega),ja0 (by omega),ja0 (by omega),ja0 (by omega)]
  exact y2
 ·exact HS.out.kept ((ja0 (by omega) _ _).trans ((ja0 (by omega) _ _).trans ((ja0 (by omega) _ _).trans (ja0 (by omega) _ _))))
 ·exact (((HBY.out.setCell (Nat.le_refl _) _).setCell (Nat.le_refl _) _).setCell (Nat.le_refl _) _).setCell (Nat.le_refl _) _
end Go.Proofs.YtnlgndpcddngoaaGreatDoor
namespace Go.Proofs.YtnlgndpcddngoaaGreatDoor
open Go.RowKit
theorem is17 (hb sb:Nat)(dv cv bv:Value)(w:World)(hh:w.heap[hb]?=some (.cells #[dv,.pointer (some ⟨sb,0,none⟩),cv,bv] 82)) :
  Calls Tryz.prog 21 #[.pointer (some ⟨hb,0,none⟩)] w fun e w'=>e=.returned (.bool true)∧w'=w:=by
 have a1:=cellB hh
 go_enter Tryz.func21,Tryz.ntmps21
 go_wp2
 go_ret
 exact⟨rfl,rfl⟩
theorem jcz (hb sb:Nat)(dv cv bv s0 s1 s2 s3 s4 s5:Value)(x:Int)(w:World)(hh:w.heap[hb]?=some (.cells #[dv,.pointer (some ⟨sb,0,none⟩),cv,bv] 82))(hs:w.heap[sb]?=some (.cells #[s0,s1,s2,s3,s4,s5,.int .u64 x] 130)) :
  Calls Tryz.prog 38 #[.pointer (some ⟨hb,0,none⟩)] w fun e w'=>e=.returned (.int .u64 x)∧w'=w:=by
 have a1:=cellB hh
 go_enter Tryz.func38,Tryz.ntmps38
 go_wp2_with (go_at_call 58;refine (jfD sb s0 s1 s2 s3 s4 s5 x _ hs).mono ?_;rintro e w' ⟨rfl,rfl⟩)
 go_ret
 exact⟨rfl,rfl⟩
structure FdAt (w:World)(F g:Nat)(bs:List Int):Prop where
 mem:∃ o c,w.cell? ⟨F,0,none⟩=some (.slice (some ⟨g,o,none⟩) bs.length c)∧bs.length≤c∧∀ j,j<bs.length→w.cell? ⟨g,o+j,none⟩=some (.int .u8 (bs.getD j 0))
 fro:w.frozen? ⟨F,0,none⟩=false
 byt:Bytes bs
 ne:g≠F
 gl:g<w.heap.size
 Fl:F<w.heap.size
theorem FdAt.kept {w w':World}{F g:Nat}{bs:List Int}(h:FdAt w F g bs)(hs:w.heap.size≤w'.heap.size)(hF:w'.heap[F]?=w.heap[F]?)(hg:w'.heap[g]?=w.heap[g]?):FdAt w' F g bs:=by
 obtain⟨o,c,h1,h2,h3⟩:=h.mem
 have cF:∀ j,w'.cell? ⟨F,j,none⟩=w.cell? ⟨F,j,none⟩:=fun j=>World.cell?_of_block (w:=w) hF
 have cG:∀ j,w'.cell? ⟨g,j,none⟩=w.cell? ⟨g,j,none⟩:=fun j=>World.cell?_of_block (w:=w) hg
 exact⟨⟨o,c,(cF 0).trans h1,h2,fun j hj=>(cG _).trans (h3 j hj)⟩,(World.frozen?_of_block (w:=w) hF).trans h.fro,h.byt,h.ne,Nat.lt_of_lt_of_le h.gl hs,Nat.lt_of_lt_of_le h.Fl hs⟩
theorem jcW (a b:List Int)(j:Nat):(a ++ b).getD (a.length+j) 0=b.getD j 0:=by
 simp only [List.getD]
 rw [List.getElem?_append_right (by omega),Nat.add_sub_cancel_left]
theorem jbm (a b:List Int)(j:Nat)(h:j<a.length):(a ++ b).getD j 0=a.getD j 0:=by
 simp [List.getD,List.getElem?_append_left h]
theorem FdAt.on {w:World}{F g o c:Nat}{a bs:List Int}(h:FdAt w F g (a ++ bs))(h1:w.cell? ⟨F,0,none⟩=some (.slice (some ⟨g,o,none⟩) (a ++ bs).length c))(h2:(a ++ bs).length≤c)(h3:∀ j,j<(a ++ bs).length→w.cell? ⟨g,o+j,none⟩=some (.int .u8 ((a ++ bs).getD j 0))):FdAt (w.setCell ⟨F,0,none⟩ (.slice (some ⟨g,o+a.length,none⟩) ((a ++ bs).length - a.length) (c - a.length))) F g bs:=by
 have hl:(a ++ bs).length=a.length+bs.length:=List.length_append
 refine⟨⟨o+a.length,c - a.length,?_,by omega,fun j hj=>?_⟩,by rw [World.frozen?_setCell];exact h.fro,fun b hb=>h.byt b (List.mem_append_right _ hb),h.ne,by rw [World.size_setCell];exact h.gl,by rw [World.size_setCell];exact h.Fl⟩
 ·rw [World.cell?_setCell_same _ _ _ h1,hl,Nat.add_sub_cancel_left]
 ·rw [jay _ _ _ _ _ _ h.ne,Nat.add_assoc,h3 _ (by omega),jcW]
theorem jjo (F g:Nat)(b:Int)(bs:List Int)(w:World)(h:FdAt w F g (b :: bs))(hne:0<bs.length) :
  Calls Tryz.prog 105 #[.pointer (some ⟨F,0,none⟩)] w fun e w'=>e=.returned (.int .u8 b)∧FdAt w' F g bs∧Keep (fun c=>c=F) w w':=by
 obtain⟨o,c,h1,h2,h3⟩:=h.mem
 have hl:(b :: bs).length=bs.length+1:=rfl
 refine (jk7 F g o _ c b w h1 h.fro (by omega) h2 (h3 0 (by omega))).mono ?_
 rintro e w' ⟨rfl,rfl⟩
 exact⟨rfl,FdAt.on (a:=[b]) h h1 h2 h3,Keep.set (S:=fun c=>c=F) (b:=F) (Keep.refl _ w) (Or.inl rfl) _ _⟩
theorem rdNum (F g:Nat)(v:Int)(bs:List Int)(w:World)(h:FdAt w F g (be8 v ++ bs))(hne:0<bs.length)(h0:0≤v)(h9:v≤18446744073709551615) :
  Calls Tryz.prog 108 #[.pointer (some ⟨F,0,none⟩)] w fun e w'=>e=.returned (.int .u64 v)∧FdAt w' F g bs∧Keep (fun c=>c=F) w w':=by
 obtain⟨o,c,h1,h2,h3⟩:=h.mem
 have hb8:(be8 v).length=8:=rfl
 have hl:(be8 v ++ bs).length=8+bs.length:=by rw [List.length_append,hb8]
 have hr:∀ j,0≤(be8 v).getD j 0∧(be8 v).getD j 0≤255:=fun j=>(jaq v).getD j
 refine (jhR F g o _ c (fun j=>(be8 v).getD j 0) w h1 h.fro (by omega) h2 (fun j hj=>by rw [h3 j (by omega),jbm _ _ _ (by omega)]) hr).mono ?_
 rintro e w' ⟨rfl,rfl⟩
 rw [jh7 v h0 h9]
 exact⟨rfl,FdAt.on (a:=be8 v) h h1 h2 h3,Keep.set (S:=fun c=>c=F) (b:=F) (Keep.refl _ w) (Or.inl rfl) _ _⟩
theorem rdKey (F g:Nat)(k:Ky)(bs:List Int)(w:World)(h:FdAt w F g (kby k ++ bs))(hne:0<bs.length) :
  Calls Tryz.prog 106 #[.pointer (some ⟨F,0,none⟩)] w fun e w'=>e=.returned (.agg #[.int .u8 k.k0,.int .u8 k.k1,.int .u8 k.k2,.int .u8 k.k3,.int .u8 k.k4,.int .u8 k.k5,.int .u8 k.k6,.int .u8 k.k7])∧FdAt w' F g bs∧Keep (fun c=>c=F) w w':=by
 obtain⟨o,c,h1,h2,h3⟩:=h.mem
 have hb8:(kby k).length=8:=rfl
 have hl:(kby k ++ bs).length=8+bs.length:=by rw [List.length_append,hb8]
 have hx:∀ j,j<8→w.cell? ⟨g,o+j,none⟩=some (.int .u8 ((kby k).getD j 0)):=fun j hj=>by rw [h3 j (by omega),jbm _ _ _ (by omega)]
 refine (key_c F g o _ c k.k0 k.k1 k.k2 k.k3 k.k4 k.k5 k.k6 k.k7 w h.Fl h.gl (by omega) h2 h1 h.fro (hx 0 (by omega)) (hx 1 (by omega)) (hx 2 (by omega)) (hx 3 (by omega)) (hx 4 (by omega)) (hx 5 (by omega)) (hx 6 (by omega)) (hx 7 (by omega))).mono ?_
 rintro e w' ⟨rfl,hb⟩
 have hk:=Keep.set (S:=fun c=>c=F) (b:=F) (Keep.refl _ w) (Or.inl rfl) 0 (.slice (some ⟨g,o+8,none⟩) ((kby k ++ bs).length - 8) (c - 8))
 have hF:FdAt (w.setCell ⟨F,0,none⟩ (.slice (some ⟨g,o+8,none⟩) ((kby k ++ bs).length - 8) (c - 8))) F g bs:=FdAt.on (a:=kby k) h h1 h2 h3
 have hbs:=hb.size
 refine⟨rfl,hF.kept hbs (hb.block F h.Fl) (hb.block g h.gl),hk.os▸hb.os,hk.tape▸hb.tape,hk.output▸hb.output,Nat.le_trans hk.size hbs,fun x hx hne=>(hb.block x hx).trans (hk.block x hx hne)⟩
theorem rdPol (F g:Nat)(kd x y:Int)(bs:List Int)(w:World)(h:FdAt w F g (kd :: (be8 x ++ (be8 y ++ bs))))(hne:0<bs.length)(hx:0≤x∧x≤18446744073709551615)(hy:0≤y∧y≤18446744073709551615) :
  Calls Tryz.prog 107 #[.pointer (some ⟨F,0,none⟩)] w fun e w'=>e=.returned (.agg #[.int .u8 kd,.int .u64 x,.int .u64 y])∧FdAt w' F g bs∧Keep (fun c=>c=F) w w':=by
 obtain⟨V,hV⟩:∃ V,V=w.alloc (.cells #[.int .u8 0,.int .u64 0,.int .u64 0] 30):=⟨_,rfl⟩
 have hKV:Keep (fun c=>c=F) w V:=hV▸(Keep.refl _ w).alloc _
 have h0:V.heap[w.heap.size]?=some (.cells #[.int .u8 0,.int .u64 0,.int .u64 0] 30):=hV▸ja1 _ _
 have hFV:FdAt V F g (kd :: (be8 x ++ (be8 y ++ bs))):=h.kept hKV.size (hV▸ja3 _ _ h.Fl) (hV▸ja3 _ _ h.gl)
 have hnF:w.heap.size≠F:=by have:=h.Fl;omega
 have HR1:=hide (jjo F g kd _ V hFV (by rw [List.length_append];have:(be8 x).length=8:=rfl;omega))
 have HK:=hide hKV
 have HGl:=hide h.gl
 clear h hFV hKV
 go_enter Tryz.func107,Tryz.ntmps107
 go_wp2_with fail
 rw [←hV]
 clear hV
 refine HR1.out.mono ?_
 rintro e w1 ⟨rfl,h1,k1⟩
 have g1:=(k1.block w.heap.size (ltB h0) hnF).trans h0
 have HR2:=hide (rdNum F g x _ w1 h1 (by rw [List.length_append];have:(be8 y).length=8:=rfl;omega) hx.1 hx.2)
 have HK1:=hide (HK.out.then k1 (fun i _ h=>h))
 clear h1 k1
 go_wp2_with fail
 refine HR2.out.mono ?_
 rintro e w2 ⟨rfl,h2,k2⟩
 have g2:=(k2.block w.heap.size (ltB g1) hnF).trans g1
 have HR3:=hide (rdNum F g y _ w2 h2 hne hy.1 hy.2)
 have HK2:=hide (HK1.out.then k2 (fun i _ h=>h))
 clear h2 k2
 go_wp2_with fail
 refine HR3.out.mono ?_
 rintro e w3 ⟨rfl,h3,k3⟩
 have g3:=(k3.block w.heap.size (ltB g2) hnF).trans g2
 have HF3:=hide h3
 have HK3:=hide (HK2.out.then k3 (fun i _ h=>h))
 have e1:=cellB g3
 have e2:=ja2 g3
 clear h3 k3
 go_wp2
 refine bodyPost_ret (v:=.agg #[.int .u8 kd,.int .u64 x,.int .u64 y]) (by simp [results,Tryz.results107,go_sem,e1]) rfl ⟨rfl,?_,?_⟩
 ·have hF:=HF3.out
  have n1:F≠w.heap.size:=fun e=>hnF e.symm
  have n2:g≠w.heap.size:=fun e=>by have:=HGl.out;omega
  exact hF.kept (by simp) ((ja0 n1 _ _).trans ((ja0 n1 _ _).trans (ja0 n1 _ _))) ((ja0 n2 _ _).trans ((ja0 n2 _ _).trans (ja0 n2 _ _)))
 ·exact Keep.set (S:=fun c=>c=F) (b:=w.heap.size) (Keep.set (S:=fun c=>c=F) (b:=w.heap.size) (Keep.set (S:=fun c=>c=F) (b:=w.heap.size) HK3.out (Or.inr (Nat.le_refl _)) _ _) (Or.inr (Nat.le_refl _)) _ _) (Or.inr (Nat.le_refl _)) _ _
theorem ji9 (F g:Nat)(q:Qt)(bs:List Int)(w:World)(h:FdAt w F g (qby q ++ bs))(hne:0<bs.length)(hq:q.ok) :
  Calls Tryz.prog 170 #[.pointer (some ⟨F,0,none⟩)] w fun e w'=>e=.returned (.tuple #[.agg #[.int .u8 q.kd,.int .u64 q.x,.int .u64 q.y,.int .u64 q.lv,.int .u64 q.wn],.bool true])∧FdAt w' F g bs∧Keep (fun c=>c=F) w w':=by
 have he:qby q ++ bs=q.kd :: (be8 q.x ++ (be8 q.y ++ (be8 q.lv ++ (be8 q.wn ++ bs)))):=by simp [qby]
 rw [he] at h
 have b8:∀ v,(be8 v).length=8:=fun _=>rfl
 obtain⟨V,hV⟩:∃ V,V=w.alloc (.cells #[.int .u8 0,.int .u64 0,.int .u64 0,.int .u64 0,.int .u64 0] 173):=⟨_,rfl⟩
 have hKV:Keep (fun c=>c=F) w V:=hV▸(Keep.refl _ w).alloc _
 have h0:V.heap[w.heap.size]?=some (.cells #[.int .u8 0,.int .u64 0,.int .u64 0,.int .u64 0,.int .u64 0] 173):=hV▸ja1 _ _
 have hFV:=h.kept hKV.size (hV▸ja3 _ _ h.Fl) (hV▸ja3 _ _ h.gl)
 have hnF:w.heap.size≠F:=by have:=h.Fl;omega
 have hng:w.heap.size≠g:=by have:=h.gl;omega
 have HR1:=hide (rdPol F g q.kd q.x q.y _ V hFV (by rw [List.length_append,b8];omega) hq.x hq.y)
 have HK:=hide hKV
 have HGl:=hide (And.intro h.gl h.Fl)
 have HQ:=hide hq
 clear h hFV hKV hq
 go_enter Tryz.func170,Tryz.ntmps170
 go_wp2_with fail
 rw [←hV]
 clear hV
 refine HR1.out.mono ?_
 rintro e w1 ⟨rfl,h1,k1⟩
 have g1:=(k1.block w.heap.size (ltB h0) hnF).trans h0
 have HK1:=hide (HK.out.then k1 (fun i _ h=>h))
 have HF1:=hide h1
 clear h1 k1
 go_wp2_with fail
 refine (jdp q.kd q.x q.y w1 HQ.out.kd).mono ?_
 rintro e w2 ⟨rfl,hb2⟩
 obtain⟨Y,hY⟩:∃ Y,Y=w2.alloc (.cells #[.int .u8 q.kd,.int .u64 q.x,.int .u64 q.y,.int .u64 0,.int .u64 0] 173):=⟨_,rfl⟩
 obtain⟨Q,hQ⟩:∃ Q,Q=w2.heap.size:=⟨_,rfl⟩
 have g2:Y.heap[w.heap.size]?=some (.cells #[.int .u8 0,.int .u64 0,.int .u64 0,.int .u64 0,.int .u64 0] 173):=hY▸upB ((hb2.block _ (ltB g1)).trans g1) _
 have q2:Y.heap[Q]?=some (.cells #[.int .u8 q.kd,.int .u64 q.x,.int .u64 q.y,.int .u64 0,.int .u64 0] 173):=by rw [hQ,hY];exact ja1 _ _
 have s1:=hb2.size
 have sk:=HK1.out.size
 have lg1:=ltB g1
 have hFY:FdAt Y F g (be8 q.lv ++ (be8 q.wn ++ bs)):=HF1.out.kept (by rw [hY];simp;omega) (by rw [hY,ja3 _ _ (Nat.lt_of_lt_of_le HF1.out.Fl s1)];exact hb2.block F HF1.out.Fl) (by rw [hY,ja3 _ _ (Nat.lt_of_lt_of_le HF1.out.gl s1)];exact hb2.block g HF1.out.gl)
 have hKY:Keep (fun c=>c=F) w Y:=by rw [hY];exact (HK1.out.then (T:=fun _=>False) (Keep.of_below hb2) (fun _ _ h=>h.elim)).alloc _
 have nQF:Q≠F:=by have:=HF1.out.Fl;omega
 have nQg:Q≠g:=by have:=HF1.out.gl;omega
 have nQr:Q≠w.heap.size:=by omega
 have HR2:=hide (rdNum F g q.lv _ Y hFY (by rw [List.length_append,b8];omega) HQ.out.lv.1 HQ.out.lv.2)
 have HQQ:=hide hQ
 have HKY:=hide hKY
 have HSS:=hide (And.intro s1 (And.intro sk lg1))
 clear hb2 hFY hKY s1 sk lg1 HF1
 go_upto_region 2 with fail
 rw [←hY,←hQ]
 clear hY hQ
 go_wp2_with fail
 refine HR2.out.mono ?_
 rintro e w3 ⟨rfl,h3,k3⟩
 have HR3:=hide (rdNum F g q.wn _ w3 h3 hne HQ.out.wn.1 HQ.out.wn.2)
 have g3:=(k3.block w.heap.size (ltB g2) hnF).trans g2
 have q3:=(k3.block Q (ltB q2) nQF).trans q2
 have HK3:=hide (HKY.out.then k3 (fun _ _ h=>h))
 clear h3 k3
 go_wp2_with fail
 refine HR3.out.mono ?_
 rintro e w4 ⟨rfl,h4,k4⟩
 have g4:=(k4.block w.heap.size (ltB g3) hnF).trans g3
 have q4:=(k4.block Q (ltB q3) nQF).trans q3
 have HK4:=hide (HK3.out.then k4 (fun _ _ h=>h))
 have HF4:=hide h4
 have e1:=cellB g4
 have e2:=ja2 g4
 have e3:=cellB q4
 have e4:=ja2 q4
 clear h4 k4
 have nrQ:¬w.heap.size=Q:=fun e=>nQr e.symm
 go_wp2
 refine bodyPost_ret (v:=.tuple #[.agg #[.int .u8 q.kd,.int .u64 q.x,.int .u64 q.y,.int .u64 q.lv,.int .u64 q.wn],.bool true]) (by simp [results,Tryz.results170,go_sem,e1,e3,nrQ]) rfl ⟨rfl,?_,?_⟩
 ·have n1:∀ x,x=F∨x=g→x≠Q∧x≠w.heap.size:=fun x hx=>by
   rcases hx with h | h
   ·exact⟨fun e=>nQF (e.symm.trans h),fun e=>hnF (e.symm.trans h)⟩
   ·exact⟨fun e=>nQg (e.symm.trans h),fun e=>hng (e.symm.trans h)⟩
  have hX:∀ x,x=F∨x=g→(((((((w4.setCell ⟨Q,3,none⟩ (.int .u64 q.lv)).setCell ⟨Q,4,none⟩ (.int .u64 q.wn)).setCell ⟨w.heap.size,0,none⟩ (.int .u8 q.kd)).setCell ⟨w.heap.size,1,none⟩ (.int .u64 q.x)).setCell ⟨w.heap.size,2,none⟩ (.int .u64 q.y)).setCell ⟨w.heap.size,3,none⟩ (.int .u64 q.lv)).setCell ⟨w.heap.size,4,none⟩ (.int .u64 q.wn)).heap[x]?=w4.heap[x]?:=fun x hx=>by
   obtain⟨a,b⟩:=n1 x hx
   rw [ja0 b,ja0 b,ja0 b,ja0 b,ja0 b,ja0 a,ja0 a]
  exact HF4.out.kept (by simp) (hX F (Or.inl rfl)) (hX g (Or.inr rfl))
 ·have hQw:w.heap.size≤Q:=by have:=HQQ.out;have:=HSS.out;omega
  refine Keep.set ?_ (Or.inr (Nat.le_refl _)) _ _
  refine Keep.set ?_ (Or.inr (Nat.le_refl _)) _ _
  refine Keep.set ?_ (Or.inr (Nat.le_refl _)) _ _
  refine Keep.set ?_ (Or.inr (Nat.le_refl _)) _ _
  refine Keep.set ?_ (Or.inr (Nat.le_refl _)) _ _
  refine Keep.set ?_ (Or.inr hQw) _ _
  refine Keep.set ?_ (Or.inr hQw) _ _
  exact HK4.out
theorem jkb (g o m c:Nat)(v:Int)(w:World)(hgl:g<w.heap.size)(hm:m=8)(hs:∀ j,j<8→w.cell? ⟨g,o+j,none⟩=some (.int .u8 (nb v j))) :
  (Builtin.copy_ #[76,76] 3 #[.slice (some ⟨w.heap.size,0,none⟩) 8 8,.slice (some ⟨g,o,none⟩) m c]).run Tryz.prog ((w.alloc (.cells #[.int .u8 0,.int .u8 0,.int .u8 0,.int .u8 0,.int .u8 0,.int .u8 0,.int .u8 0,.int .u8 0] 322)).drew)
   = .ok (.int .i64 8) ((w.alloc (.cells #[.int .u8 (nb v 0),.int .u8 (nb v 1),.int .u8 (nb v 2),.int .u8 (nb v 3),.int .u8 (nb v 4),.int .u8 (nb v 5),.int .u8 (nb v 6),.int .u8 (nb v 7)] 322)).drew):=by
 subst hm
 have hg:((w.alloc (.cells #[.int .u8 0,.int .u8 0,.int .u8 0,.int .u8 0,.int .u8 0,.int .u8 0,.int .u8 0,.int .u8 0] 322)).drew).heap[w.heap.size]?=some (.cells #[.int .u8 0,.int .u8 0,.int .u8 0,.int .u8 0,.int .u8 0,.int .u8 0,.int .u8 0,.int .u8 0] 322 (0,0)):=ja1 _ _
 have hs':∀ j u,([.int .u8 (nb v 0),.int .u8 (nb v 1),.int .u8 (nb v 2),.int .u8 (nb v 3),.int .u8 (nb v 4),.int .u8 (nb v 5),.int .u8 (nb v 6),.int .u8 (nb v 7)]:List Value)[j]?=some u→((w.alloc (.cells #[.int .u8 0,.int .u8 0,.int .u8 0,.int .u8 0,.int .u8 0,.int .u8 0,.int .u8 0,.int .u8 0] 322)).drew).cell? ((⟨g,o,none⟩:Addr).add j)=some u:=by
  intro j u hj
  rw [Addr.add_lit]
  show (w.alloc (.cells #[.int .u8 0,.int .u8 0,.int .u8 0,.int .u8 0,.int .u8 0,.int .u8 0,.int .u8 0,.int .u8 0] 322)).cell? ⟨g,o+j,none⟩=some u
  rw [World.cell?_alloc_lt _ _ ⟨g,o+j,none⟩ hgl]
  match j,hj with
  | 0,hj=>simp at hj;subst hj;exact hs 0 (by omega)
  | 1,hj=>simp at hj;subst hj;exact hs 1 (by omega)
  | 2,hj=>simp at hj;subst hj;exact hs 2 (by omega)
  | 3,hj=>simp at hj;subst hj;exact hs 3 (by omega)
  | 4,hj=>simp at hj;subst hj;exact hs 4 (by omega)
  | 5,hj=>simp at hj;subst hj;exact hs 5 (by omega)
  | 6,hj=>simp at hj;subst hj;exact hs 6 (by omega)
  | 7,hj=>simp at hj;subst hj;exact hs 7 (by omega)
 rw [run_copy_row (P:=Tryz.prog) _ 76 76 3 5 w.heap.size 0 8 8 ⟨g,o,none⟩ 8 c _ 322 [.int .u8 (nb v 0),.int .u8 (nb v 1),.int .u8 (nb v 2),.int .u8 (nb v 3),.int .u8 (nb v 4),.int .u8 (nb v 5),.int .u8 (nb v 6),.int .u8 (nb v 7)] Tryz.underlying76 (by kernel_rfl) hg (by rfl) hs' (by simp) (by simp [Value.oneCell'])]
 have e:((w.alloc (.cells #[.int .u8 0,.int .u8 0,.int .u8 0,.int .u8 0,.int .u8 0,.int .u8 0,.int .u8 0,.int .u8 0] 322)).drew).setRow w.heap.size #[.int .u8 (nb v 0),.int .u8 (nb v 1),.int .u8 (nb v 2),.int .u8 (nb v 3),.int .u8 (nb v 4),.int .u8 (nb v 5),.int .u8 (nb v 6),.int .u8 (nb v 7)]=(w.alloc (.cells #[.int .u8 (nb v 0),.int .u8 (nb v 1),.int .u8 (nb v 2),.int .u8 (nb v 3),.int .u8 (nb v 4),.int .u8 (nb v 5),.int .u8 (nb v 6),.int .u8 (nb v 7)] 322)).drew:=by
  show ((w.alloc (.cells #[.int .u8 0,.int .u8 0,.int .u8 0,.int .u8 0,.int .u8 0,.int .u8 0,.int .u8 0,.int .u8 0] 322)).setRow w.heap.size #[.int .u8 (nb v 0),.int .u8 (nb v 1),.int .u8 (nb v 2),.int .u8 (nb v 3),.int .u8 (nb v 4),.int .u8 (nb v 5),.int .u8 (nb v 6),.int .u8 (nb v 7)]).drew=_
  rw [World.setRow_alloc_new w #[.int .u8 0,.int .u8 0,.int .u8 0,.int .u8 0,.int .u8 0,.int .u8 0,.int .u8 0,.int .u8 0] #[.int .u8 (nb v 0),.int .u8 (nb v 1),.int .u8 (nb v 2),.int .u8 (nb v 3),.int .u8 (nb v 4),.int .u8 (nb v 5),.int .u8 (nb v 6),.int .u8 (nb v 7)] 322]
 simp only [List.take_zero,List.nil_append,List.length_cons,List.length_nil]
 exact congrArg _ e
theorem jkl (k:Int)(w:World)(hk:0≤k∧k≤12):Calls Tryz.prog 186 #[.int .u8 k] w fun e w'=>e=.returned (.int .i64 (17+k * 41+8))∧w'=w:=by
 have w1:IntKind.i64.wrap k=k:=by rw [IntKind.wrap_i64];omega
 have w2:IntKind.i64.wrap (k * 41)=k * 41:=by rw [IntKind.wrap_i64];omega
 have w3:IntKind.i64.wrap (17+k * 41)=17+k * 41:=by rw [IntKind.wrap_i64];omega
 have w4:IntKind.i64.wrap (17+k * 41+8)=17+k * 41+8:=by rw [IntKind.wrap_i64];omega
 clear hk
 go_enter Tryz.func186,Tryz.ntmps186
 go_wp2
 go_ret
 exact⟨rfl,rfl⟩
theorem jji (v:Int)(w:World):(Op.equalIn 10000 322 (.agg #[.int .u8 (nb v 0),.int .u8 (nb v 1),.int .u8 (nb v 2),.int .u8 (nb v 3),.int .u8 (nb v 4),.int .u8 (nb v 5),.int .u8 (nb v 6),.int .u8 (nb v 7)]) (.agg #[.int .u8 (nb v 0),.int .u8 (nb v 1),.int .u8 (nb v 2),.int .u8 (nb v 3),.int .u8 (nb v 4),.int .u8 (nb v 5),.int .u8 (nb v 6),.int .u8 (nb v 7)])).run Tryz.prog w=.ok true w:=by
 have u5:=Tryz.underlying5
 have a5:=Tryz.isAgg5
 have z5:=Tryz.sizeOf5
 rw [show (10000:Nat)=9999+1 from rfl,Op.equalIn]
 simp only [Sem.run_bind,run_underlying Tryz.underlying322,Result.andThen_ok]
 simp only [Std.Legacy.Range.forIn_eq_forIn_range',Std.Legacy.Range.size,Nat.sub_zero,Nat.add_sub_cancel,Nat.div_one,List.range'_succ,List.range'_zero,List.forIn_cons,List.forIn_nil]
 go_simp
theorem jlg (vs:Array Value)(w:World):Sem.run Tryz.prog (callFunc 187 vs) w=.ok (.enter 187 vs) w:=by simp [go_sem]
theorem jiH (gt o g so n cap:Nat)(k:Int)(A:List Int)(v:Int)(w:World)(hT:TabOk w gt o)(hv:v=sumM A)(hA:A.length+8=n)(hnc:n≤cap)(hk:0≤k∧k≤12)(hn:(n:Int)=17+k * 41+8)(hgl:g<w.heap.size)(hgt:gt<w.heap.size)(hne:g≠gt)(h0:w.cell? ⟨g,so,none⟩=some (.int .u8 k))(hc:∀ j,j<A.length→w.cell? ⟨g,so+j,none⟩=some (.int .u8 (A.getD j 0)))(hb:Bytes A)(hs:∀ j,j<8→w.cell? ⟨g,so+(n - 8)+j,none⟩=some (.int .u8 (nb v j))) :
  Calls Tryz.prog 169 #[.pointer (some ⟨gt,o,none⟩),.slice (some ⟨g,so,none⟩) n cap] w fun e w'=>e=.returned (.bool true)∧TabPost w w' gt o:=by
 obtain⟨V,hV⟩:∃ V,V=w.alloc (.cells #[.int .u8 0,.int .u8 0,.int .u8 0,.int .u8 0,.int .u8 0,.int .u8 0,.int .u8 0,.int .u8 0] 322):=⟨_,rfl⟩
 obtain⟨U,hU⟩:∃ U,U=(w.alloc (.cells #[.int .u8 (nb v 0),.int .u8 (nb v 1),.int .u8 (nb v 2),.int .u8 (nb v 3),.int .u8 (nb v 4),.int .u8 (nb v 5),.int .u8 (nb v 6),.int .u8 (nb v 7)] 322)).drew:=⟨_,rfl⟩
 have hcp:=jkb g (so+(n - 8)) 8 (cap - (n - 8)) v w hgl rfl hs
 rw [←hU,←hV] at hcp
 have hBU:Below w.heap.size w U:=hU▸((Below.refl _ w).alloc (Nat.le_refl _) _).drew
 have hTU:TabOk U gt o:=hT.block (hBU.block gt hgt)
 have hUn:U.heap[w.heap.size]?=some (.cells #[.int .u8 (nb v 0),.int .u8 (nb v 1),.int .u8 (nb v 2),.int .u8 (nb v 3),.int .u8 (nb v 4),.int .u8 (nb v 5),.int .u8 (nb v 6),.int .u8 (nb v 7)] 322):=hU▸ja1 _ _
 have hsU:U.heap.size=w.heap.size+1:=by rw [hU];simp
 have HOF:=hide (tabOf gt o g so (n - 8) cap A U.drew (hTU.block rfl) (by omega) (by omega) (by omega) (by show gt<U.heap.size;omega) (by show g<U.heap.size;omega) hne (fun j hj=>(World.cell?_of_block (w:=w) (hBU.block g hgl)).trans (hc j (by omega))) (fun j=>hb.getD j) v hv)
 have HSZ:=jkl k w hk
 rw [←hn] at HSZ
 have HSZ:=hide HSZ
 have m0:((n:Int)==0)=false:=by simp;omega
 have m1:¬(12:Int)<k:=by omega
 have m8:¬cap=n - 8:=by omega
 have m9:((n - 8:Nat):Int)≤(n:Int):=by omega
 have m3:IntKind.i64.wrap ((n:Int) - 8)=((n - 8:Nat):Int):=by rw [IntKind.wrap_i64];omega
 have m4:n - 8≤n:=by omega
 have m5:n - (n - 8)=8:=by omega
 have m6:n - 8≤cap:=by omega
 have m7:n - 8=A.length:=by omega
 have n0:(0:Int)<(n:Int):=by omega
 have HBU:=hide hBU
 have HHV:=hide hV
 have HHT:=hide hT
 have HSU:=hide hsU
 have HM7:=hide m7
 have HN:=hide hn
 have HA:=hide hA
 clear hT hTU hc hb hs hA hv hBU m7 hn hk hV hU
 go_enter Tryz.func169,Tryz.ntmps169
 go_wp2_with (first | (go_at_call 186;refine HSZ.out.mono ?_;rintro e w' ⟨rfl,rfl⟩))
 rw [←HHV.out]
 go_region
 go_wp2_with fail
 have d0:=cellB hUn
 have hse:=jji v
 go_region_law (refine jaj (by rfl) 187 jlg _ _ (by rfl) #[.pointer (some ⟨gt,o,none⟩),.slice (some ⟨g,so,none⟩) (n - 8) cap] (by simp only [List.map_toArray,List.map_cons,List.map_nil];rfl) HOF.out ?_;rintro e w2 ⟨rfl,hP⟩;refine⟨_,rfl,?_⟩;have HP:=hide hP;have hq:=(hP.keep.block _ (ltB hUn) (fun e=>by omega)).trans hUn;have d1:=cellB hq;clear hP)
 all_goals go_wp2
 all_goals go_ret
 all_goals (
   have hB:=HBU.out
   have hP:=HP.out
   refine⟨rfl,hP.tab,fun j hj=>⟨(hP.cel j hj).1.trans (hB.cell (p:=⟨gt,j,none⟩) hgt),(hP.cel j hj).2.trans (hB.frozen (p:=⟨gt,j,none⟩) hgt)⟩,(Keep.of_below hB).then (T:=fun c=>c=gt) ⟨hP.keep.os,hP.keep.tape,hP.keep.output,hP.keep.size,hP.keep.block⟩ (fun _ _ h=>h)⟩)
end Go.Proofs.YtnlgndpcddngoaaGreatDoor
namespace Go.Proofs.YtnlgndpcddngoaaGreatDoor
open Go.RowKit Go.Maps
def kvals (k:Ky):List Value:=[.int .u8 k.k0,.int .u8 k.k1,.int .u8 k.k2,.int .u8 k.k3,.int .u8 k.k4,.int .u8 k.k5,.int .u8 k.k6,.int .u8 k.k7]
def qvals (q:Qt):List Value:=[.int .u8 q.kd,.int .u64 q.x,.int .u64 q.y,.int .u64 q.lv,.int .u64 q.wn]
def rrow (es:Es)(ks:List Ky):List Value:=ks.flatMap fun k=>kvals k ++ qvals (jag es k)
theorem jhk (es:Es)(ks:List Ky)(k:Ky):rrow es (ks ++ [k])=rrow es ks ++ (kvals k ++ qvals (jag es k)):=by
 unfold rrow
 rw [List.flatMap_append]
 simp
theorem jhC (es:Es)(k:Ky)(ks:List Ky):recs es (k :: ks)=kby k ++ (qby (jag es k) ++ recs es ks):=by
 unfold recs
 rw [List.flatMap_cons,List.append_assoc]
theorem Tryz.infoRec:(Tryz.prog.info? 175).map (fun i=>(i.zero,i.size,i.bytes))=some (some (.agg #[.int .u8 0,.int .u8 0,.int .u8 0,.int .u8 0,.int .u8 0,.int .u8 0,.int .u8 0,.int .u8 0,.int .u8 0,.int .u64 0,.int .u64 0,.int .u64 0,.int .u64 0]),13,48):=by kernel_rfl
theorem jek (w:World)(k:Ky)(q:Qt)(t:TypeId):∀ j u,(kvals k ++ qvals q)[j]?=some u→(w.alloc (.cells #[.int .u8 k.k0,.int .u8 k.k1,.int .u8 k.k2,.int .u8 k.k3,.int .u8 k.k4,.int .u8 k.k5,.int .u8 k.k6,.int .u8 k.k7,.int .u8 q.kd,.int .u64 q.x,.int .u64 q.y,.int .u64 q.lv,.int .u64 q.wn] t)).cell? ((⟨w.heap.size,0,none⟩:Addr).add j)=some u:=by
 intro j u hj
 rw [Addr.add_lit,Nat.zero_add,World.cell?_alloc_at _ _ _ _ rfl]
 match j,hj with
 | 0,hj=>exact hj
 | 1,hj=>exact hj
 | 2,hj=>exact hj
 | 3,hj=>exact hj
 | 4,hj=>exact hj
 | 5,hj=>exact hj
 | 6,hj=>exact hj
 | 7,hj=>exact hj
 | 8,hj=>exact hj
 | 9,hj=>exact hj
 | 10,hj=>exact hj
 | 11,hj=>exact hj
 | 12,hj=>exact hj
 | j+13,hj=>simp [kvals,qvals] at hj
theorem jjJ (k:Ky)(q:Qt):∀ u∈kvals k ++ qvals q,u.oneCell'=true:=by
 intro v hv
 simp [kvals,qvals] at hv
 rcases hv with h | h | h | h | h | h | h | h | h | h | h | h | h <;> subst h <;> rfl
structure RdR (w1 wr:World)(F g I:Nat)(turn time:Int)(es:Es)(ks:List Ky)(tl:List Int)(j:Nat)(v:Value):Prop where
 box:wr.heap[I]?=some (.cells #[.int .u64 turn,.int .u64 time,v] 169)
 own:wr.ownsRow (I+1) 175 13 v j (rrow es (ks.take j))
 fd:FdAt wr F g (recs es (ks.drop j) ++ tl)
 bel:Below w1.heap.size w1 wr
theorem jkJ (gt o g n cap:Nat)(turn time:Int)(es:Es)(ks:List Ky)(w:World)(hT:TabOk w gt o)(hl:ks.length≤12)(hk:∀ k∈ks,k.ok∧(jag es k).ok)(ht:0≤turn∧turn≤18446744073709551615)(hm:0≤time∧time≤18446744073709551615)(hn:(imgB turn time es ks).length=n)(hnc:n≤cap)(hgl:g<w.heap.size)(hgt:gt<w.heap.size)(hne:g≠gt)
  (hc:∀ j,j<n→w.cell? ⟨g,0+j,none⟩=some (.int .u8 ((imgB turn time es ks).getD j 0))) :
  Calls Tryz.prog 148 #[.pointer (some ⟨gt,o,none⟩),.slice (some ⟨g,0,none⟩) n cap] w fun e w'=>∃ v,e=.returned (.tuple #[.agg #[.int .u64 turn,.int .u64 time,v],.bool true])∧w'.ownsRow w.heap.size 175 13 v ks.length (rrow es ks)∧TabPost w w' gt o:=by
 obtain⟨i0,hi,hz0,hz1,hz2⟩:=info_parts Tryz.infoRec
 have b8:∀ v,(be8 v).length=8:=fun _=>rfl
 have hfit:∀ k∈ks,k.ok∧(jag es k).fit:=fun k h=>⟨(hk k h).1,⟨by rcases (hk k h).2.kd with h | h <;> omega,(hk k h).2.x,(hk k h).2.y,(hk k h).2.lv,(hk k h).2.wn⟩⟩
 obtain⟨A,hA⟩:∃ A,A=imgA turn time es ks:=⟨_,rfl⟩
 have hAl:A.length=17+41 * ks.length:=by rw [hA];exact jbK _ _ _ _
 have hAb:Bytes A:=hA▸jbS turn time es ks hl hfit
 obtain⟨sm,hsm⟩:∃ sm,sm=sumM A:=⟨_,rfl⟩
 have hB:imgB turn time es ks=A ++ be8 sm:=by rw [hsm,hA];rfl
 rw [hB] at hn hc
 have hnl:n=A.length+8:=by rw [←hn,List.length_append,b8]
 obtain⟨V,hV⟩:∃ V,V=w.alloc (.cells #[.int .u64 0,.int .u64 0,.slice none 0 0] 169):=⟨_,rfl⟩
 have hBV:Below w.heap.size w V:=hV▸(Below.refl _ w).alloc (Nat.le_refl _) _
 have h0:V.heap[w.heap.size]?=some (.cells #[.int .u64 0,.int .u64 0,.slice none 0 0] 169):=hV▸ja1 _ _
 have hsV:V.heap.size=w.heap.size+1:=by rw [hV];simp
 have hcV:∀ j,j<n→V.cell? ⟨g,0+j,none⟩=some (.int .u8 ((A ++ be8 sm).getD j 0)):=fun j hj=>(hBV.cell (p:=⟨g,0+j,none⟩) hgl).trans (hc j hj)
 have hA0:A.getD 0 0=(ks.length:Int):=by rw [hA];rfl
 have HW:=hide (jiH gt o g 0 n cap (ks.length:Int) A sm V (hT.block (hBV.block gt hgt)) hsm hnl.symm hnc (by omega) (by omega) (by omega) (by omega) hne
   (by have:=hcV 0 (by omega);rw [jbm _ _ _ (by omega),hA0] at this;simpa using this) (fun j hj=>by rw [hcV j (by omega),jbm _ _ _ hj]) hAb
   (fun j hj=>by
     have:=hcV (A.length+j) (by omega)
     rw [jcW] at this
     rw [show 0+(n - 8)+j=0+(A.length+j) by omega,this]
     match j,hj with
     | 0,_=>rfl
     | 1,_=>rfl
     | 2,_=>rfl
     | 3,_=>rfl
     | 4,_=>rfl
     | 5,_=>rfl
     | 6,_=>rfl
     | 7,_=>rfl))
 have hbyt:Bytes (A ++ be8 sm):=fun b hb=>(List.mem_append.1 hb).elim (hAb b) (jaq sm b)
 have hsplit:A ++ be8 sm=(ks.length:Int) :: (be8 turn ++ (be8 time ++ (recs es ks ++ be8 sm))):=by rw [hA];unfold imgA;simp
 have HCV:=hide hcV
 have HBV:=hide hBV
 have HSV:=hide hsV
 have HK:=hide hk
 have HNL:=hide (And.intro hnl hn)
 have HBY:=hide hbyt
 have HSP:=hide hsplit
 have HTT:=hide (And.intro ht hm)
 have HT:=hide hT
 have hl':(ks.length:Int)≤12:=by omega
 clear hc hcV hT hA hAl hAb hsm hB hn hnl hfit hBV hsV hk hbyt hsplit ht hm hA0
 go_enter Tryz.func148,Tryz.ntmps148
 go_wp2_with fail
 rw [←hV]
 clear hV
 refine HW.out.mono ?_
 rintro e w1 ⟨rfl,hP⟩
 have hs1:=hP.keep.size
 have sV:=HSV.out
 have g1:=(hP.keep.block w.heap.size (ltB h0) (fun e=>by omega)).trans h0
 have hc1:∀ j,j<n→w1.cell? ⟨g,0+j,none⟩=some (.int .u8 ((A ++ be8 sm).getD j 0)):=fun j hj=>(World.cell?_of_block (w:=V) (hP.keep.block g (by omega) hne)).trans (HCV.out j hj)
 have hgl1:g<w1.heap.size:=by omega
 have HP:=hide hP
 have HC1:=hide hc1
 have HG1:=hide g1
 clear hP hc1 g1
 go_wp2_with fail
 refine (jcn (some ⟨g,0,none⟩) n cap w1).mono ?_
 rintro e w2 ⟨rfl,hw2⟩
 obtain⟨F,hF⟩:∃ F,F=w1.heap.size:=⟨_,rfl⟩
 have hfd:FdAt w2 F g ((ks.length:Int) :: (be8 turn ++ (be8 time ++ (recs es ks ++ be8 sm)))):=by
  rw [←HSP.out]
  obtain⟨hnl,hn⟩:=HNL.out
  refine⟨⟨0,cap,?_,by omega,fun j hj=>?_⟩,?_,HBY.out,by omega,by rw [hw2];simp;omega,by rw [hw2,hF];simp⟩
  ·rw [hw2,hF,hn];exact cellB (ja1 _ _) 0
  ·rw [hw2,World.cell?_alloc_lt _ _ ⟨g,0+j,none⟩ hgl1];exact HC1.out j (by omega)
  ·rw [hw2,hF];exact ja2 (ja1 _ _) 0
 have hb2:Below w1.heap.size w1 w2:=hw2▸(Below.refl _ w1).alloc (Nat.le_refl _) _
 have hs2:w2.heap.size=F+1:=by rw [hw2,hF];simp
 rw [←hF]
 clear hw2
 have HR1:=hide (jjo F g _ _ w2 hfd (by rw [List.length_append,b8];omega))
 have HB2:=hide hb2
 have HS2:=hide hs2
 have HF:=hide hF
 clear hfd hb2 hs2 hF
 go_wp2_with fail
 refine HR1.out.mono ?_
 rintro e w3 ⟨rfl,h3,k3⟩
 have HR2:=hide (rdNum F g turn _ w3 h3 (by rw [List.length_append,b8];omega) HTT.out.1.1 HTT.out.1.2)
 have HK3:=hide k3
 clear h3 k3
 go_wp2_with fail
 refine HR2.out.mono ?_
 rintro e w4 ⟨rfl,h4,k4⟩
 have HR3:=hide (rdNum F g time _ w4 h4 (by rw [List.length_append,b8];omega) HTT.out.2.1 HTT.out.2.2)
 have HK4:=hide (HK3.out.then k4 (fun _ _ h=>h))
 clear h4 k4
 go_wp2_with fail
 refine HR3.out.mono ?_
 rintro e w5 ⟨rfl,h5,k5⟩
 have HK5:=hide (HK4.out.then k5 (fun _ _ h=>h))
 have H5:=hide h5
 clear h5 k5
 obtain⟨Y,hY⟩:∃ Y,Y=w5.alloc (.cells #[.int .u64 turn,.int .u64 time,.slice none 0 0] 169):=⟨_,rfl⟩
 obtain⟨I,hI⟩:∃ I,I=w5.heap.size:=⟨_,rfl⟩
 have hRY:RdR w1 Y F g I turn time es ks (be8 sm) 0 (.slice none 0 0):=by
  have s5:=HK5.out.size
  have s2:=HS2.out
  have eF:=HF.out
  refine⟨by rw [hI,hY];exact ja1 _ _,World.ownsRow_nil _ _ _ _,?_,?_⟩
  ·rw [List.drop_zero]
   exact H5.out.kept (by rw [hY];simp) (hY▸ja3 _ _ H5.out.Fl) (hY▸ja3 _ _ H5.out.gl)
  ·rw [hY]
   exact (HB2.out.trans (HK5.out.below (by omega) (fun k hk=>by omega))).alloc (by omega) _
 have HRY:=hide hRY
 have HIl:Hid (w1.heap.size<I):=hide (by have:=HK5.out.size;have:=HS2.out;have:=HF.out;omega)
 clear hRY
 go_upto_region 7 with fail
 rw [←hY,←hI]
 clear hY hI
 go_wp2_with fail
 go_loopw [31] (fun s wr=>∃ (j:Nat) (v:Value),j≤ks.length∧s=.int .u8 j∧RdR w1 wr F g I turn time es ks (be8 sm) j v) (fun s _=>ks.length - (intOf s).toNat)
 case atStart=>exact⟨0,_,Nat.zero_le _,rfl,HRY.out⟩
 case round=>
  obtain⟨j,v,hj,rfl,hR⟩:=hrel
  obtain⟨a0,d0,e0⟩:=ja8 hR.own
  subst e0
  by_cases hlt:j<ks.length
  ·obtain⟨k,hkj⟩:∃ k,k=ks[j]:=⟨_,rfl⟩
   obtain⟨q,hq⟩:∃ q,q=jag es k:=⟨_,rfl⟩
   have hdr:ks.drop j=k :: ks.drop (j+1):=by rw [hkj];exact List.drop_eq_getElem_cons hlt
   have hq0:q.ok:=by rw [hq,hkj];exact (HK.out _ (List.getElem_mem hlt)).2
   have hfd:=hR.fd
   rw [hdr,jhC,←hq,List.append_assoc,List.append_assoc] at hfd
   have hIF:=HIl.out
   have eF:=HF.out
   have lI:=ltB hR.box
   have nFI:F≠I:=by omega
   have ngI:g≠I:=by omega
   have HRK:=hide (rdKey F g k _ wr hfd (by rw [List.length_append,jbQ];omega))
   have HR0:=hide hR
   have hkj':ks[j]?=some k:=by rw [hkj];exact List.getElem?_eq_getElem hlt
   have HDR:=hide (And.intro hdr (And.intro hkj' hq))
   have HQ0:=hide hq0
   have hjl:(j:Int)<(ks.length:Int):=by omega
   have HLT:=hide hlt
   clear hfd hR hdr hkj hkj' hq hq0 hIF eF hlt hj
   go_wp2_with fail
   refine HRK.out.mono ?_
   rintro e w6 ⟨rfl,h6,k6⟩
   obtain⟨Wk,hWk⟩:∃ Wk,Wk=w6.alloc (.cells #[.int .u8 k.k0,.int .u8 k.k1,.int .u8 k.k2,.int .u8 k.k3,.int .u8 k.k4,.int .u8 k.k5,.int .u8 k.k6,.int .u8 k.k7] 63):=⟨_,rfl⟩
   obtain⟨K,hK⟩:∃ K,K=w6.heap.size:=⟨_,rfl⟩
   have s6:=k6.size
   have hk0:Wk.heap[K]?=some (.cells #[.int .u8 k.k0,.int .u8 k.k1,.int .u8 k.k2,.int .u8 k.k3,.int .u8 k.k4,.int .u8 k.k5,.int .u8 k.k6,.int .u8 k.k7] 63):=by rw [hK,hWk];exact ja1 _ _
   have h6':FdAt Wk F g (qby q ++ (recs es (ks.drop (j+1)) ++ be8 sm)):=h6.kept (by rw [hWk];simp) (hWk▸ja3 _ _ h6.Fl) (hWk▸ja3 _ _ h6.gl)
   have hkWk:Keep (fun c=>c=F) wr Wk:=hWk▸k6.alloc _
   have nKF:K≠F:=by have:=h6.Fl;omega
   have HRQ:=hide (ji9 F g q _ Wk h6' (by rw [List.length_append,b8];omega) HQ0.out)
   have HKW:=hide hkWk
   have HKs:Hid (wr.heap.size≤K):=hide (by omega)
   clear h6 h6' k6 hkWk s6
   go_upto_region 10 with fail
   rw [←hWk,←hK]
   clear hWk hK
   go_wp2_with fail
   refine HRQ.out.mono ?_
   rintro e w7 ⟨rfl,h7,k7⟩
   obtain⟨Wq,hWq⟩:∃ Wq,Wq=w7.alloc (.cells #[.int .u8 q.kd,.int .u64 q.x,.int .u64 q.y,.int .u64 q.lv,.int .u64 q.wn] 173):=⟨_,rfl⟩
   obtain⟨Q,hQ⟩:∃ Q,Q=w7.heap.size:=⟨_,rfl⟩
   have s7:=k7.size
   have lK:=ltB hk0
   have hk7:Wq.heap[K]?=some (.cells #[.int .u8 k.k0,.int .u8 k.k1,.int .u8 k.k2,.int .u8 k.k3,.int .u8 k.k4,.int .u8 k.k5,.int .u8 k.k6,.int .u8 k.k7] 63):=hWq▸upB ((k7.block K lK nKF).trans hk0) _
   have hq7:Wq.heap[Q]?=some (.cells #[.int .u8 q.kd,.int .u64 q.x,.int .u64 q.y,.int .u64 q.lv,.int .u64 q.wn] 173):=by rw [hQ,hWq];exact ja1 _ _
   have hkWq:Keep (fun c=>c=F) wr Wq:=hWq▸(HKW.out.then k7 (fun _ _ h=>h)).alloc _
   have hI7:Wq.heap[I]?=some (.cells #[.int .u64 turn,.int .u64 time,.slice a0 j d0] 169):=(hkWq.block I lI (fun e=>nFI e.symm)).trans HR0.out.box
   have hfd7:FdAt Wq F g (recs es (ks.drop (j+1)) ++ be8 sm):=h7.kept (by rw [hWq];simp) (hWq▸ja3 _ _ h7.Fl) (hWq▸ja3 _ _ h7.gl)
   have hoF:∀ x,(Value.slice a0 j d0).ownBlock=some x→I+1≤x∧x<wr.heap.size:=fun x hx=>ja5 HR0.out.own hx
   have hown7:Wq.ownsRow (I+1) 175 13 (.slice a0 j d0) j (rrow es (ks.take j)):=ja7 HR0.out.own (fun x hx=>hkWq.block x (hoF x hx).2 (fun e=>by have:=(hoF x hx).1;have:=HIl.out;have:=HF.out;omega))
   have HKQ:=hide hkWq
   have HFD:=hide hfd7
   have HSI:Hid (I+1≤Wq.heap.size):=hide (by have:=hkWq.size;omega)
   clear h7 k7 hkWq hfd7 s7 lK hk0
   go_upto_region 11 with fail
   rw [←hWq,←hQ]
   clear hWq hQ
   have c1:=cellB hk7
   have c2:=cellB hq7
   have c3:=cellB hI7
   have c3':=ja2 hI7
   go_wp2_with (first
     | (at_builtin;refine wpList_append_own_at (w:=_) rfl _ _ 167 rfl (I+1) 175 i0 (.agg #[.int .u8 0,.int .u8 0,.int .u8 0,.int .u8 0,.int .u8 0,.int .u8 0,.int .u8 0,.int .u8 0,.int .u8 0,.int .u64 0,.int .u64 0,.int .u64 0,.int .u64 0]) 13 48 Tryz.underlying167 hi hz0 hz1 hz2 rfl (by decide) (.slice a0 j d0) j _ rfl (hown7.alloc _) ⟨Wq.heap.size,0,none⟩ 1 1 (kvals k ++ qvals q) rfl rfl (jek _ _ _ _) (jjJ k q) (by unfold maxLen;omega) (by omega) (by have:=HSI.out;simp;omega) ?_;intro v2 w8 hown8 hgrow8 _ hat8;obtain⟨a2,d2,e2⟩:=ja8 hown8;subst e2
        have hI8:=(hgrow8.block I (by have:=ltB hI7;simp;omega) (fun e=>by have:=(hoF I e.symm).1;omega)).trans ((ja3 _ _ (ltB hI7)).trans hI7)
        have c4:=cellB hI8
        have c4':=ja2 hI8)
     | go_in)
   go_roundw
   case rel=>
    obtain⟨hdr,hkj,hq⟩:=HDR.out
    have hlt:=HLT.out
    have hB:Below w1.heap.size w1 Wq:=by
     refine HR0.out.bel.trans ((HKQ.out.mono (fun _ h _=>h)).below HR0.out.bel.size (fun c hc=>?_))
     have:=HF.out
     omega
    have hX:∀ x,x<Wq.heap.size→(Value.slice a0 j d0).ownBlock≠some x→w8.heap[x]?=Wq.heap[x]?:=fun x hx hne'=>(hgrow8.block x (by simp;omega) (fun e=>hne' e.symm)).trans (ja3 _ _ hx)
    have hnF:(Value.slice a0 j d0).ownBlock≠some F:=fun e=>by have:=(hoF F e).1;have:=HIl.out;have:=HF.out;omega
    have hng:(Value.slice a0 j d0).ownBlock≠some g:=fun e=>by have:=(hoF g e).1;have:=HIl.out;omega
    have hs8:Wq.heap.size≤w8.heap.size:=Nat.le_trans (by simp) hgrow8.size
    refine⟨j+1,.slice a2 (j+1) d2,by omega,by go_num,by simpa using ja4 hI8 2 (.slice a2 (j+1) d2),?_,?_,?_⟩
    ·have e:ks.take (j+1)=ks.take j ++ [k]:=by rw [List.take_add_one,hkj];rfl
     rw [e,jhk,←hq]
     exact ownsRow_setCell_other hown8 (a:=⟨I,2,none⟩) (fun e=>absurd (ja5 hown8 e).1 (by show ¬I+1≤I;omega)) _
    ·exact HFD.out.kept (by rw [World.size_setCell];exact hs8) ((ja0 nFI _ _).trans (hX F HFD.out.Fl hnF)) ((ja0 ngI _ _).trans (hX g HFD.out.gl hng))
    ·refine Below.setCell ?_ (by show w1.heap.size≤I;have:=HIl.out;omega) _
     exact (hB.alloc hB.size _).grown hgrow8 (by have:=hB.size;simp;omega) (fun x e=>by have:=(hoF x e).1;have:=HIl.out;omega)
   case measure=>have:=HLT.out;simp [intOf];omega
  ·obtain rfl:j=ks.length:=by omega
   have c1:=cellB hR.box
   have g1:=(hR.bel.block w.heap.size (ltB HG1.out)).trans HG1.out
   have c2:=cellB g1
   have c2':=ja2 g1
   have HR0:=hide hR
   have HGr:=hide g1
   have hIr:I≠w.heap.size:=by have:=HIl.out;omega
   clear hR g1
   go_wp2
   refine bodyPost_ret (v:=.tuple #[.agg #[.int .u64 turn,.int .u64 time,.slice a0 ks.length d0],.bool true]) (by simp [results,Tryz.results148,go_sem,c2]) rfl ⟨_,rfl,?_,?_⟩
   ·have ho:=HR0.out.own
    rw [List.take_length] at ho
    have hr:∀ x,(Value.slice a0 ks.length d0).ownBlock=some x→I+1≤x:=fun x hx=>(ja5 ho hx).1
    have nr:(Value.slice a0 ks.length d0).ownBlock≠some w.heap.size:=fun e=>by have:=hr _ e;have:=HIl.out;omega
    have h3:=ownsRow_setCell_other (ownsRow_setCell_other (ownsRow_setCell_other ho (a:=⟨w.heap.size,0,none⟩) nr (.int .u64 turn)) (a:=⟨w.heap.size,1,none⟩) nr (.int .u64 time)) (a:=⟨w.heap.size,2,none⟩) nr (.slice a0 ks.length d0)
    refine⟨h3.1,?_⟩
    rcases h3.2 with h | ⟨x,cap',cur,e1,e2,e3⟩
    ·exact Or.inl h
    ·exact Or.inr ⟨x,cap',cur,e1,by have:=HIl.out;omega,e3⟩
   ·have hB:=HR0.out.bel
    have hP:=HP.out
    have hBV:=HBV.out
    have gr:gt≠w.heap.size:=by omega
    have hgt1:gt<w1.heap.size:=by omega
    have hX:(((wr.setCell ⟨w.heap.size,0,none⟩ (.int .u64 turn)).setCell ⟨w.heap.size,1,none⟩ (.int .u64 time)).setCell ⟨w.heap.size,2,none⟩ (.slice a0 ks.length d0)).heap[gt]?=w1.heap[gt]?:=((ja0 gr _ _).trans ((ja0 gr _ _).trans (ja0 gr _ _))).trans (hB.block gt hgt1)
    refine⟨hP.tab.block hX,fun x hx=>⟨(World.cell?_of_block (w:=w1) hX).trans ((hP.cel x hx).1.trans (hBV.cell (p:=⟨gt,x,none⟩) hgt)),(World.frozen?_of_block (w:=w1) hX).trans ((hP.cel x hx).2.trans (hBV.frozen (p:=⟨gt,x,none⟩) hgt))⟩,?_⟩
    refine Keep.set (S:=fun c=>c=gt) (b:=w.heap.size) (Keep.set (S:=fun c=>c=gt) (b:=w.heap.size) (Keep.set (S:=fun c=>c=gt) (b:=w.heap.size) ?_ (Or.inr (Nat.le_refl _)) _ _) (Or.inr (Nat.le_refl _)) _ _) (Or.inr (Nat.le_refl _)) _ _
    exact ((Keep.of_below hBV).then hP.keep (fun _ _ h=>h)).then (T:=fun _=>False) (Keep.of_below hB) (fun _ _ h=>h.elim)
theorem jg4 (db:Nat)(m0 m1 pv:Value)(l f:Int)(w:World)(hd:w.heap[db]?=some (.cells #[m0,m1,pv,.int .i64 l,.int .i64 f,.bool false] 88))(hl:l≠0)(hf:f≠0) :
  Calls Tryz.prog 262 #[.pointer (some ⟨db,0,none⟩)] w fun e w'=>e=.returned .nilIface∧w'.heap[db]?=some (.cells #[m0,m1,pv,.int .i64 (decM l),.int .i64 (decM f),.bool false] 88)∧Keep (fun b=>b=db) w w':=by
 have a1:=cellB hd
 have a2:=ja2 hd
 have n1:(l==0)=false:=by simpa using hl
 have n2:(f==0)=false:=by simpa using hf
 have w1:IntKind.i64.wrap (l - 1)=decM l:=rfl
 have w2:IntKind.i64.wrap (f - 1)=decM f:=rfl
 clear hl hf
 go_enter Tryz.func262,Tryz.ntmps262
 go_wp2
 go_ret
 refine⟨rfl,by simpa using ja4 (ja4 hd 3 (.int .i64 (decM l))) 4 (.int .i64 (decM f)),?_⟩
 exact Keep.set (S:=fun b=>b=db) (b:=db) (Keep.set (S:=fun b=>b=db) (b:=db) (Keep.refl _ w) (Or.inl rfl) _ _) (Or.inl rfl) _ _
theorem jit (db:Nat)(m0 m1:Value)(l f:Int)(w:World)(hd:w.heap[db]?=some (.cells #[m0,m1,.slice none 0 0,.int .i64 l,.int .i64 f,.bool false] 88))(hl:l≠0)(hf:f≠0) :
  Calls Tryz.prog 258 #[.pointer (some ⟨db,0,none⟩)] w fun e w'=>e=.returned .nilIface∧w'.heap[db]?=some (.cells #[m0,m1,.slice none 0 0,.int .i64 (decM l),.int .i64 (decM f),.bool false] 88)∧Keep (fun c=>c=db) w w':=by
 have HW:=hide (jg4 db _ _ _ l f w hd hl hf)
 clear hl hf
 go_enter Tryz.func258,Tryz.ntmps258
 go_wp2_with fail
 refine HW.out.mono ?_
 rintro e w1 ⟨rfl,hd1,hk1⟩
 have a1:=cellB hd1
 have a2:=ja2 hd1
 have HK1:=hide hk1
 clear hk1
 go_wp2_with fail
 refine wp_loop_rounds 1 ?_
 rw [rounds_succ]
 go_wp2
 go_ret
 exact⟨rfl,by simpa using ja4 hd1 2 (.slice none 0 0),Keep.set (S:=fun c=>c=db) (b:=db) HK1.out (Or.inl rfl) _ _⟩
theorem jjL (db nb:Nat)(c0 c2 c3 c4:Value)(fs:Fs)(b:Bool)(p:Nat×ByteArray)(w:World)(hd:w.heap[db]?=some (.cells #[c0,.map (some nb),c2,c3,c4,.bool false] 88))(hD:DirAt w nb fs)(hf:fndG b fs=some p) :
  Calls Tryz.prog 256 #[.pointer (some ⟨db,0,none⟩),.string (nameB b)] w fun e w'=>∃ cap,e=.returned (.tuple #[.slice (some ⟨w.heap.size,0,none⟩) p.2.size cap,.nilIface])∧Sl w' (.slice (some ⟨w.heap.size,0,none⟩) p.2.size cap) (jaa p.2)∧p.2.size≤cap∧w.heap.size<w'.heap.size∧Below w.heap.size w w':=by
 have hbs:=fun (w:World) (s:ByteArray)=>run_bytes_of_string (P:=Tryz.prog) w 9 76 5 s Tryz.underlying9 Tryz.underlying76 Tryz.underlying5
 have hlk:(Instr.lookup 85 (.map (some nb)) (.string (nameB b)) true).run Tryz.prog w=.ok (.tuple #[.pointer (some ⟨p.1,0,none⟩),.bool true]) w:=by
  have:=MapG.look mname (w:=w) hD.map (k:=b) trivial Tryz.underlying85 (zeroP _)
  rw [hf] at this
  exact this
 have hs:=hD.str _ (jao hf)
 have c1:=cellB hs
 have a1:=cellB hd
 obtain⟨s,hse⟩:∃ s,s=p.2:=⟨_,rfl⟩
 obtain⟨x,hx⟩:∃ x,x=p.1:=⟨_,rfl⟩
 rw [←hx] at hlk c1
 rw [←hse] at c1 ⊢
 clear hD hf hs hse hx
 go_enter Tryz.func256,Tryz.ntmps256
 go_wp2
 obtain⟨D,hD⟩:∃ D,D=grownCap w s.size 0 5:=⟨_,rfl⟩
 have hDs:s.size≤D:=by rw [hD];simpa using grownCap_ge w s.size 0 5
 rw [←hD]
 go_ret2
 exact⟨D,rfl,Sl.of_bytes w s D hDs,hDs,by simp,((Below.refl _ w).alloc (Nat.le_refl _) _).drew⟩
theorem jgd (o:Int)(w:World)(_h0:0≤o∧o≤18446744073709551615):Calls Tryz.prog 171 #[.int .u64 (nextT o),.int .u64 o] w fun e w'=>e=.returned (.bool true)∧w'=w:=by
 have u1:IntKind.u64.wrap (nextT o - o)=1:=by unfold nextT;rw [IntKind.wrap_u64];omega
 obtain⟨t,ht⟩:∃ t,t=nextT o:=⟨_,rfl⟩
 rw [←ht] at u1 ⊢
 clear ht _h0
 go_enter Tryz.func171,Tryz.ntmps171
 go_wp2
 go_ret
 exact⟨rfl,rfl⟩
theorem jgx (o:Int)(w:World)(_h0:0≤o∧o≤18446744073709551615):Calls Tryz.prog 171 #[.int .u64 o,.int .u64 (nextT o)] w fun e w'=>e=.returned (.bool false)∧w'=w:=by
 have u1:IntKind.u64.wrap (o - nextT o)=18446744073709551615:=by unfold nextT;rw [IntKind.wrap_u64];omega
 obtain⟨t,ht⟩:∃ t,t=nextT o:=⟨_,rfl⟩
 rw [←ht] at u1 ⊢
 clear ht _h0
 go_enter Tryz.func171,Tryz.ntmps171
 go_wp2
 go_ret
 exact⟨by kernel_rfl,rfl⟩
theorem jfX (g c:Nat)(t m:Int)(va:Option Addr)(vn vc:Nat)(w:World)(hg:g<w.heap.size)(h0:w.cell? ⟨g,0,none⟩=some (.int .u64 t))(h1:w.cell? ⟨g,1,none⟩=some (.int .u64 m))(h2:w.cell? ⟨g,2,none⟩=some (.slice va vn vc)) :
  Calls Tryz.prog 149 #[.slice (some ⟨g,0,none⟩) 1 c] w fun e w'=>e=.returned (.agg #[.int .u64 t,.int .u64 m,.slice va vn vc])∧Below w.heap.size w w':=by
 go_enter Tryz.func149,Tryz.ntmps149
 go_wp2
 refine wp_loop_rounds 2 ?_
 rw [rounds_succ]
 go_wp2
 rw [rounds_succ]
 go_wp2
 refine bodyPost_ret (v:=.agg #[.int .u64 t,.int .u64 m,.slice va vn vc]) (by simp [results,Tryz.results149,go_sem]) rfl ⟨rfl,?_⟩
 exact (((Below.refl _ w).alloc (Nat.le_refl _) _).alloc (by simp) _).alloc (by simp;omega) _
theorem jcO (g c:Nat)(t m t1 m1:Int)(va ua:Option Addr)(vn vc un uc:Nat)(b:Bool)(w:World)(hg:g<w.heap.size)(h0:w.cell? ⟨g,0,none⟩=some (.int .u64 t))(h1:w.cell? ⟨g,1,none⟩=some (.int .u64 m))(h2:w.cell? ⟨g,2,none⟩=some (.slice va vn vc))(h3:w.cell? ⟨g,3,none⟩=some (.int .u64 t1))(h4:w.cell? ⟨g,4,none⟩=some (.int .u64 m1))(h5:w.cell? ⟨g,5,none⟩=some (.slice ua un uc))
  (hb:∀ w,Calls Tryz.prog 171 #[.int .u64 t1,.int .u64 t] w fun e w'=>e=.returned (.bool b)∧w'=w) :
  Calls Tryz.prog 149 #[.slice (some ⟨g,0,none⟩) 2 c] w fun e w'=>e=.returned (if b then .agg #[.int .u64 t1,.int .u64 m1,.slice ua un uc] else .agg #[.int .u64 t,.int .u64 m,.slice va vn vc])∧Below w.heap.size w w':=by
 have HB:=hide hb
 clear hb
 have hg1:g<w.heap.size+1:=by omega
 have hg2:g<w.heap.size+1+1:=by omega
 have hg3:g<w.heap.size+1+1+1:=by omega
 cases b
 ·go_enter Tryz.func149,Tryz.ntmps149
  go_wp2
  refine wp_loop_rounds 3 ?_
  rw [rounds_succ]
  go_wp2
  rw [rounds_succ]
  go_wp2_with (go_at_call 171;refine (HB.out _).mono ?_;rintro e w' ⟨rfl,rfl⟩)
  rw [rounds_succ]
  go_wp2
  refine bodyPost_ret (v:=.agg #[.int .u64 t,.int .u64 m,.slice va vn vc]) (by simp [results,Tryz.results149,go_sem]) rfl ⟨rfl,?_⟩
  first
   | exact ((((Below.refl _ w).alloc (Nat.le_refl _) _).alloc (by simp) _).alloc (by simp;omega) _).alloc (by simp;omega) _
   | (trace_state;sorry)
 ·go_enter Tryz.func149,Tryz.ntmps149
  go_wp2
  refine wp_loop_rounds 3 ?_
  rw [rounds_succ]
  go_wp2
  rw [rounds_succ]
  go_wp2_with (go_at_call 171;refine (HB.out _).mono ?_;rintro e w' ⟨rfl,rfl⟩)
  rw [rounds_succ]
  go_wp2
  refine bodyPost_ret (v:=.agg #[.int .u64 t1,.int .u64 m1,.slice ua un uc]) (by simp [results,Tryz.results149,go_sem]) rfl ⟨rfl,?_⟩
  first
   | exact ((((Below.refl _ w).alloc (Nat.le_refl _) _).alloc (by simp) _).alloc (by simp;omega) _).alloc (by simp;omega) _
   | (trace_state;sorry)
def Files (fs:Fs)(im:Bool→Option Ig):Prop:=∀ b,(fndG b fs).map Prod.snd=(im b).map (fun i=>strOfNums i.bytes)∧∀ i,im b=some i→i.ok∧(i.turn % 2==1)=b
def jbJ (im:Bool→Option Ig):Nat→List Ig
 | 0=>[]
 | 1=>(im false).toList
 | _=>(im false).toList ++ (im true).toList
theorem jcm (im:Bool→Option Ig)(j:Nat)(hj:j<2)(b:Bool)(hb:b=((j:Int) % 2==1)):jbJ im (j+1)=jbJ im j ++ (im b).toList:=by
 match j,hj with
 | 0,_=>subst hb;rfl
 | 1,_=>subst hb;rfl
theorem jg6 (im:Bool→Option Ig)(j:Nat):(jbJ im j).length≤2:=by
 match j with
 | 0=>simp [jbJ]
 | 1=>cases h:im false <;> simp [jbJ,h]
 | n+2=>cases h:im false <;> cases h':im true <;> simp [jbJ,h,h']
def irow (l:List (Ig×Value)):List Value:=l.flatMap fun p=>[.int .u64 p.1.turn,.int .u64 p.1.time,p.2]
theorem jhL (l:List (Ig×Value))(p:Ig×Value):irow (l ++ [p])=irow l ++ [.int .u64 p.1.turn,.int .u64 p.1.time,p.2]:=by
 unfold irow
 rw [List.flatMap_append]
 simp
theorem Tryz.infoImg:(Tryz.prog.info? 169).map (fun i=>(i.zero,i.size,i.bytes))=some (some (.agg #[.int .u64 0,.int .u64 0,.slice none 0 0]),3,40):=by kernel_rfl
theorem jez (w:World)(a b c:Value)(t:TypeId):∀ j u,([a,b,c]:List Value)[j]?=some u→(w.alloc (.cells #[a,b,c] t)).cell? ((⟨w.heap.size,0,none⟩:Addr).add j)=some u:=by
 intro j u hj
 rw [Addr.add_lit,Nat.zero_add,World.cell?_alloc_at _ _ _ _ rfl]
 match j,hj with
 | 0,hj=>exact hj
 | 1,hj=>exact hj
 | 2,hj=>exact hj
 | j+3,hj=>simp at hj
theorem NmAt.kept {w w':World}{v:Value}{bs:List Bool}(h:NmAt w v bs)(hk:∀ g,v.ownBlock=some g→w'.heap[g]?=w.heap[g]?):NmAt w' v bs:=by
 obtain⟨a,c,rfl,h⟩:=h
 refine⟨a,c,rfl,h.imp id ?_⟩
 rintro ⟨g,rfl,hc⟩
 exact⟨g,rfl,fun j hj=>(World.cell?_of_block (w:=w) (hk g rfl)).trans (hc j hj)⟩
structure LsI (w w1 wr:World)(g:Nat)(im:Bool→Option Ig)(j:Nat)(vW:Value)(l:List (Ig×Value)):Prop where
 lst:l.map Prod.fst=jbJ im j
 own:wr.ownsRow w1.heap.size 169 3 vW l.length (irow l)
 rcs:∀ p∈l,∃ a c,p.2=.slice a p.1.ks.length c∧wr.ownsRow w.heap.size 175 13 p.2 p.1.ks.length (rrow p.1.es p.1.ks)
 tab:TabPost w1 wr g 1
theorem jey (bs:List Bool)(b:Bool):(bs.any fun y=>b==y)=true↔b∈bs:=by
 rw [List.any_eq_true]
 constructor
 ·rintro ⟨y,hy,h⟩
  have:b=y:=by simpa using h
  exact this▸hy
 ·intro h
  exact⟨b,h,by simp⟩
theorem jbX (v:Value)(bs:List Bool)(w:World)(h:NmAt w v bs)(hl:bs.length≤2)(hne:bs≠[]):Calls Tryz.prog 145 #[v] w fun e w'=>e=.returned (.bool true)∧w'=w:=by
 have HN0:=hide (jaH 0 w (by omega) (by omega))
 have HN1:=hide (jaH 1 w (by omega) (by omega))
 have C0:=jbb v bs false w h hl
 have C1:=jbb v bs true w h hl
 obtain⟨r0,h0⟩:∃ r,r=bs.any (fun y=>false==y):=⟨_,rfl⟩
 obtain⟨r1,h1⟩:∃ r,r=bs.any (fun y=>true==y):=⟨_,rfl⟩
 have h01:r0=false→r1=true:=fun e=>by
  rw [h1,jey]
  rw [e] at h0
  cases bs with
  | nil=>exact absurd rfl hne
  | cons x r=>
   cases x
   ·exact absurd ((jey (false :: r) false).2 (by simp)) (by rw [←h0];simp)
   ·simp
 rw [←h0] at C0
 rw [←h1] at C1
 have HC0:=hide C0
 have HC1:=hide C1
 obtain⟨a,c,rfl,_⟩:=h
 clear C0 C1 h0 h1 hl hne
 cases r0
 ·obtain rfl:=h01 rfl
  clear h01
  go_enter Tryz.func145,Tryz.ntmps145
  go_wp2
  refine wp_loop_rounds 3 ?_
  rw [rounds_succ]
  go_wp2_with fail
  refine HN0.out.mono ?_
  rintro e w' ⟨rfl,rfl⟩
  go_wp2_with fail
  refine HC0.out.mono ?_
  rintro e w' ⟨rfl,rfl⟩
  go_wp2_with fail
  rw [rounds_succ]
  go_wp2_with fail
  refine HN1.out.mono ?_
  rintro e w' ⟨rfl,rfl⟩
  go_wp2_with fail
  refine HC1.out.mono ?_
  rintro e w' ⟨rfl,rfl⟩
  go_wp2
  go_ret
  exact⟨rfl,rfl⟩
 ·clear h01
  go_enter Tryz.func145,Tryz.ntmps145
  go_wp2
  refine wp_loop_rounds 3 ?_
  rw [rounds_succ]
  go_wp2_with fail
  refine HN0.out.mono ?_
  rintro e w' ⟨rfl,rfl⟩
  go_wp2_with fail
  refine HC0.out.mono ?_
  rintro e w' ⟨rfl,rfl⟩
  go_wp2
  go_ret
  exact⟨rfl,rfl⟩
theorem jg2 (h:Value)(w:World):(Go.method 510 78 h "Read").run Tryz.prog w=.ok (256,h) w:=by kernel_rfl
theorem jlj (vs:Array Value)(w:World):Sem.run Tryz.prog (callFunc 256 vs) w=.ok (.enter 256 vs) w:=by simp [go_sem]
def Best (im:Bool→Option Ig)(i:Ig):Prop:=(im (i.turn % 2==1)=some i)∧∀ a,im (!(i.turn % 2==1))=some a→i.turn=nextT a.turn
theorem NmAt.ne {w:World}{v:Value}{bs:List Bool}(h:NmAt w v bs)(hb:bs≠[]){x:Nat}{u:Value}(hx:w.cell? ⟨x,0,none⟩=some u)(hu:∀ s,u≠.string s):v.ownBlock≠some x:=by
 obtain⟨a,c,rfl,h⟩:=h
 rcases h with h | ⟨g,rfl,hc⟩
 ·exact absurd h hb
 ·intro e
  simp [Value.ownBlock] at e
  subst e
  have:=hc 0 (List.length_pos_iff.2 hb)
  rw [hx] at this
  injection this with this
  exact hu _ this
theorem NmAt.lt {w:World}{v:Value}{bs:List Bool}(h:NmAt w v bs)(hb:bs≠[]){x:Nat}(hx:v.ownBlock=some x):x<w.heap.size:=by
 obtain⟨a,c,rfl,h⟩:=h
 rcases h with h | ⟨g,rfl,hc⟩
 ·exact absurd h hb
 ·simp [Value.ownBlock] at hx
  subst hx
  exact jaN (hc 0 (List.length_pos_iff.2 hb))
theorem TabPost.then {a b c:World}{g o:Nat}(h:TabPost a b g o)(h':TabPost b c g o):TabPost a c g o:=
 ⟨h'.tab,fun j hj=>⟨(h'.cel j hj).1.trans (h.cel j hj).1,(h'.cel j hj).2.trans (h.cel j hj).2⟩,h.keep.then h'.keep (fun _ _ h=>h)⟩
theorem TabPost.of {w w':World}{g o:Nat}(h:TabOk w g o)(hg:g<w.heap.size)(hk:Keep (fun _=>False) w w'):TabPost w w' g o:=
 ⟨h.block (hk.block g hg (fun h=>h)),fun _ _=>⟨World.cell?_of_block (w:=w) (hk.block g hg (fun h=>h)),World.frozen?_of_block (w:=w) (hk.block g hg (fun h=>h))⟩,hk.mono (fun _ h _=>h.elim)⟩
theorem jjh {w:World}{b1 b2 t1 t2 s1 s2:Nat}{v1 v2:Value}{n1 n2:Nat}{x1 x2:List Value}(h1:w.ownsRow b1 t1 s1 v1 n1 x1)(h2:w.ownsRow b2 t2 s2 v2 n2 x2)(ht:t1≠t2){x:Nat}(e1:v1.ownBlock=some x)(e2:v2.ownBlock=some x):False:=by
 rcases h1.2 with ⟨rfl,_⟩ | ⟨g',cap',cur,rfl,_,hh,_⟩
 ·simp [Value.ownBlock] at e1
 ·simp [Value.ownBlock] at e1
  subst e1
  rcases h2.2 with ⟨rfl,_⟩ | ⟨g2,cap2,cur2,rfl,_,hh2,_⟩
  ·simp [Value.ownBlock] at e2
  ·simp [Value.ownBlock] at e2
   subst e2
   rw [hh] at hh2
   injection hh2 with hh2
   injection hh2 with _ hh2 _
   exact ht hh2
theorem jgL (base:Nat)(im:Bool→Option Ig)(L:List (Ig×Value))(vW:Value)(w:World)(hown:w.ownsRow base 169 3 vW L.length (irow L))(hL:L.map Prod.fst=jbJ im 2)(hv:∀ p∈L,∃ a n c,p.2=.slice a n c)(hok:∀ b i,im b=some i→i.ok∧(i.turn % 2==1)=b)(hsome:∃ b,im b≠none)(hrel:∀ a b,im false=some a→im true=some b→b.turn=nextT a.turn∨a.turn=nextT b.turn) :
  Calls Tryz.prog 149 #[vW] w fun e w'=>∃ p∈L,Best im p.1∧e=.returned (.agg #[.int .u64 p.1.turn,.int .u64 p.1.time,p.2])∧Below w.heap.size w w':=by
 have one:∀ (i:Ig) (v:Value),L=[(i,v)]→Best im i→Calls Tryz.prog 149 #[vW] w fun e w'=>∃ p∈L,Best im p.1∧e=.returned (.agg #[.int .u64 p.1.turn,.int .u64 p.1.time,p.2])∧Below w.heap.size w w':=fun i v e hB=>by
  subst e
  obtain⟨va,vn,vc,rfl⟩:∃ a n c,v=.slice a n c:=hv (i,v) (by simp)
  obtain⟨gb,gc,rfl,_,hlt⟩:=hown.form (by simp)
  have hc:∀ j,j<3→w.cell? ⟨gb,j,none⟩=([.int .u64 i.turn,.int .u64 i.time,.slice va vn vc]:List Value)[j]?:=fun j hj=>hown.cellAt j (by simpa using hj)
  refine (jfX gb gc i.turn i.time va vn vc w hlt (hc 0 (by omega)) (hc 1 (by omega)) (hc 2 (by omega))).mono ?_
  rintro e w' ⟨rfl,hb⟩
  exact⟨(i,.slice va vn vc),by simp,hB,rfl,hb⟩
 have hl2:jbJ im 2=(im false).toList ++ (im true).toList:=rfl
 rw [hl2] at hL
 cases h0:im false with
 | none=>
  cases h1:im true with
  | none=>
   obtain⟨b,hb⟩:=hsome
   cases b
   ·exact absurd h0 hb
   ·exact absurd h1 hb
  | some b=>
   rw [h0,h1] at hL
   have hp:=(hok true b h1).2
   match L,hL with
   | [(i,v)],hL=>
    have e:i=b:=by simpa using hL
    subst e
    exact one i v rfl ⟨by rw [hp];exact h1,fun a ha=>by rw [hp] at ha;rw [show (!true)=false from rfl,h0] at ha;cases ha⟩
 | some a=>
  have hpa:=(hok false a h0).2
  cases h1:im true with
  | none=>
   rw [h0,h1] at hL
   match L,hL with
   | [(i,v)],hL=>
    have e:i=a:=by simpa using hL
    subst e
    exact one i v rfl ⟨by rw [hpa];exact h0,fun x hx=>by rw [hpa] at hx;rw [show (!false)=true from rfl,h1] at hx;cases hx⟩
  | some b=>
   have hpb:=(hok true b h1).2
   rw [h0,h1] at hL
   match L,hL,hown,hv with
   | [(i,v),(i',v')],hL,hown,hv=>
    obtain⟨e1,e2⟩:i=a∧i'=b:=by simpa using hL
    subst e1 e2
    obtain⟨va,vn,vc,rfl⟩:∃ a n c,v=.slice a n c:=hv (i,v) (by simp)
    obtain⟨ua,un,uc,rfl⟩:∃ a n c,v'=.slice a n c:=hv (i',v') (by simp)
    obtain⟨gb,gc,rfl,_,hlt⟩:=hown.form (by simp)
    have hc:∀ j,j<6→w.cell? ⟨gb,j,none⟩=([.int .u64 i.turn,.int .u64 i.time,.slice va vn vc,.int .u64 i'.turn,.int .u64 i'.time,.slice ua un uc]:List Value)[j]?:=fun j hj=>hown.cellAt j (by simpa using hj)
    rcases hrel i i' h0 h1 with h | h
    ·refine (jcO gb gc i.turn i.time i'.turn i'.time va ua vn vc un uc true w hlt (hc 0 (by omega)) (hc 1 (by omega)) (hc 2 (by omega)) (hc 3 (by omega)) (hc 4 (by omega)) (hc 5 (by omega)) (fun w=>by rw [h];exact jgd i.turn w (hok false i h0).1.turn)).mono ?_
     rintro e w' ⟨rfl,hb⟩
     refine⟨(i',.slice ua un uc),by simp,⟨by rw [hpb];exact h1,fun x hx=>?_⟩,rfl,hb⟩
     rw [hpb,show (!true)=false from rfl,h0] at hx
     cases hx
     exact h
    ·refine (jcO gb gc i.turn i.time i'.turn i'.time va ua vn vc un uc false w hlt (hc 0 (by omega)) (hc 1 (by omega)) (hc 2 (by omega)) (hc 3 (by omega)) (hc 4 (by omega)) (hc 5 (by omega)) (fun w=>by rw [h];exact jgx i'.turn w (hok true i' h1).1.turn)).mono ?_
     rintro e w' ⟨rfl,hb⟩
     refine⟨(i,.slice va vn vc),by simp,⟨by rw [hpa];exact h0,fun x hx=>?_⟩,rfl,hb⟩
     rw [hpa,show (!false)=true from rfl,h1] at hx
     cases hx
     exact h
def WFail (l f er l' f':Int)(dn:Bool):Prop:=(l=0∧er=5∧l'=0∧f'=f∧dn=true)∨(l≠0∧f=0∧er=4∧l'=decM l∧f'=-1∧dn=false)
theorem jk3 (db:Nat)(m0 m1 pv:Value)(l f er l' f':Int)(dn:Bool)(w:World)(hd:w.heap[db]?=some (.cells #[m0,m1,pv,.int .i64 l,.int .i64 f,.bool false] 88))(h:WFail l f er l' f' dn) :
  Calls Tryz.prog 262 #[.pointer (some ⟨db,0,none⟩)] w fun e w'=>e=.returned (.iface 53 (.int .i64 er))∧w'.heap[db]?=some (.cells #[m0,m1,pv,.int .i64 l',.int .i64 f',.bool dn] 88)∧Keep (fun b=>b=db) w w':=by
 have a1:=cellB hd
 have a2:=ja2 hd
 rcases h with ⟨rfl,rfl,rfl,rfl,rfl⟩ | ⟨hl,rfl,rfl,rfl,rfl,rfl⟩
 ·go_enter Tryz.func262,Tryz.ntmps262
  go_wp2
  go_ret
  exact⟨rfl,by simpa using ja4 hd 5 (.bool true),Keep.set (S:=fun b=>b=db) (b:=db) (Keep.refl _ w) (Or.inl rfl) _ _⟩
 ·have n1:(l==0)=false:=by simpa using hl
  have w1:IntKind.i64.wrap (l - 1)=decM l:=rfl
  clear hl
  go_enter Tryz.func262,Tryz.ntmps262
  go_wp2
  go_ret
  refine⟨rfl,by simpa using ja4 (ja4 hd 3 (.int .i64 (decM l))) 4 (.int .i64 (-1)),?_⟩
  exact Keep.set (S:=fun b=>b=db) (b:=db) (Keep.set (S:=fun b=>b=db) (b:=db) (Keep.refl _ w) (Or.inl rfl) _ _) (Or.inl rfl) _ _
theorem syncE (db:Nat)(m0 m1 pv:Value)(l f er l' f':Int)(dn:Bool)(w:World)(hd:w.heap[db]?=some (.cells #[m0,m1,pv,.int .i64 l,.int .i64 f,.bool false] 88))(h:WFail l f er l' f' dn) :
  Calls Tryz.prog 258 #[.pointer (some ⟨db,0,none⟩)] w fun e w'=>e=.returned (.iface 53 (.int .i64 er))∧w'.heap[db]?=some (.cells #[m0,m1,pv,.int .i64 l',.int .i64 f',.bool dn] 88)∧Keep (fun b=>b=db) w w':=by
 have HW:=hide (jk3 db _ _ _ l f er l' f' dn w hd h)
 clear h
 go_enter Tryz.func258,Tryz.ntmps258
 go_wp2_with fail
 refine HW.out.mono ?_
 rintro e w1 ⟨rfl,hd1,hk1⟩
 have HQ:=hide (And.intro hd1 hk1)
 clear hd1 hk1
 go_wp2
 go_ret
 exact⟨rfl,HQ.out⟩
theorem jgZ (f:FuncId)(cap:Array Value)(hcf:∀ vs w,Sem.run Tryz.prog (callFunc f vs) w=.ok (.enter f vs) w)(w:World)(er:Int)(R:World→Prop)
  (hC:Calls Tryz.prog f cap (w.alloc (.cells #[.nilIface] 97)) fun e w'=>e=.returned (.iface 53 (.int .i64 er))∧w'.heap[w.heap.size]?=some (.cells #[.nilIface] 97)∧R w') :
  Calls Tryz.prog 116 #[.func (.func f) #[] cap] w fun e w'=>e=.returned (.iface 53 (.int .i64 er))∧∃ w2,R w2∧w2.heap[w.heap.size]?=some (.cells #[.nilIface] 97)∧w'=w2.setCell ⟨w.heap.size,0,none⟩ (.iface 53 (.int .i64 er)):=by
 have hmf:∀ (fn:Fn) (first cap:Array Value) (w:World),(Instr.makeFunc fn first cap).run Tryz.prog w=.ok (.func fn first cap) w:=fun _ _ _ _=>rfl
 have HC:=hide hC
 clear hC
 have hcf':=hcf cap
 have e0:(#[]:Array Value) ++ cap=cap:=by simp
 go_enter_defers Tryz.func116,Tryz.ntmps116
 go_wp2_with fail
 refine HC.out.mono ?_
 rintro e w2 ⟨rfl,hb,hR⟩
 have a1:=cellB hb
 have a2:=ja2 hb
 have HR:=hide hR
 have HB:=hide hb
 clear hR hb
 go_wp2
 refine leaves_cons (f:=144) (args:=#[.pointer (some ⟨w.heap.size,0,none⟩)]) (by simp) (by simp [go_sem]) ?_
 refine (jcI ⟨w.heap.size,0,none⟩ _).mono ?_
 rintro e u' w'' ⟨rfl,rfl,rfl⟩
 simp [Leaves,settle,results,Tryz.results116,go_sem,a1]
 exact⟨w2,HR.out,HB.out,rfl⟩
theorem jcs {w w':World}{b n:Nat}{D:DataW Value}{kt:TypeId}(h:w.ownsMap Tryz.prog kt heldE b n D)(hb:w'.heap[b]?=w.heap[b]?):w'.ownsMap Tryz.prog kt heldE b n D:=by
 obtain⟨es,clock,h1,h2⟩:=h
 exact⟨es,clock,hb.trans h1,h2⟩
theorem up33 (db mb:Nat)(nv pv dv c3 c4:Value)(fs:Fs)(w:World)(hd:w.heap[db]?=some (.cells #[.map (some mb),nv,pv,c3,c4,dv] 88))(hD:DirAt w mb fs) :
  Calls Tryz.prog 33 #[.pointer (some ⟨db,0,none⟩)] w fun e w'=>e=.returned (.tuple #[])∧w'.heap[db]?=some (.cells #[.map (some mb),.map (some w.heap.size),.slice none 0 0,c3,c4,.bool false] 88)∧DirAt w' w.heap.size fs∧Keep (fun c=>c=db) w w':=by
 have hmm:=@run_makeMap Tryz.prog
 obtain⟨n,D0,ho,hDat⟩:=hD.map
 have hsz:Maps.size D0≤2:=by rw [hDat.size];exact hD.len
 have ld:=ltB hd
 have lm:=ho.lt
 have hmd:mb≠db:=hD.map.ne hd
 obtain⟨V,hV⟩:∃ V,V=(w.alloc (.map #[] 0)).setCell ⟨db,1,none⟩ (.map (some w.heap.size)):=⟨_,rfl⟩
 have hdV:V.heap[db]?=some (.cells #[.map (some mb),.map (some w.heap.size),pv,c3,c4,dv] 88):=by rw [hV];simpa using ja4 (upB hd (.map #[] 0)) 1 (.map (some w.heap.size))
 have hoV:V.ownsMap Tryz.prog 9 heldE mb n D0:=jcs ho (by rw [hV,ja0 hmd];exact ja3 _ _ lm)
 have hnV:V.ownsMap Tryz.prog 9 heldE w.heap.size 0 (.map []):=jcs (World.ownsMap_made w _ _ _) (by rw [hV,ja0 (by omega)])
 have hKV:Keep (fun c=>c=db) w V:=hV▸Keep.set (S:=fun c=>c=db) (b:=db) ((Keep.refl _ w).alloc _) (Or.inl rfl) _ _
 have hsV:V.heap.size=w.heap.size+1:=by rw [hV];simp
 have b1:=upC hd (.map #[] 0)
 have b2:=upF hd (.map #[] 0)
 have a1:=cellB hdV
 have HDT:=hide hDat
 have HDD:=hide hD
 have HSZ:=hide hsz
 have HSV:=hide hsV
 have HLD:=hide (And.intro ld lm)
 clear ho hDat hD hsz hsV ld lm
 go_enter Tryz.func33,Tryz.ntmps33
 go_upto_region 1 with fail
 rw [←hV]
 clear hV b1 b2
 go_wp2_with (first
   | (at_range;refine wpList_range_own _ rfl _ 85 rfl 9 95 mname.keyed undN _ mb n _ rfl hoV ?_;intro w0 hrg0 hg0 hs0)
   | go_in)
 go_frame
 have hk0:Keep (fun c=>c=db) w w0:=⟨hg0.os.trans hKV.os,hg0.tape.trans hKV.tape,hg0.output.trans hKV.output,Nat.le_trans hKV.size hg0.size,fun k hk hn=>(hg0.block k (Nat.lt_of_lt_of_le hk hKV.size) (by simp)).trans (hKV.block k hk hn)⟩
 have hn0:=hnV.kept hg0 (by simp)
 have hd0:=(hg0.block db (ltB hdV) (by simp)).trans hdV
 have HK0:=hide hk0
 have HN0:=hide hn0
 have HR0:=hide hrg0
 have HD0:=hide hd0
 have HOV:=hide hoV
 clear hk0 hn0 hrg0 hg0 hs0 hd0 a1 hKV hnV hoV
 go_loopw [] (fun wr=>∃ (left:Lit→Bool) (cnt:Nat) (Dout:DataW Value),wr.ranges Tryz.prog 9 heldE mb V.heap.size n D0 left cnt∧cnt≤Maps.size D0∧wr.ownsMap Tryz.prog 9 heldE w.heap.size (Maps.size D0 - cnt) Dout∧Agree Dout D0 left∧wr.heap[db]?=some (.cells #[.map (some mb),.map (some w.heap.size),pv,c3,c4,dv] 88)∧Keep (fun c=>c=db) w wr)
  (fun wr=>wr.rangeLeft mb V.heap.size)
 case atStart=>exact⟨_,_,.map [],HR0.out,Nat.le_refl _,HN0.out.mono (Nat.zero_le _),agree_start D0,HD0.out,HK0.out⟩
 case round=>
  obtain⟨left,cnt,Dout,hrg,hcs,hout,hA,hdb,hnx⟩:=hrel
  have HOUT:=hide hout
  have HA:=hide hA
  have HDB:=hide hdb
  have HNX:=hide hnx
  clear hout hA hdb hnx
  go_wp2_with (first
    | (at_next;refine jba (P:=Tryz.prog) (kt:=9) _ mname rfl _ rfl mb V.heap.size n D0 fs HDT.out left cnt rfl hrg ?_ ?_)
    | go_in)
  ·intro hc0 hl0
   have a3:=cellB HDB.out
   have a4:=ja2 HDB.out
   have HC0:=hide (And.intro hc0 hl0)
   clear hc0 hl0 hrg
   go_wp2
   go_end0
   obtain⟨hc0,hl0⟩:=HC0.out
   subst hc0
   have e:=agree_end HA.out hl0 (HOUT.out.canon mname.keyed) (HOV.out.canon mname.keyed)
   have hn:wr.ownsMap Tryz.prog 9 heldE w.heap.size (Maps.size D0) D0:=by have:=HOUT.out;rw [e] at this;simpa using this
   have hnd:w.heap.size≠db:=by have:=HLD.out;omega
   have hX:Keep (fun c=>c=db) w ((wr.setCell ⟨db,2,none⟩ (.slice none 0 0)).setCell ⟨db,5,none⟩ (.bool false)):=Keep.set (S:=fun c=>c=db) (b:=db) (Keep.set (S:=fun c=>c=db) (b:=db) HNX.out (Or.inl rfl) _ _) (Or.inl rfl) _ _
   refine⟨rfl,by simpa using ja4 (ja4 HDB.out 2 (.slice none 0 0)) 5 (.bool false),⟨⟨_,_,jcs hn ((ja0 hnd _ _).trans (ja0 hnd _ _)),HDT.out⟩,HDD.out.nd,fun p hp=>?_⟩,hX⟩
   have hps:=HDD.out.str p hp
   exact (hX.block _ (ltB hps) (fun e=>by rw [e,hd] at hps;simp at hps)).trans hps
  ·refine⟨?_,?_⟩
   ·intro p1 p2 w1 cnt1 hp hlk hat hrg1 hlt hg1 hs1 hen
    simp only [nkv,evF] at hen ⊢
    have hrl:V.heap.size<wr.heap.size:=hrg.lt
    obtain⟨ld,lm⟩:=HLD.out
    have hwr:=HNX.out.size
    have sV:=HSV.out
    have hout1:=HOUT.out.kept hg1 (by intro e;injection e with e;omega)
    have hd1:=(hg1.block db (by have:=ltB HDB.out;omega) (by intro e;injection e with e;omega)).trans HDB.out
    have hk1:Keep (fun c=>c=db) w w1:=⟨hg1.os.trans HNX.out.os,hg1.tape.trans HNX.out.tape,hg1.output.trans HNX.out.output,Nat.le_trans hwr hg1.size,fun i hi hn=>(hg1.block i (by omega) (by intro e;injection e with e;omega)).trans (HNX.out.block i hi hn)⟩
    have hle:Maps.size D0 - cnt<maxLen:=by have:=HSZ.out;unfold maxLen;omega
    have hkl:=mname.key false trivial
    unfold nkv at hkl
    have a2:=cellB hd1
    have HRG:=hide hrg1
    have HKV:=hide hk1
    have HLT:=hide hlt
    have HRG0:=hide hrg
    have HAT:=hide hat
    have HD1:=hide hd1
    clear hk1 hrg1 hg1 hs1 hlt hwr hrl hlk hp hat hrg sV ld lm
    go_wp2_with (first
      | (at_mapUpdate;refine wpList_mapUpdate_own _ rfl _ _ _ 85 rfl 9 95 mname.keyed undN _ w.heap.size _ _ rfl hout1 hle _ _ _ rfl rfl hkl (.held (evF (p1,p2))) [] rfl ?_;intro w2 hout2 hg2;go_frame)
      | go_in)
    have sV:=HSV.out
    obtain⟨ld,lm⟩:=HLD.out
    have hrg2:=HRG.out.kept hg2 (fun e=>by have:=Option.some.inj e;omega) (fun e=>by have:=Option.some.inj e;omega)
    go_roundw
    case rel=>
     refine⟨_,cnt1,_,hrg2,by have:=HLT.out;omega,hout2.mono (by have:=HLT.out;omega),agree_step HA.out HOUT.out.isMap (mname.keyed.key (mname.key false trivial)) HAT.out,?_,?_⟩
     ·exact (hg2.block db (ltB HD1.out) (fun e=>by have:=Option.some.inj e;omega)).trans HD1.out
     ·exact HKV.out.then (T:=fun c=>c=w.heap.size) ⟨hg2.os,hg2.tape,hg2.output,hg2.size,fun i hi hn=>hg2.block i hi (fun e=>hn (Option.some.inj e))⟩ (fun i hi h=>by omega)
    case measure=>rw [hrg2.left_eq,HRG0.out.left_eq];exact HLT.out
   ·intro p1 p2 w1 cnt1 hp hlk hat hrg1 hlt hg1 hs1 hen
    simp only [nkv,evF] at hen ⊢
    have hrl:V.heap.size<wr.heap.size:=hrg.lt
    obtain⟨ld,lm⟩:=HLD.out
    have hwr:=HNX.out.size
    have sV:=HSV.out
    have hout1:=HOUT.out.kept hg1 (by intro e;injection e with e;omega)
    have hd1:=(hg1.block db (by have:=ltB HDB.out;omega) (by intro e;injection e with e;omega)).trans HDB.out
    have hk1:Keep (fun c=>c=db) w w1:=⟨hg1.os.trans HNX.out.os,hg1.tape.trans HNX.out.tape,hg1.output.trans HNX.out.output,Nat.le_trans hwr hg1.size,fun i hi hn=>(hg1.block i (by omega) (by intro e;injection e with e;omega)).trans (HNX.out.block i hi hn)⟩
    have hle:Maps.size D0 - cnt<maxLen:=by have:=HSZ.out;unfold maxLen;omega
    have hkl:=mname.key true trivial
    unfold nkv at hkl
    have a2:=cellB hd1
    have HRG:=hide hrg1
    have HKV:=hide hk1
    have HLT:=hide hlt
    have HRG0:=hide hrg
    have HAT:=hide hat
    have HD1:=hide hd1
    clear hk1 hrg1 hg1 hs1 hlt hwr hrl hlk hp hat hrg sV ld lm
    go_wp2_with (first
      | (at_mapUpdate;refine wpList_mapUpdate_own _ rfl _ _ _ 85 rfl 9 95 mname.keyed undN _ w.heap.size _ _ rfl hout1 hle _ _ _ rfl rfl hkl (.held (evF (p1,p2))) [] rfl ?_;intro w2 hout2 hg2;go_frame)
      | go_in)
    have sV:=HSV.out
    obtain⟨ld,lm⟩:=HLD.out
    have hrg2:=HRG.out.kept hg2 (fun e=>by have:=Option.some.inj e;omega) (fun e=>by have:=Option.some.inj e;omega)
    go_roundw
    case rel=>
     refine⟨_,cnt1,_,hrg2,by have:=HLT.out;omega,hout2.mono (by have:=HLT.out;omega),agree_step HA.out HOUT.out.isMap (mname.keyed.key (mname.key true trivial)) HAT.out,?_,?_⟩
     ·exact (hg2.block db (ltB HD1.out) (fun e=>by have:=Option.some.inj e;omega)).trans HD1.out
     ·exact HKV.out.then (T:=fun c=>c=w.heap.size) ⟨hg2.os,hg2.tape,hg2.output,hg2.size,fun i hi hn=>hg2.block i hi (fun e=>hn (Option.some.inj e))⟩ (fun i hi h=>by omega)
    case measure=>rw [hrg2.left_eq,HRG0.out.left_eq];exact HLT.out
theorem je5 (db mb:Nat)(nv dv c3 c4:Value)(fs:Fs)(kept part:Int)(w:World)(p0:-9223372036854775808≤part)(p1:part≤9223372036854775807)(hd:w.heap[db]?=some (.cells #[.map (some mb),nv,.slice none 0 0,c3,c4,dv] 88))(hD:DirAt w mb fs) :
  Calls Tryz.prog 39 #[.pointer (some ⟨db,0,none⟩),.int .i64 kept,.int .i64 part] w fun e w'=>e=.returned (.tuple #[])∧∃ nb,w'.heap[db]?=some (.cells #[.map (some mb),.map (some nb),.slice none 0 0,.int .i64 (-1),.int .i64 (-1),.bool false] 88)∧w.heap.size≤nb∧DirAt w' nb fs∧Keep (fun c=>c=db) w w':=by
 have hmm:=@run_makeMap Tryz.prog
 have hmd:mb≠db:=hD.map.ne hd
 have HP:=hide (jjl part 1 w (by omega) (by omega) p0 p1)
 obtain⟨V,hV⟩:∃ V,V=((w.alloc (.map #[] 0)).setCell ⟨db,3,none⟩ (.int .i64 (-1))).setCell ⟨db,4,none⟩ (.int .i64 (-1)):=⟨_,rfl⟩
 have hdV:V.heap[db]?=some (.cells #[.map (some mb),nv,.slice none 0 0,.int .i64 (-1),.int .i64 (-1),dv] 88):=by rw [hV];simpa using ja4 (ja4 (upB hd (.map #[] 0)) 3 (.int .i64 (-1))) 4 (.int .i64 (-1))
 have hKV:Keep (fun c=>c=db) w V:=hV▸Keep.set (S:=fun c=>c=db) (b:=db) (Keep.set (S:=fun c=>c=db) (b:=db) ((Keep.refl _ w).alloc _) (Or.inl rfl) _ _) (Or.inl rfl) _ _
 have hDV:DirAt V mb fs:=hD.keep hKV hmd (fun p hp e=>by have:=hD.str p hp;rw [e,hd] at this;simp at this)
 have HU:=hide (up33 db mb nv (.slice none 0 0) dv (.int .i64 (-1)) (.int .i64 (-1)) fs V hdV hDV)
 have a1:=cellB hd
 have b1:=upC hd (.map #[] 0)
 have b2:=upF hd (.map #[] 0)
 have HK:=hide hKV
 clear hD hDV hKV hdV
 go_enter Tryz.func39,Tryz.ntmps39
 go_wp2_with fail
 refine HP.out.mono ?_
 rintro e w' ⟨rfl,rfl⟩
 go_wp2
 refine wp_loop_rounds 1 ?_
 rw [rounds_succ]
 go_upto_region 15 with fail
 rw [←hV]
 clear hV a1 b1 b2
 go_wp2_with fail
 refine HU.out.mono ?_
 rintro e w2 ⟨rfl,q1,q2,q3⟩
 have HQ:=hide (And.intro q1 (And.intro q2 q3))
 clear q1 q2 q3
 go_wp2
 go_end0
 obtain⟨q1,q2,q3⟩:=HQ.out
 exact⟨rfl,V.heap.size,q1,HK.out.size,q2,HK.out.then q3 (fun i _ h=>h)⟩
end Go.Proofs.YtnlgndpcddngoaaGreatDoor
namespace Go.Proofs.YtnlgndpcddngoaaGreatDoor
open Go.RowKit
def Reads (q:Rq):Prop:=∀ t,rdErr (q.enc ++ t)=0∧rdN (q.enc ++ t)=q.enc.length∧rdQ (q.enc ++ t)=q
theorem jj2 (L:Ld)(q:Rq)(h:Reads q)(t:List Int):runL L (q.enc ++ t)=((runL (doM L q).1 t).1,(doM L q).2 :: (runL (doM L q).1 t).2.1,(runL (doM L q).1 t).2.2):=by
 obtain⟨e1,e2,e3⟩:=h t
 rw [jbH L _ e1,e2,e3,Int.toNat_natCast,List.drop_left]
theorem ji2 (L:Ld):runL L []=(L,[],[],1):=jbE L [] (by simp [rdErr])
end Go.Proofs.YtnlgndpcddngoaaGreatDoor
namespace Go.Proofs.YtnlgndpcddngoaaGreatDoor
open Go.RowKit Go.Maps
def qClk:Rq:=⟨6,0,0,0,0,0,0,0,0,0,0,0,0⟩
theorem jgD:Reads qClk:=by
 intro t
 have e:Rq.enc qClk=[1,6]:=rfl
 have eE:rdErr (Rq.enc qClk ++ t)=0:=by
  rw [e];simp [rdErr,jaf];omega
 have eQ:=rdQ_5 (Rq.enc qClk ++ t) eE (by rw [e];exact Or.inr rfl)
 refine⟨eE,?_,?_⟩
 ·unfold rdN;rw [if_pos eE,e];simp
 ·rw [eQ,e];rfl
end Go.Proofs.YtnlgndpcddngoaaGreatDoor
