import Derived.Test.YtnlgndpcddngoaaGreatDoorZd44
import Derived.Test.YtnlgndpcddngoaaGreatDoorZd35
import Derived.Deep.RegionHeld3
set_option linter.unusedVariables false
set_option linter.unusedSimpArgs false
set_option maxRecDepth 100000
set_option maxHeartbeats 16000000
namespace Go.Proofs.YtnlgndpcddngoaaGreatDoor
open Go.RowKit
def rlM (sps:List Sp)(i:Nat):Nat:=((sps[i]?).map (fun p=>p.qs.length)).getD 0
def rsM (sps:List Sp)(i:Nat):Nat:=((sps[i]?).map (fun p=>p.raw.size)).getD 0
theorem jgl (sps:List Sp)(i:Nat)(h:i<sps.length):rlM sps i=sps[i].qs.length:=by unfold rlM;rw [List.getElem?_eq_getElem h];rfl
theorem jgI (sps:List Sp)(i:Nat)(h:i<sps.length):rsM sps i=sps[i].raw.size:=by unfold rsM;rw [List.getElem?_eq_getElem h];rfl
theorem jhF (rl rs:Nat→Nat):∀ (n i:Nat),i<n→26 * rl i+rs i≤totM rl rs n
 | n+1,i,h=>by
  unfold totM
  rcases Nat.lt_or_ge i n with h1 | h1
  ·have:=jhF rl rs n i h1
   omega
  ·have e:i=n:=by omega
   subst e
   omega
structure Sp.ok (p:Sp):Prop where
 conn:-9223372036854775808≤p.conn∧p.conn≤9223372036854775807
 now:0≤p.now∧p.now≤18446744073709551615
 cut:-9223372036854775808≤p.cut∧p.cut≤9223372036854775807
 part:-9223372036854775808≤p.part∧p.part≤9223372036854775807
 qs:∀ q∈p.qs,q.ok
theorem sim0:Sim 0 ⟨0,0,[]⟩ ⟨0,[]⟩:=⟨rfl,trivial,⟨by decide,by decide,fun p hp=>(by cases hp),fun p hp=>(by cases hp),List.nodup_nil,by decide⟩,⟨by decide,by decide,fun l hl=>(by cases hl)⟩⟩
theorem both0 {w w3 w5:World}{hb db nb sb wb bb:Nat}{mb:Option Nat}{blk:Int}{v:Value}{tb:Nat→Nat}{F0:Nat→Prop}(H:HostAt w3 hb db nb sb mb blk ⟨0,true⟩ ⟨0,0,[]⟩ F0 w.heap.size (.slice none 0 0) 0 (fun _=>0) (fun _=>⟨[],false⟩))(hw:w.heap.size≤w3.heap.size)(W:World)(hbb:bb=w3.heap.size)(hwb:wb=w3.heap.size+1)(hW:W=(w3.alloc (.cells #[.slice none 0 0,.int .u64 0] 60)).alloc (.cells #[.pointer (some ⟨hb,0,none⟩),.pointer (some ⟨bb,0,none⟩),.slice none 0 0,.int .u64 blk,.bool false,.bool false,.int .u8 0,.int .u8 0,.int .u8 0,.int .u8 0,.int .u8 0,.int .u8 0,.int .u8 0,.int .u8 0,.int .u8 0,.int .u8 0,.int .u64 0,.int .u64 0,.int .u64 0,.int .u64 0,.int .u64 0,.int .u64 0,.int .u64 0] 67))
  (O:OpI W wb (fun v=>#[.pointer (some ⟨hb,0,none⟩),.pointer (some ⟨bb,0,none⟩),v,.int .u64 blk,.bool false,.bool false,.int .u8 0,.int .u8 0,.int .u8 0,.int .u8 0,.int .u8 0,.int .u8 0,.int .u8 0,.int .u8 0,.int .u8 0,.int .u8 0,.int .u64 0,.int .u64 0,.int .u64 0,.int .u64 0,.int .u64 0,.int .u64 0,.int .u64 0]) 3 v tb w5):∃ kb kc,Both w5 w.heap.size hb db nb sb wb bb kb kc mb blk tb (fun _=>.slice none 0 0) (.slice none 0 0) ⟨0,true⟩ ⟨0,0,[]⟩ F0 (.slice none 0 0) 0 (fun _=>0) (fun _=>⟨[],false⟩) 0 ⟨0,0,[]⟩ ⟨0,[]⟩ (fun _=>⟨[],false⟩):=by
 have hWs:W.heap.size=w3.heap.size+2:=by rw [hW];simp
 obtain⟨kb,kc,hv,hk1,hk2⟩:=O.own.form (by decide)
 have hWk:∀ b,b<w3.heap.size→w5.heap[b]?=w3.heap[b]?:=fun b hb'=>(O.keep.block b (by omega) (by omega)).trans (by rw [hW];exact (ja3 _ _ (by rw [World.size_alloc];omega)).trans (ja3 _ _ hb'))
 have hbk:w5.heap[bb]?=some (.cells #[.slice none 0 0,.int .u64 0] 60):=(O.keep.block bb (by omega) (by omega)).trans (by rw [hW,hbb];exact (ja3 _ _ (by rw [World.size_alloc];omega)).trans (ja1 _ _))
 have hsz:=O.keep.size
 have hlt:∀ b,HG hb db F0 (.slice none 0 0) 0 (fun _=>0) b→b<w3.heap.size:=fun b h=>H.lt b h
 refine⟨kb,kc,⟨H.kept (by omega) hWk,⟨⟨0,by have:=O.blk;rw [hv] at this;exact this,Int.le_refl _⟩,⟨hbk,World.ownsRow_nil _ _ _ _⟩,sim0,Int.le_refl _,?_,fun i hi=>(O.st i hi).1,fun i hi=>Or.inl ⟨rfl,Or.inl rfl⟩,O.inj,fun i hi h=>absurd rfl h,⟨by omega,by omega,fun i hi=>by have:=(O.st i hi).2;omega⟩,fun i hi=>⟨fun x hx=>(by cases hx),by simp,fun _=>rfl⟩,by omega⟩,fun b h e=>?_,fun b h j hj=>absurd hj (Nat.not_lt_zero _)⟩⟩
 ·have h:=O.own
  rw [hv] at h
  refine⟨h.1,?_⟩
  rcases h.2 with h | ⟨g,cap,cur,e1,e2,e3⟩
  ·exact Or.inl h
  ·exact Or.inr ⟨g,cap,cur,e1,by omega,e3⟩
 ·have:=hlt b e
  rcases h with h | h | h | h | ⟨i,hi,h⟩ | ⟨i,hi,h,_⟩
  ·omega
  ·omega
  ·omega
  ·simp [Value.ownBlock] at h
  ·have:=(O.st i hi).2;omega
  ·exact h rfl
structure PlayI (base:Nat)(blk:Int)(w:World)(ks:List Int)(J K:Nat→Nat→World→Prop):Prop where
 j0:∀ hb db nb sb wb bb kb kc mb tb F0 w5,Both w5 base hb db nb sb wb bb kb kc mb blk tb (fun _=>.slice none 0 0) (.slice none 0 0) ⟨0,true⟩ ⟨0,0,[]⟩ F0 (.slice none 0 0) 0 (fun _=>0) (fun _=>⟨[],false⟩) 0 ⟨0,0,[]⟩ ⟨0,[]⟩ (fun _=>⟨[],false⟩)→Below base w w5→J hb wb w5
 js:∀ hb wb X X',J hb wb X→Below X.heap.size X X'→J hb wb X'
 jb:∀ hb wb X,J hb wb X→base≤X.heap.size∧wb<X.heap.size∧X.cell? ⟨wb,0,none⟩=some (.pointer (some ⟨hb,0,none⟩))
 ks_:∀ hb wb X X',K hb wb X→Below X.heap.size X X'→K hb wb X'
 one:1∈ks→∀ hb wb X (p:Sp) v,J hb wb X→RqAt X v p.qs→p.ok→p.qs.length≤1000→p.raw.size≤20000→Calls Tryz.prog 23 #[.pointer (some ⟨wb,0,none⟩),.agg #[.int .i64 p.kind,.int .i64 p.conn,.int .u64 p.now,v,.string p.raw,.int .i64 p.cut,.int .i64 p.left,.int .i64 p.full,.int .i64 p.kept,.int .i64 p.part],.bool false] X fun e w'=>e=.returned (.bool true)∧J hb wb w'∧Below base X w'
 two:2∈ks→∀ hb wb X (p:Sp) v,J hb wb X→RqAt X v p.qs→p.ok→p.qs.length≤1000→p.raw.size≤20000→Calls Tryz.prog 23 #[.pointer (some ⟨wb,0,none⟩),.agg #[.int .i64 p.kind,.int .i64 p.conn,.int .u64 p.now,v,.string p.raw,.int .i64 p.cut,.int .i64 p.left,.int .i64 p.full,.int .i64 p.kept,.int .i64 p.part],.bool true] X fun e w'=>e=.returned (.bool true)∧J hb wb w'∧Below base X w'
 lose:3∈ks→∀ hb wb Y X (p:Sp),J hb wb Y→Below Y.heap.size Y X→p.ok→pickM p.part 2=0→Calls Tryz.prog 25 #[.pointer (some ⟨hb,0,none⟩),.int .i64 p.kept,.int .i64 p.part] X fun e w'=>e=.returned (.tuple #[])∧K hb wb w'∧Below base X w'∧(∀ b,Y.heap.size≤b→b<X.heap.size→w'.heap[b]?=X.heap[b]?)∧w'.cell? ⟨wb,0,none⟩=some (.pointer (some ⟨hb,0,none⟩))
 agk:3∈ks→∀ hb wb X (p:Sp) v,K hb wb X→p.ok→pickM p.part 2=0→Calls Tryz.prog 26 #[.pointer (some ⟨wb,0,none⟩),.agg #[.int .i64 p.kind,.int .i64 p.conn,.int .u64 p.now,v,.string p.raw,.int .i64 p.cut,.int .i64 p.left,.int .i64 p.full,.int .i64 p.kept,.int .i64 p.part]] X fun e w'=>e=.returned (.bool true)∧J hb wb w'∧Below base X w'
 agj:3∈ks→∀ hb wb X (p:Sp) v,J hb wb X→p.ok→pickM p.part 2=1→Calls Tryz.prog 26 #[.pointer (some ⟨wb,0,none⟩),.agg #[.int .i64 p.kind,.int .i64 p.conn,.int .u64 p.now,v,.string p.raw,.int .i64 p.cut,.int .i64 p.left,.int .i64 p.full,.int .i64 p.kept,.int .i64 p.part]] X fun e w'=>e=.returned (.bool true)∧J hb wb w'∧Below base X w'
theorem jli (ao:Option Addr)(n cap:Nat)(sps:List Sp)(blk:Int)(K0 nk:Nat)(ks:List Int)(J K:Nat→Nat→World→Prop)(w:World)(PI:PlayI w.heap.size blk w ks J K)(hks:∀ k∈ks,k=1∨k=2∨k=3)(hnk:ks.length=nk)(hnk3:nk≤3)(hn:sps.length=n)(hnc:n≤cap)(hn1:n≤1048576)(hql:∀ p∈sps,p.qs.length≤1048576∧p.raw.size≤1048576)(hok:∀ p∈sps,p.ok)(hK:∀ j (h:j<ks.length),w.cell? ⟨K0,j,none⟩=some (.int .i64 ks[j]))(hKl:K0<w.heap.size)(hblk:0≤blk∧blk≤18446744073709551615)
  (hc:0<n→∃ A o,ao=some ⟨A,o,none⟩∧A<w.heap.size∧∀ i (h:i<sps.length),∃ v,(∀ x,x<10→w.cell? ⟨A,o+i * 10+x,none⟩=(stv sps[i] v)[x]?)∧RqAt w v sps[i].qs) :
  Calls Tryz.prog 9 #[.slice ao n cap,.int .u64 blk,.slice (some ⟨K0,0,none⟩) nk nk] w fun e w'=>e=.returned (.bool true)∧Below w.heap.size w w':=by
 have H14:=hide (jjE ao n cap (rlM sps) (rsM sps) w hnc (by omega) (fun i hi=>by rw [jgl sps i (by omega)];have:=(hql _ (List.getElem_mem (show i<sps.length by omega))).1;omega) (fun i hi=>by rw [jgI sps i (by omega)];have:=(hql _ (List.getElem_mem (show i<sps.length by omega))).2;omega) (fun h=>by
   obtain⟨A,o,e,hA,hcc⟩:=hc h
   refine⟨A,o,e,hA,fun i hi=>?_⟩
   have hil:i<sps.length:=by omega
   obtain⟨v,hv,la,lc,rfl,_⟩:=hcc i hil
   exact⟨⟨la,lc,by rw [hv 3 (by omega),jgl sps i hil];rfl⟩,sps[i].raw,by rw [hv 4 (by omega)];rfl,(jgI sps i hil).symm⟩))
 have HC:=hide hc
 have HN:=hide hn
 have HOK:=hide hok
 have HKC:=hide hK
 have HPI:=hide PI
 have HKS:=hide hks
 have HNK:=hide hnk
 clear hc hn hok hK hql PI hks hnk
 go_enter Tryz.func9,Tryz.ntmps9
 go_wp2_with fail
 refine H14.out.mono ?_
 rintro e w1 ⟨⟨b,rfl,hsm⟩,hb1⟩
 have HSM:=hide hsm
 have HB1:=hide hb1
 have hs1:=hb1.size
 clear hsm hb1
 cases b with
 | false=>
  go_wp2
  go_ret
  exact⟨rfl,HB1.out⟩
 | true=>
  have hsm:=HSM.out rfl
  have HST:=hide hsm
  clear hsm HSM
  go_wp2_with fail
  refine (jhJ blk _).mono ?_
  rintro e w2 ⟨nb,rfl,h1,h2,h3,h4,h5,h6⟩
  obtain⟨hb,ehb⟩:∃ hb,hb=w1.heap.size+2:=⟨_,rfl⟩
  obtain⟨db,edb⟩:∃ db,db=w1.heap.size+1:=⟨_,rfl⟩
  obtain⟨mb,emb⟩:∃ mb,mb=w1.heap.size:=⟨_,rfl⟩
  rw [←edb,←emb] at h2
  rw [←ehb,←edb] at h1
  rw [←emb] at h3
  have HB2:=hide (HB1.out.trans (h6.mono hs1))
  have HSZ:Hid (w.heap.size≤mb∧mb<db∧db<hb∧hb<nb∧nb<w2.heap.size):=hide ⟨by omega,by omega,by omega,by omega,ltB h4⟩
  rw [←ehb]
  clear ehb edb emb h5 h6
  go_wp2_with fail
  refine (jfv hb db nb mb _ _ blk _ _ w2 hblk h1 h2 h3 h4 (by have:=HSZ.out;omega)).mono ?_
  rintro e w3 ⟨sb,F0,rfl,i1,i2,i4,i6,i7,i5⟩
  have hz:=HSZ.out
  have HB3:Hid (Below w.heap.size w w3):=hide (HB2.out.trans (i5.below (by omega) (fun k hk=>by omega)))
  have H2:HostAt w3 hb db nb sb (some mb) blk ⟨0,true⟩ ⟨0,0,[]⟩ F0 w.heap.size (.slice none 0 0) 0 (fun _=>0) (fun _=>⟨[],false⟩):=by
   refine⟨i2,i4.dskF,i4,fun i hi=>absurd hi (Nat.not_lt_zero _),fun i j hi=>absurd hi (Nat.not_lt_zero _),World.ownsRow_nil _ _ _ _,fun g hg hF=>?_,fun b hb'=>?_,fun _ _=>rfl⟩
   ·rcases hg with h | h | h
    ·exact i7 (h▸hF)
    ·exact h
    ·simp [Value.ownBlock] at h
   ·rcases hb' with h | h | h | h | ⟨i,hi,h⟩
    ·omega
    ·omega
    ·rcases i6 b h with h | h | h | h <;> omega
    ·simp [Value.ownBlock] at h
    ·omega
  have HH2:=hide H2
  clear h1 h2 h3 h4 i1 i2 i4 i5 i6 i7 H2 hz
  go_wp2_with fail
  refine (is17 hb sb _ _ _ w3 HH2.out.hh).mono ?_
  rintro e w4 ⟨rfl,he4⟩
  rw [he4]
  clear he4
  go_wp2_with fail
  obtain⟨bb,hbb⟩:∃ bb,bb=w3.heap.size:=⟨_,rfl⟩
  obtain⟨wb,hwb⟩:∃ wb,wb=w3.heap.size+1:=⟨_,rfl⟩
  obtain⟨W,hW⟩:∃ W,W=(w3.alloc (.cells #[.slice none 0 0,.int .u64 0] 60)).alloc (.cells #[.pointer (some ⟨hb,0,none⟩),.pointer (some ⟨bb,0,none⟩),.slice none 0 0,.int .u64 blk,.bool false,.bool false,.int .u8 0,.int .u8 0,.int .u8 0,.int .u8 0,.int .u8 0,.int .u8 0,.int .u8 0,.int .u8 0,.int .u8 0,.int .u8 0,.int .u64 0,.int .u64 0,.int .u64 0,.int .u64 0,.int .u64 0,.int .u64 0,.int .u64 0] 67):=⟨_,rfl⟩
  rw [←hwb]
  rw [←hbb]
  rw [←hW]
  have hWb:W.heap[wb]?=some (.cells #[.pointer (some ⟨hb,0,none⟩),.pointer (some ⟨bb,0,none⟩),.slice none 0 0,.int .u64 blk,.bool false,.bool false,.int .u8 0,.int .u8 0,.int .u8 0,.int .u8 0,.int .u8 0,.int .u8 0,.int .u8 0,.int .u8 0,.int .u8 0,.int .u8 0,.int .u64 0,.int .u64 0,.int .u64 0,.int .u64 0,.int .u64 0,.int .u64 0,.int .u64 0] 67):=by rw [hW,hwb];exact heapN (by simp)
  refine (jgi wb _ _ _ _ _ _ _ _ _ _ _ _ _ _ _ _ _ _ _ _ _ _ _ W hWb).mono ?_
  rintro e w5 ⟨rfl,v,tb,O⟩
  have hw3:=HB3.out.size
  obtain⟨kb,kc,HB⟩:=both0 HH2.out hw3 W hbb hwb (by rw [hW]) O
  have hB5:Below w.heap.size w w5:=HB3.out.trans ⟨O.keep.os.trans (by rw [hW];rfl),O.keep.tape.trans (by rw [hW];rfl),O.keep.output.trans (by rw [hW];rfl),by have:=O.keep.size;rw [hW] at this;simp at this;omega,fun b hb'=>(O.keep.block b (by rw [hW];simp;omega) (by omega)).trans (by rw [hW];exact (ja3 _ _ (by rw [World.size_alloc];omega)).trans (ja3 _ _ (by omega)))⟩
  have HBO:=hide (HPI.out.j0 _ _ _ _ _ _ _ _ _ _ _ _ HB hB5)
  have HB5:=hide hB5
  clear HB hB5 O hWb hW hbb hwb HH2
  obtain⟨base,hbase⟩:∃ base,base=w.heap.size:=⟨_,rfl⟩
  rw [←hbase] at HB5 HPI
  have HBE:=hide hbase
  go_wp2_with fail
  go_loopw [12] (fun s12 wr=>∃ i:Nat,i≤n∧s12=.int .i64 i∧J hb wb wr∧Below base w wr) (fun s12 _=>n - (intOf s12).toNat)
  case atStart=>exact⟨0,Nat.zero_le _,rfl,HBO.out,HB5.out⟩
  case round=>
   obtain⟨i,hin,rfl,HBr,hbr⟩:=hrel
   obtain⟨Y,rfl⟩:∃ Y,Y=wr:=⟨_,rfl⟩
   have HR:=hide HBr
   have HBR:=hide hbr
   have hYs:=hbr.size
   clear HBr hbr
   by_cases hlt:i<n
   ·have hltI:(i:Int)<(n:Int):=by omega
    have hi0:(0:Int)≤(i:Int):=by omega
    have hil:i<sps.length:=by rw [HN.out];exact hlt
    obtain⟨A,o,rfl,hA,hcc⟩:=HC.out (by omega)
    obtain⟨v,hcell,hrq⟩:=hcc i hil
    obtain⟨p,hp⟩:∃ p,p=sps[i]:=⟨_,rfl⟩
    rw [←hp] at hcell hrq
    have hpok:p.ok:=hp▸HOK.out _ (List.getElem_mem hil)
    have htot:=jhF (rlM sps) (rsM sps) n i hlt
    rw [jgl sps i hil,jgI sps i hil,←hp] at htot
    have hsm:=HST.out
    have hql:p.qs.length≤1000:=by omega
    have hraw:p.raw.size≤20000:=by omega
    obtain⟨ra,rc,rfl,hrc,hrcell⟩:=hrq
    have hk:∀ x,x<10→Y.cell? ⟨A,o+i * 10+x,none⟩=(stv p (.slice ra p.qs.length rc))[x]?:=fun x hx=>(HBR.out.cell (p:=⟨A,o+i * 10+x,none⟩) (by show A<base;omega)).trans (hcell x hx)
    have k0:=hk 0 (by omega)
    have k1:=hk 1 (by omega)
    have k2:=hk 2 (by omega)
    have k3:=hk 3 (by omega)
    have k4:=hk 4 (by omega)
    have k5:=hk 5 (by omega)
    have k6:=hk 6 (by omega)
    have k7:=hk 7 (by omega)
    have k8:=hk 8 (by omega)
    have k9:=hk 9 (by omega)
    rw [Nat.add_zero] at k0
    have hrqY:RqAt Y (.slice ra p.qs.length rc) p.qs:=⟨ra,rc,rfl,hrc,fun h=>by
      obtain⟨A2,o2,e,hA2,h2⟩:=hrcell h
      exact⟨A2,o2,e,by omega,fun k hk j hj=>(HBR.out.cell (p:=⟨A2,o2+k * 13+j,none⟩) (by show A2<base;omega)).trans (h2 k hk j hj)⟩⟩
    obtain⟨ql,hqe⟩:∃ ql,ql=p.qs.length:=⟨_,rfl⟩
    rw [←hqe] at hrqY k0 k1 k2 k3 k4 k5 k6 k7 k8 k9 hql
    have HRQ:=hide hrqY
    have HPK:=hide hpok
    have HQE:=hide hqe
    have HPE:=hide hp
    have HRAW:=hide hraw
    have HQL:=hide hql
    clear hk hcell hrcell hcc hrqY hpok htot hsm hp hrc hqe hraw hql
    go_wp2_with fail
    obtain⟨Q,hQ⟩:∃ Q,Q=Y.heap.size:=⟨_,rfl⟩
    obtain⟨V,hV⟩:∃ V,V=Y.alloc (.cells #[.int .i64 p.kind,.int .i64 p.conn,.int .u64 p.now,.slice ra ql rc,.string p.raw,.int .i64 p.cut,.int .i64 p.left,.int .i64 p.full,.int .i64 p.kept,.int .i64 p.part] 69):=⟨_,rfl⟩
    rw [←hQ,←hV]
    have hVb:Below Y.heap.size Y V:=by rw [hV];exact (Below.refl _ Y).alloc (Nat.le_refl _) _
    have hVQ:V.heap[Q]?=some (.cells #[.int .i64 p.kind,.int .i64 p.conn,.int .u64 p.now,.slice ra ql rc,.string p.raw,.int .i64 p.cut,.int .i64 p.left,.int .i64 p.full,.int .i64 p.kept,.int .i64 p.part] 69):=by rw [hV,hQ];exact ja1 _ _
    have hVs:V.heap.size=Q+1:=by rw [hV,hQ];simp
    have hKV:∀ j (h:j<ks.length),V.cell? ⟨K0,j,none⟩=some (.int .i64 ks[j]):=fun j h=>(hVb.cell (p:=⟨K0,j,none⟩) (by show K0<Y.heap.size;omega)).trans ((HBR.out.cell (p:=⟨K0,j,none⟩) (by show K0<base;omega)).trans (HKC.out j h))
    have hKQ:K0<V.heap.size:=by omega
    have HVB:=hide hVb
    have HVQ:=hide hVQ
    have HKV:=hide hKV
    have HQQ:=hide hQ
    clear hV hVb hVQ hKV k0 k1 k2 k3 k4 k5 k6 k7 k8 k9 hQ
    go_loopw [14,15] (fun s14 s15 X=>∃ (j:Nat) (bl:Bool),j≤nk∧s15=.int .i64 j∧s14=.bool bl∧(bl=true↔p.kind∈ks.take j)∧Below V.heap.size V X) (fun _ s15 _=>nk - (intOf s15).toNat)
    case atStart=>exact⟨0,false,by omega,rfl,rfl,by simp,Below.refl _ _⟩
    case round=>
     obtain⟨j,bl,hj1,rfl,rfl,hbl,hX⟩:=hrel
     obtain⟨X,rfl⟩:∃ X,X=wr:=⟨_,rfl⟩
     have hXQ:=(hX.block Q (by omega)).trans HVQ.out
     have q0:=cellB hXQ 0
     have hXs:=hX.size
     have HX:=hide hX
     have HBL:=hide hbl
     clear hX hbl
     by_cases hj0:j<nk
     ·have hjl:j<ks.length:=by rw [HNK.out];exact hj0
      obtain⟨kj,hkj⟩:∃ kj,kj=ks[j]:=⟨_,rfl⟩
      have hXK:X.cell? ⟨K0,j,none⟩=some (.int .i64 kj):=(HX.out.cell (p:=⟨K0,j,none⟩) hKQ).trans (by rw [hkj];exact HKV.out j hjl)
      have htk:∀ b:Bool,(b=true↔(p.kind∈ks.take j∨p.kind=kj))→(b=true↔p.kind∈ks.take (j+1)):=fun b h=>by
       rw [h,List.take_add_one,List.getElem?_eq_getElem hjl,←hkj]
       simp only [Option.toList,List.mem_append,List.mem_singleton]
      have HTK:=hide htk
      have HXQ:=hide hXQ
      have hj0I:(j:Int)<(nk:Int):=by omega
      have hjn:(0:Int)≤(j:Int):=by omega
      clear hXQ htk hkj
      cases bl with
      | true=>
       have HB2:Hid (∀ b:Bool,b=true→(b=true↔p.kind∈ks.take (j+1))):=hide (fun b hb=>HTK.out b ⟨fun _=>Or.inl (HBL.out.1 rfl),fun _=>hb⟩)
       go_upto_region 19 with fail
       go_region
       all_goals go_wp2
       all_goals go_roundw
       all_goals first
        | exact⟨j+1,true,by omega,by go_num,rfl,HB2.out true rfl,HX.out.drew⟩
        | (simp [intOf];omega)
      | false=>
       have hnt:¬p.kind∈ks.take j:=fun h=>by have:=HBL.out.2 h;cases this
       by_cases hpk:p.kind=kj
       ·have HB2:Hid (true=true↔p.kind∈ks.take (j+1)):=hide (HTK.out true ⟨fun _=>Or.inr hpk,fun _=>rfl⟩)
        have hpk':(p.kind==kj)=true:=by simp [hpk]
        clear hpk hnt
        go_upto_region 19 with fail
        go_region
        all_goals go_wp2
        all_goals go_roundw
        all_goals first
         | exact⟨j+1,true,by omega,by go_num,rfl,HB2.out,HX.out.drew⟩
         | (simp [intOf];omega)
       ·have HB2:Hid (false=true↔p.kind∈ks.take (j+1)):=hide (HTK.out false ⟨(fun h=>absurd h (by simp)),fun h=>h.elim (fun h=>absurd h hnt) (fun h=>absurd h hpk)⟩)
        have hpk':(p.kind==kj)=false:=by simp [hpk]
        clear hpk hnt
        go_upto_region 19 with fail
        go_region
        all_goals go_wp2
        all_goals go_roundw
        all_goals first
         | exact⟨j+1,false,by omega,by go_num,rfl,HB2.out,HX.out.drew⟩
         | (simp [intOf];omega)
     ·have hjl:j=nk:=by omega
      have hkin:bl=true↔p.kind∈ks:=by
       have h:=HBL.out
       rw [hjl,List.take_of_length_le (by rw [HNK.out];omega)] at h
       exact h
      have hjI:¬(j:Int)<(nk:Int):=by omega
      have HYX:Hid (Below Y.heap.size Y X):=hide (HVB.out.trans (HX.out.mono (by have:=HQQ.out;omega)))
      have HRX:=hide (HPI.out.js _ _ _ _ HR.out HYX.out)
      have HYs:Hid (Y.heap.size≤Q∧Q<X.heap.size):=hide ⟨by have:=HQQ.out;omega,by omega⟩
      have HXQ:=hide hXQ
      have hbq:base≤Y.heap.size:=(HPI.out.jb _ _ _ HR.out).1
      have HBQ:=hide hbq
      clear hjl hbq
      cases bl with
      | false=>
       clear hXQ hkin
       go_wp2
       go_roundw
       case rel=>exact⟨i+1,by omega,by go_num,HRX.out,HBR.out.trans (HYX.out.mono HBQ.out)⟩
       case measure=>simp [intOf];omega
      | true=>
       have hmem:=hkin.1 rfl
       have HMEM:=hide hmem
       have hcase:=HKS.out _ hmem
       have q1:=cellB hXQ 1
       have q2:=cellB hXQ 2
       have q3:=cellB hXQ 3
       have q4:=cellB hXQ 4
       have q5:=cellB hXQ 5
       have q6:=cellB hXQ 6
       have q7:=cellB hXQ 7
       have q8:=cellB hXQ 8
       have q9:=cellB hXQ 9
       have hrX:RqAt X (.slice ra ql rc) p.qs:=by
        obtain⟨a2,c2,e2,hc2,h2⟩:=HRQ.out
        refine⟨a2,c2,e2,hc2,fun h=>?_⟩
        obtain⟨A2,o2,e3,hA2,h3⟩:=h2 h
        exact⟨A2,o2,e3,by have:=HYX.out.size;omega,fun k hk j hj=>(HYX.out.cell (p:=⟨A2,o2+k * 13+j,none⟩) hA2).trans (h3 k hk j hj)⟩
       have HRQX:=hide hrX
       have hqlen:p.qs.length≤1000:=by have:=HQL.out;have:=HQE.out;omega
       have HQLEN:=hide hqlen
       clear hrX hXQ hkin hmem hqlen
       rcases hcase with hkd | hkd | hkd
       ·have H19:=hide (HPI.out.one (by rw [←hkd];exact HMEM.out) hb wb X p (.slice ra ql rc) HRX.out HRQX.out HPK.out HQLEN.out HRAW.out)
        have hkd1:(p.kind==1)=true:=by simp [hkd]
        clear hkd
        go_wp2_with fail
        refine H19.out.mono ?_
        rintro e w6 ⟨rfl,hsp,hbp⟩
        have HSP:=hide hsp
        have HBP:=hide hbp
        clear hsp hbp
        go_wp2
        go_roundw
        case rel=>exact⟨i+1,by omega,by go_num,HSP.out,(HBR.out.trans (HYX.out.mono HBQ.out)).trans HBP.out⟩
        case measure=>simp [intOf];omega
       ·have H19:=hide (HPI.out.two (by rw [←hkd];exact HMEM.out) hb wb X p (.slice ra ql rc) HRX.out HRQX.out HPK.out HQLEN.out HRAW.out)
        have hkd1:(p.kind==1)=false:=by simp [hkd]
        have hkd2:(p.kind==2)=true:=by simp [hkd]
        clear hkd
        go_wp2_with fail
        refine H19.out.mono ?_
        rintro e w6 ⟨rfl,hsp,hbp⟩
        have HSP:=hide hsp
        have HBP:=hide hbp
        clear hsp hbp
        go_wp2
        go_roundw
        case rel=>exact⟨i+1,by omega,by go_num,HSP.out,(HBR.out.trans (HYX.out.mono HBQ.out)).trans HBP.out⟩
        case measure=>simp [intOf];omega
       ·have h3m:3∈ks:=by rw [←hkd];exact HMEM.out
        have hkd1:(p.kind==1)=false:=by simp [hkd]
        have hkd2:(p.kind==2)=false:=by simp [hkd]
        have hkd3:(p.kind==3)=true:=by simp [hkd]
        have HPC:=hide (fun w=>jeK p.part 2 w (by omega) (by omega) HPK.out.part.1 HPK.out.part.2)
        obtain⟨pk,hpk⟩:∃ pk,pk=pickM p.part 2:=⟨_,rfl⟩
        have hpk2:=jcb p.part 2 (by omega)
        rw [←hpk] at HPC hpk2
        have HPKE:=hide hpk
        clear hkd hpk
        go_wp2_with fail
        refine (HPC.out _).mono ?_
        rintro e w6 ⟨rfl,he6⟩
        rw [he6]
        clear he6
        by_cases hp0:pk=0
        ·have HLO:=hide (HPI.out.lose h3m hb wb Y X.drew p HR.out (HYX.out.trans ((Below.refl _ X).drew.mono HYX.out.size)) HPK.out (by rw [←HPKE.out];exact hp0))
         have hp0':(pk==0)=true:=by simp [hp0]
         have HP0:=hide hp0
         obtain⟨_,hwbl,hwbc⟩:=HPI.out.jb _ _ _ HRX.out
         have HCE:Hid (∀ wz:World,(∀ b,Y.heap.size≤b→b<X.drew.heap.size→wz.heap[b]?=X.drew.heap[b]?)→wz.heap[Q]?=some (.cells #[.int .i64 p.kind,.int .i64 p.conn,.int .u64 p.now,.slice ra ql rc,.string p.raw,.int .i64 p.cut,.int .i64 p.left,.int .i64 p.full,.int .i64 p.kept,.int .i64 p.part] 69)):=hide (fun wz h=>(h Q HYs.out.1 HYs.out.2).trans HXQ.out)
         clear hp0
         go_upto_region 28 with fail
         go_cut [] (fun wx=>K hb wb wx∧Below base X wx∧wx.heap[Q]?=some (.cells #[.int .i64 p.kind,.int .i64 p.conn,.int .u64 p.now,.slice ra ql rc,.string p.raw,.int .i64 p.cut,.int .i64 p.left,.int .i64 p.full,.int .i64 p.kept,.int .i64 p.part] 69))
         case first=>
          go_region_held3 (fun w'=>w'.cell? ⟨wb,0,none⟩=some (.pointer (some ⟨hb,0,none⟩))∧w'.cell? ⟨Q,8,none⟩=some (.int .i64 p.kept)∧w'.cell? ⟨Q,9,none⟩=some (.int .i64 p.part)) (first | go_keep | (exact hcells))
           (first | (go_at_call 25;refine HLO.out.mono ?_;rintro e wz ⟨rfl,g1,g2,g3,g4⟩;have hz:=HCE.out wz g3;have hcells:=And.intro g4 (And.intro (cellB hz 8) (cellB hz 9))))
          all_goals (go_wp2_with fail;go_meet)
          all_goals exact⟨g1,⟨g2.os,g2.tape,g2.output,g2.size,g2.block⟩,hz⟩
         case rest=>
          obtain⟨X6,rfl⟩:∃ X6,X6=wc:=⟨_,rfl⟩
          obtain⟨g1,g2,hz⟩:=hcut
          have r0:=cellB hz 0
          have r1:=cellB hz 1
          have r2:=cellB hz 2
          have r3:=cellB hz 3
          have r4:=cellB hz 4
          have r5:=cellB hz 5
          have r6:=cellB hz 6
          have r7:=cellB hz 7
          have r8:=cellB hz 8
          have r9:=cellB hz 9
          have H33:=hide (HPI.out.agk h3m hb wb X6 p (.slice ra ql rc) g1 HPK.out (by rw [←HPKE.out];exact HP0.out))
          have HB6:=hide g2
          clear g1 g2 hz q0 q1 q2 q3 q4 q5 q6 q7 q8 q9 hwbl hwbc
          go_wp2_with fail
          refine H33.out.mono ?_
          rintro e w7 ⟨rfl,hsp,hbp⟩
          have HSP:=hide hsp
          have HBP:=hide hbp
          clear hsp hbp
          go_wp2
          go_roundw
          case rel=>exact⟨i+1,by omega,by go_num,HSP.out,((HBR.out.trans (HYX.out.mono HBQ.out)).trans HB6.out).trans HBP.out⟩
          case measure=>simp [intOf];omega
        ·have hp1:pk=1:=by omega
         have hp0':(pk==0)=false:=by simp [hp0]
         have H33:=hide (HPI.out.agj h3m hb wb X p (.slice ra ql rc) HRX.out HPK.out (by rw [←HPKE.out];exact hp1))
         clear hp0 hp1
         go_wp2_with fail
         refine H33.out.mono ?_
         rintro e w7 ⟨rfl,hsp,hbp⟩
         have HSP:=hide hsp
         have HBP:=hide hbp
         clear hsp hbp
         go_wp2
         go_roundw
         case rel=>exact⟨i+1,by omega,by go_num,HSP.out,(HBR.out.trans (HYX.out.mono HBQ.out)).trans HBP.out⟩
         case measure=>simp [intOf];omega
   ·have hltI:¬(i:Int)<(n:Int):=by omega
    go_wp2
    go_ret
    exact⟨rfl,HBE.out▸HBR.out⟩
end Go.Proofs.YtnlgndpcddngoaaGreatDoor
