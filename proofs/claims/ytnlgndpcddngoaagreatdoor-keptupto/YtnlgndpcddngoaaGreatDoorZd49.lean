import Derived.Test.YtnlgndpcddngoaaGreatDoorZd46
import Derived.Test.YtnlgndpcddngoaaGreatDoorZd48
import Derived.Test.YtnlgndpcddngoaaGreatDoorZd39
import Derived.Test.YtnlgndpcddngoaaGreatDoorZd40
set_option linter.unusedVariables false
set_option linter.unusedSimpArgs false
set_option maxRecDepth 100000
set_option maxHeartbeats 2000000
namespace Go.Proofs.YtnlgndpcddngoaaGreatDoor
open Go.RowKit Go.Maps
abbrev ErrT (w:World):Prop:=w.cell? ⟨0,0,none⟩=some (.iface 236 (.agg #[.pointer (some ⟨5,97,none⟩)]))
def KJ (base:Nat)(blk:Int)(hb wb:Nat)(w:World):Prop:=∃ (db nb sb bb kb kc:Nat) (mb:Option Nat) (tb:Nat→Nat) (rv:Nat→Value) (lv:Value) (D:Dx) (L:Ld) (F:Nat→Prop) (cv:Value) (m:Nat) (cb:Nat→Nat) (c:Nat→Cn) (B:Bk),m≤3∧(m<3→∀ i,c i=⟨[],false⟩)∧Both w base hb db nb sb wb bb kb kc mb blk tb rv lv D L F cv m cb c D.t L B c∧ErrT w
def KK (base:Nat)(blk:Int)(hb wb:Nat)(w:World):Prop:=∃ (w0:World) (bb kb kc:Nat) (tb:Nat→Nat) (rv:Nat→Value) (lv:Value) (D:Dx) (L:Ld) (G:Nat→Prop) (c:Nat→Cn) (B:Bk),DwnAt w0 w hb blk D L base G∧base≤w0.heap.size∧LawAt w base hb wb bb kb kc blk D.t tb rv lv L B c∧(∀ b,LG wb bb kb tb rv lv c b→¬G b)∧ErrT w
theorem jax {base:Nat}{w w':World}(h:ErrT w)(hE:0<base)(hb:Below base w w'):ErrT w':=(hb.cell (p:=⟨0,0,none⟩) hE).trans h
theorem law_q {w:World}{base hb wb bb kb kc:Nat}{blk d:Int}{tb:Nat→Nat}{rv:Nat→Value}{lv:Value}{L:Ld}{B:Bk}{c:Nat→Cn}{G:Nat→Prop}(H:LawAt w base hb wb bb kb kc blk d tb rv lv L B c)(hG:∀ b,LG wb bb kb tb rv lv c b→¬G b):QOk w G (RP wb bb lv):=fun b hb'=>by
 obtain⟨least,hw,_⟩:=H.blk
 rcases hb' with h | h | h
 ·exact⟨hG b (Or.inl h),by rw [h];exact⟨_,_,_,hw⟩⟩
 ·exact⟨hG b (Or.inr (Or.inl h)),by rw [h];exact⟨_,_,_,H.book.hb⟩⟩
 ·obtain⟨a,fr,e⟩:=jeN H.book.ho h
  exact⟨hG b (Or.inr (Or.inr (Or.inr (Or.inl h)))),_,_,_,e⟩
theorem ag_kj {X w':World}{base hb wb bb kb kc:Nat}{blk d least:Int}{tb0:Nat→Nat}{rv0:Nat→Value}{lv:Value}{L0:Ld}{B:Bk}{c0:Nat→Cn}{G:Nat→Prop}{e:Ending}(hE:0<base)(HL:LawAt X base hb wb bb kb kc blk d tb0 rv0 lv L0 B c0)(hlo:∀ b,G b→base≤b)(hgl:ErrT X)
  (A:jjk X wb hb bb base lv B blk least (.int .u8 0) (.int .u8 0) (.int .u8 0) (.int .u8 0) (.int .u8 0) (.int .u8 0) (.int .u8 0) (.int .u8 0) (.int .u8 0) (.int .u8 0) (.int .u64 0) (.int .u64 0) (.int .u64 0) (.int .u64 0) (.int .u64 0) base G e w'):e=.returned (.bool true)∧KJ base blk hb wb w'∧Below base X w':=by
 obtain⟨he,L',G',v,tb,h1,h2,h3,h4,h5,h6,⟨h7,h8,h9,h10⟩,h11,h12⟩:=A
 have hbs:=HL.bs
 have hbel:Below base X w':=⟨h12.os,h12.tape,h12.output,h12.size,fun b hb'=>(h12.un b ⟨by omega,fun h=>by have:=hlo b h;omega,fun h=>by
   rcases h with h | h | h
   · have:=HL.lo.1;omega
   · have:=HL.lo.2.1;omega
   · have:=(ja5 HL.book.ho h).1;omega,Or.inl hb'⟩).1⟩
 refine⟨he,?_,hbel⟩
 obtain⟨db,nb,sb,mb,F,cv,m,cb,hm,H,rfl⟩:=h1
 obtain⟨kb',kc',hv,hk1,hk2⟩:=h7.form (by decide)
 subst hv
 refine⟨db,nb,sb,bb,kb',kc',mb,tb,fun _=>.slice none 0 0,lv,⟨L'.time,true⟩,L',F,cv,m,cb,fun _=>⟨[],false⟩,recB L' B,hm,fun _ _=>rfl,⟨H,⟨⟨least,?_,h5⟩,h3,h4,Int.le_refl _,?_,fun i hi=>(h8 i hi).1,fun i hi=>Or.inl ⟨rfl,Or.inl rfl⟩,h9,fun i hi h=>absurd rfl h,⟨HL.lo.1,HL.lo.2.1,fun i hi=>by have:=(h8 i hi).2.1;omega⟩,fun i hi=>⟨fun x hx=>(by cases hx),by simp,fun _=>rfl⟩,Nat.le_trans hbs h12.size⟩,fun b h=>?_,fun b h j hj hne=>absurd rfl hne⟩,jax hgl hE hbel⟩
 ·rw [h2]
  exact h6
 ·refine⟨h7.1,?_⟩
  rcases h7.2 with h | ⟨g,cap,cur,e1,e2,e3⟩
  ·exact Or.inl h
  ·exact Or.inr ⟨g,cap,cur,e1,by omega,e3⟩
 ·rcases h with h | h | h | h | ⟨i,hi,h⟩ | ⟨i,hi,h,_⟩
  ·exact h11 b (Or.inl h)
  ·exact h11 b (Or.inr (Or.inl h))
  ·exact h10 b (by rw [h];rfl)
  ·exact h11 b (Or.inr (Or.inr h))
  ·rw [h];exact (h8 i hi).2.2
  ·exact absurd rfl h
theorem keptI (base:Nat)(blk:Int)(w:World)(hblk:0≤blk∧blk≤18446744073709551615)(hE:0<base)(hgl:ErrT w):PlayI base blk w [1,3] (KJ base blk) (KK base blk) where
 j0:=fun hb db nb sb wb bb kb kc mb tb F0 w5 H hb5=>⟨db,nb,sb,bb,kb,kc,mb,tb,_,_,_,_,F0,_,0,_,_,_,by omega,fun _ _=>rfl,H,jax hgl hE hb5⟩
 js:=fun hb wb X X' h hb'=>by
  obtain⟨db,nb,sb,bb,kb,kc,mb,tb,rv,lv,D,L,F,cv,m,cb,c,B,h1,h2,H,h4⟩:=h
  exact⟨db,nb,sb,bb,kb,kc,mb,tb,rv,lv,D,L,F,cv,m,cb,c,B,h1,h2,H.kept hb',jax h4 (Nat.lt_of_lt_of_le hE H.law.bs) hb'⟩
 jb:=fun hb wb X h=>by
  obtain⟨db,nb,sb,bb,kb,kc,mb,tb,rv,lv,D,L,F,cv,m,cb,c,B,h1,h2,H,h4⟩:=h
  obtain⟨least,hw,_⟩:=H.law.blk
  exact⟨H.law.bs,ltB hw,cellB hw 0⟩
 ks_:=fun hb wb X X' h hb'=>by
  obtain⟨w0,bb,kb,kc,tb,rv,lv,D,L,G,c,B,h1,h2,h3,h4,h5⟩:=h
  exact⟨w0,bb,kb,kc,tb,rv,lv,D,L,G,c,B,jc6 h1 hb',h2,h3.kept hb'.size (fun b h=>hb'.block b (h3.low b h).2),h4,jax h5 (Nat.lt_of_lt_of_le hE h3.bs) hb'⟩
 one:=fun _ hb wb X p v h hr hok hl hraw=>by
  obtain⟨db,nb,sb,bb,kb,kc,mb,tb,rv,lv,D,L,F,cv,m,cb,c,B,h1,h2,H,h4⟩:=h
  refine (jkX base hb db nb sb wb bb kb kc mb blk tb rv lv D L F cv m cb c B p v X H h1 h2 hr hl hok.qs hraw hok.conn.1 hok.conn.2 hok.now.1 hok.now.2 hok.cut.1 hok.cut.2).mono ?_
  rintro e w' ⟨rfl,D',L',F',cv',cb',c',lv',B',rv',g1,g2⟩
  exact⟨rfl,⟨db,nb,sb,bb,kb,kc,mb,tb,rv',lv',D',L',F',cv',3,cb',c',B',Nat.le_refl _,fun h=>absurd h (by omega),g1,jax h4 hE g2⟩,g2⟩
 two:=fun h=>by simp at h
 lose:=fun _ hb wb Y X p h hYX hok hpk=>by
  obtain⟨db,nb,sb,bb,kb,kc,mb,tb,rv,lv,D,L,F,cv,m,cb,c,B,h1,h2,H,h4⟩:=h
  have HX:=H.kept hYX
  refine (jhD hb blk D L base (HG hb db F cv m cb) p.kept p.part X HX.host.up hok.part.1 hok.part.2).mono ?_
  rintro e w' ⟨rfl,hd⟩
  have hk:=hd.keepG
  have hbel:Below base X w':=hk.below HX.law.bs (fun b h=>HX.host.lo b h)
  have hlaw:LawAt w' base hb wb bb kb kc blk D.t tb rv lv L B c:=HX.law.kept hk.size (fun b h=>hk.block b (HX.law.low b h).2 (HX.dis b h))
  obtain⟨least,hw,_⟩:=hlaw.blk
  exact⟨rfl,⟨X,bb,kb,kc,tb,rv,lv,D,L,_,c,B,hd,HX.law.bs,hlaw,HX.dis,jax (jax h4 (Nat.lt_of_lt_of_le hE H.law.bs) hYX) hE hbel⟩,hbel,fun b h1 h2=>hk.block b h2 (fun h=>by have:=H.host.lt b h;omega),cellB hw 0⟩
 agk:=fun _ hb wb X p v h hok hpk=>by
  obtain⟨w0,bb,kb,kc,tb,rv,lv,D,L,G,c,B,h1,h2,h3,h4,h5⟩:=h
  obtain⟨least,hw,hle⟩:=h3.blk
  have hlo:∀ b,G b→base≤b:=by
   obtain⟨db,F,hG0,hlo,_⟩:=h1
   exact fun b h=>(hlo b h).1
  refine (jhb true w0 X wb hb bb base lv B blk least D L base G _ _ _ _ _ _ _ _ _ _ _ _ _ _ _ _ _ _ _ _ _ _ _ _ p.left p.full p.kept p.part hok.part.1 hok.part.2 hpk h1 h2 h3.bs hw h3.book h3.sim hle hblk.1 (law_q h3 h4) h5 ⟨hE,fun h=>by have:=hlo _ h;omega⟩).mono ?_
  exact fun e w' A=>ag_kj hE h3 hlo h5 A
 agj:=fun _ hb wb X p v h hok hpk=>by
  obtain⟨db,nb,sb,bb,kb,kc,mb,tb,rv,lv,D,L,F,cv,m,cb,c,B,h1,h2,H,h4⟩:=h
  obtain⟨least,hw,hle⟩:=H.law.blk
  refine (jhb false X X wb hb bb base lv B blk least D L base (HG hb db F cv m cb) _ _ _ _ _ _ _ _ _ _ _ _ _ _ _ _ _ _ _ _ _ _ _ _ p.left p.full p.kept p.part hok.part.1 hok.part.2 hpk H.host.up H.law.bs H.law.bs hw H.law.book H.law.sim hle hblk.1 (law_q H.law H.dis) h4 ⟨hE,fun h=>by have:=H.host.lo _ h;omega⟩).mono ?_
  exact fun e w' A=>ag_kj hE H.law (fun b h=>H.host.lo b h) h4 A
end Go.Proofs.YtnlgndpcddngoaaGreatDoor
namespace Go.Proofs.YtnlgndpcddngoaaGreatDoor
open Go.RowKit
theorem RqAt.of_own {w:World}{base:Nat}{v:Value}{qs:List Rq}(h:w.ownsRow base 65 13 v qs.length (rqws qs)):RqAt w v qs:=by
 rcases h.2 with ⟨rfl,h0⟩ | ⟨g,cap,cur,hv,hb,hh,hc,_⟩
 ·exact⟨none,0,by rw [h0],by omega,fun hp=>by omega⟩
 ·refine⟨some ⟨g,0,none⟩,cap,hv,hc,fun hp=>⟨g,0,rfl,ltB hh,fun i hi j hj=>?_⟩⟩
  subst hv
  rw [Nat.zero_add,h.cellAt (i * 13+j) (by omega)]
  exact jdk j hj qs i hi
theorem jkp {w:World}{base e sz:Nat}{v:Value}{n:Nat}{xs:List Value}(h:w.ownsRow base e sz v n xs):∃ a c,v=.slice a n c∧n≤c∧(0<n→∃ g,a=some ⟨g,0,none⟩∧g<w.heap.size):=by
 rcases h.2 with ⟨rfl,h0⟩ | ⟨g,cap,cur,hv,hb,hh,hc,_⟩
 ·exact⟨none,0,by rw [h0],by omega,fun hp=>by omega⟩
 ·exact⟨_,cap,hv,hc,fun _=>⟨g,rfl,ltB hh⟩⟩
def noS (p:Sp):Sp:={ p with qs:=fq p.qs }
theorem jl5 (p:Sp)(h:p.ok):(noS p).ok:=⟨h.conn,h.now,h.cut,h.part,fun q hq=>h.qs q (List.mem_filter.1 hq).1⟩
theorem ji0 {w:World}{base a c:Nat}{sps:List Sp}{vs:List Value}{m:Nat}(hm:m≤sps.length)(hl:vs.length=m)(h:w.ownsRow base 69 10 (.slice (some ⟨a,0,none⟩) m c) m (stvs (sps.take m) vs))(i:Nat)(hi:i<m)(x:Nat)(hx:x<10):w.cell? ⟨a,0+i * 10+x,none⟩=(stv sps[i] vs[i])[x]?:=by
 rw [Nat.zero_add,h.cellAt (i * 10+x) (by omega),jeS x hx _ _ i (by rw [List.length_take];omega) (by omega)]
 simp only [List.getElem_take]
theorem kept3 (ao:Option Addr)(n cap:Nat)(sps:List Sp)(blk:Int)(w:World)(hn:sps.length=n)(hnc:n≤cap)(hn1:n≤1048576)(hql:∀ p∈sps,p.qs.length≤1048576∧p.raw.size≤1048576)(hok:∀ p∈sps,p.ok)(hblk:0≤blk∧blk≤18446744073709551615)(hgl:ErrT w)
  (hc:0<n→∃ A o,ao=some ⟨A,o,none⟩∧A<w.heap.size∧∀ i (h:i<sps.length),∃ v,(∀ x,x<10→w.cell? ⟨A,o+i * 10+x,none⟩=(stv sps[i] v)[x]?)∧RqAt w v sps[i].qs) :
  Calls Tryz.prog 4 #[.slice ao n cap,.int .u64 blk] w fun e w'=>e=.returned (.bool true)∧Below w.heap.size w w':=by
 have hEl:=jaN hgl
 have HGL:=hide hgl
 have H7:=hide (jin ao n cap sps w hn hnc hn1 (fun p hp=>(hql p hp).1) hc)
 have HQL:=hide hql
 have HOK:=hide hok
 have HN:=hide hn
 clear hql hok hc hn hgl
 go_enter Tryz.func4,Tryz.ntmps4
 go_wp2_with fail
 refine H7.out.mono ?_
 rintro e w1 ⟨s3,m,vs,rfl,hmn,I⟩
 obtain⟨sa,sc,rfl,hmc,hsa⟩:=jkp I.own
 have hI:=hide I
 have hsz:=I.below.size
 clear I
 go_wp2_with fail
 have hmle:m≤sps.length:=by rw [HN.out];omega
 obtain⟨V,hV⟩:∃ V,V=w1.alloc (.cells #[.int .i64 1,.int .i64 3] 3):=⟨_,rfl⟩
 have hVb:Below w1.heap.size w1 V:=by rw [hV];exact (Below.refl _ w1).alloc (Nat.le_refl _) _
 have hVK:∀ j (h:j<[(1:Int),3].length),V.cell? ⟨w1.heap.size,j,none⟩=some (.int .i64 [(1:Int),3][j]):=by
  rw [hV]
  intro j h
  match j,h with
  | 0,_=>exact cellB (ja1 _ _) 0
  | 1,_=>exact cellB (ja1 _ _) 1
 have hVs:V.heap.size=w1.heap.size+1:=by rw [hV];simp
 rw [←hV]
 have hl:((sps.take m).map noS).length=m:=by rw [List.length_map,List.length_take];omega
 have hcV:0<m→∃ A o,sa=some ⟨A,o,none⟩∧A<V.heap.size∧∀ i (h:i<((sps.take m).map noS).length),∃ v,(∀ x,x<10→V.cell? ⟨A,o+i * 10+x,none⟩=(stv ((sps.take m).map noS)[i] v)[x]?)∧RqAt V v ((sps.take m).map noS)[i].qs:=fun hp=>by
  obtain⟨g,rfl,hg⟩:=hsa hp
  refine⟨g,0,rfl,by omega,fun i h=>?_⟩
  have him:i<m:=by omega
  have hiv:i<vs.length:=by rw [hI.out.len];exact him
  have e1:((sps.take m).map noS)[i]=noS sps[i]:=by simp
  refine⟨vs[i],fun x hx=>?_,?_⟩
  ·rw [hVb.cell (p:=⟨g,0+i * 10+x,none⟩) hg,ji0 hmle hI.out.len hI.out.own i him x hx,e1]
   rfl
  ·rw [e1]
   have h1:=hI.out.rq i hiv (by omega)
   exact RqAt.of_own (ja7 h1 (fun z hz=>hVb.block z (ja5 h1 hz).2))
 have hgV:ErrT V:=jax (jax HGL.out hEl hI.out.below) (Nat.lt_of_lt_of_le hEl hsz) hVb
 refine (jli sa m sc ((sps.take m).map noS) blk w1.heap.size 2 [1,3] (KJ V.heap.size blk) (KK V.heap.size blk) V (keptI V.heap.size blk V hblk (by omega) hgV) (by simp) rfl (by omega) hl hmc (by omega) (fun p hp=>?_) (fun p hp=>?_) hVK (by omega) hblk hcV).mono ?_
 ·obtain⟨p0,hp0,rfl⟩:=List.mem_map.1 hp
  have:=HQL.out p0 (List.mem_of_mem_take hp0)
  exact⟨Nat.le_trans (fq_le p0.qs) this.1,this.2⟩
 ·obtain⟨p0,hp0,rfl⟩:=List.mem_map.1 hp
  exact jl5 p0 (HOK.out p0 (List.mem_of_mem_take hp0))
 rintro e w2 ⟨rfl,hb2⟩
 go_wp2
 go_ret
 exact⟨rfl,(hI.out.below.trans (hVb.mono hsz)).trans (hb2.mono (by omega))⟩
end Go.Proofs.YtnlgndpcddngoaaGreatDoor
namespace Go.Proofs.YtnlgndpcddngoaaGreatDoor
open Go.ChangeShapes Go.WideShapes Go.ChangeAt Go.RowKit Go.Joins
theorem jil {H:Type}(d:DataW H):1≤Rows.uptoBulk d:=by
 cases d with
 | lit l=>cases l <;> simp [Rows.uptoBulk]
 | nil=>simp [Rows.uptoBulk]
 | ptr d=>simp [Rows.uptoBulk]
 | slice a b=>simp [Rows.uptoBulk]
 | agg a=>simp [Rows.uptoBulk]
 | iface a b=>simp [Rows.uptoBulk]
 | map a=>simp [Rows.uptoBulk]
 | held a=>simp [Rows.uptoBulk]
theorem jbz {H:Type}{d:DataW H}:∀ {l:List (DataW H)},d∈l→Rows.uptoBulk d≤Rows.uptoBulkAll l
 | x :: r,h=>by
  simp only [Rows.uptoBulkAll]
  rcases List.mem_cons.1 h with rfl | h
  ·omega
  ·have:=jbz h;omega
theorem jd2 {H:Type}:∀ (l:List (DataW H)),l.length≤Rows.uptoBulkAll l
 | []=>by simp
 | x :: r=>by have:=jd2 r;have:=jil x;simp only [Rows.uptoBulkAll,List.length_cons];omega
theorem jd9 {H:Type}{enc:TypeId×Value→H}{P:Program}{w:World}{base:Nat}{spare:Nat→Bool}{held:Bool}{t:TypeId}{f0 f1 f2 f3 f4 f5 f6 f7 f8 f9:Field}{fuel:Nat}{cs:List Value}{x:DataW H×List MemPlace}(ht:P.underlying t=some (.struct #[f0,f1,f2,f3,f4,f5,f6,f7,f8,f9]))(h:DataW.trod enc P w base spare held fuel t cs=some x) :
  ∃ y0 y1 y2 y3 y4 y5 y6 y7 y8 y9 n,x.1=.agg [y0.1,y1.1,y2.1,y3.1,y4.1,y5.1,y6.1,y7.1,y8.1,y9.1]∧cs.length=P.cellsOf t∧
   DataW.trod enc P w base spare held n f0.type ((cs.drop f0.offset).take (P.cellsOf f0.type))=some y0∧DataW.trod enc P w base spare held n f1.type ((cs.drop f1.offset).take (P.cellsOf f1.type))=some y1∧
   DataW.trod enc P w base spare held n f2.type ((cs.drop f2.offset).take (P.cellsOf f2.type))=some y2∧DataW.trod enc P w base spare held n f3.type ((cs.drop f3.offset).take (P.cellsOf f3.type))=some y3∧
   DataW.trod enc P w base spare held n f4.type ((cs.drop f4.offset).take (P.cellsOf f4.type))=some y4∧DataW.trod enc P w base spare held n f5.type ((cs.drop f5.offset).take (P.cellsOf f5.type))=some y5∧
   DataW.trod enc P w base spare held n f6.type ((cs.drop f6.offset).take (P.cellsOf f6.type))=some y6∧DataW.trod enc P w base spare held n f7.type ((cs.drop f7.offset).take (P.cellsOf f7.type))=some y7∧
   DataW.trod enc P w base spare held n f8.type ((cs.drop f8.offset).take (P.cellsOf f8.type))=some y8∧DataW.trod enc P w base spare held n f9.type ((cs.drop f9.offset).take (P.cellsOf f9.type))=some y9:=by
 obtain⟨xs,n,_,rfl,hl,hlen,hf⟩:=DataW.trod_struct ht h
 match xs,hlen with
 | [y0,y1,y2,y3,y4,y5,y6,y7,y8,y9],_=>exact⟨y0,y1,y2,y3,y4,y5,y6,y7,y8,y9,n,by simp,hl,by simpa using hf 0 f0 rfl,by simpa using hf 1 f1 rfl,by simpa using hf 2 f2 rfl,by simpa using hf 3 f3 rfl,by simpa using hf 4 f4 rfl,by simpa using hf 5 f5 rfl,by simpa using hf 6 f6 rfl,by simpa using hf 7 f7 rfl,by simpa using hf 8 f8 rfl,by simpa using hf 9 f9 rfl⟩
theorem Tryz.cells62:Tryz.prog.cellsOf 69=10:=by kernel_rfl
theorem Tryz.cells3':Tryz.prog.cellsOf 3=1:=by kernel_rfl
theorem Tryz.cells9':Tryz.prog.cellsOf 9=1:=by kernel_rfl
theorem Tryz.cells28':Tryz.prog.cellsOf 28=1:=by kernel_rfl
theorem jcl {H:Type}{enc:TypeId×Value→H}{W:World}{base n:Nat}{spare:Nat→Bool}{held:Bool}{c:Value}{x:DataW H×List MemPlace}(h:DataW.trod enc Tryz.prog W base spare held n 3 [c]=some x):∃ a,c=.int .i64 a∧-9223372036854775808≤a∧a≤9223372036854775807:=by
 obtain⟨a,e,_,wa⟩:=DataW.trod_int Tryz.underlying3 h
 have hb:=bounds_i64 wa
 simp at e
 exact⟨a,e,hb.1,by omega⟩
theorem jlp {cs:List Value}(h:cs.length=10):∃ c0 c1 c2 c3 c4 c5 c6 c7 c8 c9,cs=[c0,c1,c2,c3,c4,c5,c6,c7,c8,c9]:=by
 match cs,h with
 | [c0,c1,c2,c3,c4,c5,c6,c7,c8,c9],_=>exact⟨c0,c1,c2,c3,c4,c5,c6,c7,c8,c9,rfl⟩
theorem jkA {H:Type}{enc:TypeId×Value→H}{W:World}{base fuel:Nat}{spare:Nat→Bool}{held:Bool}{c:Value}{x:DataW H×List MemPlace}(hf:DataW.trod enc Tryz.prog W base spare held fuel 28 [c]=some x) :
  ∃ qs:List Rq,RqAt W c qs∧(∀ q∈qs,q.ok)∧qs.length≤Rows.uptoBulk x.1:=by
 rcases Deep.open_slice Tryz.underlying28 hf with ⟨e,_⟩ | ⟨a',len,cap,m,n,D,Pl,e,hb,hlc,hcm,hm,hx,hel⟩
 ·simp at e
  subst e
  exact⟨[],⟨none,0,rfl,by simp,fun h=>(by simp at h)⟩,fun q hq=>(by cases hq),by simp⟩
 ·simp at e
  subst e
  have hlm:len≤m:=by rw [hm];split <;> omega
  rw [Tryz.cells28] at hel
  have hbk:len≤Rows.uptoBulk x.1:=by
   rw [hx]
   simp only [Rows.uptoBulk]
   have:=jd2 ((List.range len).map D)
   simp at this
   omega
  have each:∀ i,i<len→∃ q:Rq,q.ok∧W.cells? base (a'.add (i * 13)) 13=some (rqcl q):=by
   intro i hi
   obtain⟨cs,h1,h2⟩:=hel i (by omega)
   obtain⟨q,h3,rfl⟩:=jl9 (World.cells?_some h1).2.1 h2
   exact⟨q,h3.1,h1⟩
  rcases Nat.eq_zero_or_pos len with h0 | hp
  ·subst h0
   exact⟨[],⟨some a',cap,rfl,by simp,fun h=>(by simp at h)⟩,fun q hq=>(by cases hq),by simp⟩
  ·have hchoose:∃ Q:Nat→Rq,∀ i,i<len→(Q i).ok∧W.cells? base (a'.add (i * 13)) 13=some (rqcl (Q i)):=by
    refine⟨fun i=>if h:i<len then (each i h).choose else Rq.zero,fun i hi=>?_⟩
    dsimp only
    rw [dif_pos hi]
    exact (each i hi).choose_spec
   obtain⟨Q,hQ⟩:=hchoose
   have hc:∀ i,i<len→∀ j,j<13→W.cell? ((a'.add (i * 13)).add j)=(rqcl (Q i))[j]?:=fun i hi j hj=>(World.cells?_some (hQ i hi).2).2.2 j hj
   have hsp:a'.spot=none:=by
    have:=hc 0 hp 0 (by omega)
    exact World.cell?_spot (v:=.int .u8 (Q 0).op) (by simpa [Addr.add] using this)
   obtain⟨A,o,sp⟩:=a'
   simp at hsp
   subst hsp
   refine⟨(List.range len).map Q,⟨some ⟨A,o,none⟩,cap,by simp,by simpa using hlc,fun _=>⟨A,o,rfl,World.cells?_block (hQ 0 hp).2 (by omega),fun i hi j hj=>?_⟩⟩,fun q hq=>?_,by simpa using hbk⟩
   ·have hi':i<len:=by simpa using hi
    have:=hc i hi' j hj
    rw [Deep.add_add,Addr.add_lit] at this
    rw [Nat.add_assoc,this]
    simp
   ·obtain⟨i,hi,rfl⟩:=List.mem_map.1 hq
    exact (hQ i (List.mem_range.1 hi)).1
theorem jk1 {H:Type}{enc:TypeId×Value→H}{W:World}{base fuel:Nat}{spare:Nat→Bool}{held:Bool}{cs:List Value}{x:DataW H×List MemPlace}
  (hl:cs.length=10) (hf:DataW.trod enc Tryz.prog W base spare held fuel 69 cs=some x):∃ (p:Sp) (v:Value),p.ok∧p.qs.length≤Rows.uptoBulk x.1∧p.raw.size≤Rows.uptoBulk x.1∧cs=stv p v∧RqAt W v p.qs:=by
 obtain⟨c0,c1,c2,c3,c4,c5,c6,c7,c8,c9,rfl⟩:=jlp hl
 obtain⟨y0,y1,y2,y3,y4,y5,y6,y7,y8,y9,n,hx,_,t0,t1,t2,t3,t4,t5,t6,t7,t8,t9⟩:=jd9 Tryz.underlying69 hf
 simp only [Tryz.cells3',Tryz.cells9',Tryz.cells28',Tryz.cells24] at t0 t1 t2 t3 t4 t5 t6 t7 t8 t9
 obtain⟨kd,rfl,_,_⟩:=jcl (c:=c0) t0
 obtain⟨cn,rfl,cn1,cn2⟩:=jcl (c:=c1) t1
 obtain⟨nw,rfl,nw1,nw2⟩:=jeJ (c:=c2) t2
 obtain⟨qs,hq1,hq2,hq3⟩:=jkA (c:=c3) t3
 obtain⟨s,hs,hy4,_⟩:=DataW.trod_string Tryz.underlying9 t4
 obtain rfl:c4=.string s:=by simpa using hs
 obtain⟨ct,rfl,ct1,ct2⟩:=jcl (c:=c5) t5
 obtain⟨lf,rfl,_,_⟩:=jcl (c:=c6) t6
 obtain⟨fl,rfl,_,_⟩:=jcl (c:=c7) t7
 obtain⟨kp,rfl,_,_⟩:=jcl (c:=c8) t8
 obtain⟨pt,rfl,pt1,pt2⟩:=jcl (c:=c9) t9
 have b3:Rows.uptoBulk y3.1≤Rows.uptoBulk x.1:=by
  rw [hx]
  simp only [Rows.uptoBulk]
  have:=jbz (d:=y3.1) (l:=[y0.1,y1.1,y2.1,y3.1,y4.1,y5.1,y6.1,y7.1,y8.1,y9.1]) (by simp)
  omega
 have b4:Rows.uptoBulk y4.1≤Rows.uptoBulk x.1:=by
  rw [hx]
  simp only [Rows.uptoBulk]
  have:=jbz (d:=y4.1) (l:=[y0.1,y1.1,y2.1,y3.1,y4.1,y5.1,y6.1,y7.1,y8.1,y9.1]) (by simp)
  omega
 have b5:s.size+1=Rows.uptoBulk y4.1:=by rw [hy4,Rows.uptoBulk,Array.length_toList];rfl
 exact⟨⟨kd,cn,nw,qs,s,ct,lf,fl,kp,pt⟩,c3,⟨⟨cn1,cn2⟩,⟨nw1,nw2⟩,⟨ct1,ct2⟩,⟨pt1,pt2⟩,hq2⟩,Nat.le_trans hq3 b3,by show s.size≤_;omega,rfl,hq1⟩
theorem jfA {H:Type}{enc:TypeId×Value→H}{W:World}{r:Reach}{b0 base:Nat}{spare:Nat→Bool}{held:Bool}{v:Value}{d:DataW H}{pl:List MemPlace}
  (hv:Value.okWide Tryz.prog W r b0 22 v) (h:DataW.Trod enc Tryz.prog W base spare held 22 v d pl):∃ ao n cap,v=.slice ao n cap∧n≤cap∧n≤Rows.uptoBulk d∧∃ sps:List Sp,sps.length=n∧(∀ p∈sps,p.ok∧p.qs.length≤Rows.uptoBulk d∧p.raw.size≤Rows.uptoBulk d)∧
   (0<n→∃ A o,ao=some ⟨A,o,none⟩∧A<W.heap.size∧∀ i (h:i<sps.length),∃ v,(∀ x,x<10→W.cell? ⟨A,o+i * 10+x,none⟩=(stv sps[i] v)[x]?)∧RqAt W v sps[i].qs):=by
 obtain⟨a,len,cap,rfl⟩:=okWide_slice Tryz.underlying22 hv
 obtain⟨fuel,hf⟩:=h
 have hf':DataW.trod enc Tryz.prog W base spare held fuel 22 [.slice a len cap]=some (d,pl):=by simpa [Value.cells] using hf
 rcases Deep.open_slice Tryz.underlying22 hf' with ⟨e,_⟩ | ⟨a',len',cap',m,n,D,Pl,e,hb,hlc,hcm,hm,hx,hel⟩
 ·simp at e
  obtain⟨rfl,rfl,rfl⟩:=e
  exact⟨none,0,0,rfl,by omega,by omega,[],rfl,fun p hp=>(by cases hp),fun h=>(by omega)⟩
 ·simp at e
  obtain⟨rfl,rfl,rfl⟩:=e
  have hlm:len≤m:=by rw [hm];split <;> omega
  rw [Tryz.cells62] at hel
  have hd:d=.slice ((List.range len).map D) ((List.range (m - len)).map fun j=>D (len+j)):=congrArg Prod.fst hx
  have hbk:len≤Rows.uptoBulk d:=by
   rw [hd]
   simp only [Rows.uptoBulk]
   have:=jd2 ((List.range len).map D)
   simp at this
   omega
  have hbi:∀ i,i<len→Rows.uptoBulk (D i)≤Rows.uptoBulk d:=fun i hi=>by
   rw [hd]
   simp only [Rows.uptoBulk]
   have:=jbz (d:=D i) (l:=(List.range len).map D) (List.mem_map.2 ⟨i,List.mem_range.2 hi,rfl⟩)
   omega
  have each:∀ i,i<len→∃ pv:Sp×Value,(pv.1.ok∧pv.1.qs.length≤Rows.uptoBulk d∧pv.1.raw.size≤Rows.uptoBulk d)∧RqAt W pv.2 pv.1.qs∧W.cells? base (a'.add (i * 10)) 10=some (stv pv.1 pv.2):=by
   intro i hi
   obtain⟨cs,h1,h2⟩:=hel i (by omega)
   obtain⟨p,v,h3,h4,h5,rfl,h6⟩:=jk1 (World.cells?_some h1).2.1 h2
   have:=hbi i hi
   exact⟨(p,v),⟨h3,Nat.le_trans h4 this,Nat.le_trans h5 this⟩,h6,h1⟩
  refine⟨some a',len,cap,rfl,hlc,hbk,?_⟩
  have hchoose:∃ Q:Nat→Sp×Value,∀ i,i<len→((Q i).1.ok∧(Q i).1.qs.length≤Rows.uptoBulk d∧(Q i).1.raw.size≤Rows.uptoBulk d)∧RqAt W (Q i).2 (Q i).1.qs∧W.cells? base (a'.add (i * 10)) 10=some (stv (Q i).1 (Q i).2):=by
   refine⟨fun i=>if h:i<len then (each i h).choose else (⟨0,0,0,[],ByteArray.empty,0,0,0,0,0⟩,.slice none 0 0),fun i hi=>?_⟩
   dsimp only
   rw [dif_pos hi]
   exact (each i hi).choose_spec
  obtain⟨Q,hQ⟩:=hchoose
  refine⟨(List.range len).map (fun i=>(Q i).1),by simp,fun p hp=>?_,fun hp=>?_⟩
  ·obtain⟨i,hi,rfl⟩:=List.mem_map.1 hp
   exact (hQ i (List.mem_range.1 hi)).1
  ·have hc:∀ i,i<len→∀ j,j<10→W.cell? ((a'.add (i * 10)).add j)=(stv (Q i).1 (Q i).2)[j]?:=fun i hi j hj=>(World.cells?_some (hQ i hi).2.2).2.2 j hj
   have hsp:a'.spot=none:=by
    have:=hc 0 hp 0 (by omega)
    exact World.cell?_spot (v:=.int .i64 (Q 0).1.kind) (by simpa [Addr.add] using this)
   obtain⟨A,o,sp⟩:=a'
   simp at hsp
   subst hsp
   refine⟨A,o,rfl,World.cells?_block (hQ 0 hp).2.2 (by omega),fun i hi=>?_⟩
   have hi':i<len:=by simpa using hi
   refine⟨(Q i).2,fun x hx=>?_,?_⟩
   ·have:=hc i hi' x hx
    rw [Deep.add_add,Addr.add_lit] at this
    rw [Nat.add_assoc,this]
    simp
   ·have:=(hQ i hi').2.1
    simpa using this
end Go.Proofs.YtnlgndpcddngoaaGreatDoor
