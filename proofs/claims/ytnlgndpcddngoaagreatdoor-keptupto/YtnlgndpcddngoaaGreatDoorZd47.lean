import Derived.Test.YtnlgndpcddngoaaGreatDoorZd45
import Derived.Test.YtnlgndpcddngoaaGreatDoorZd43
import Derived.Test.YtnlgndpcddngoaaGreatDoorZd35
set_option linter.unusedVariables false
set_option linter.unusedSimpArgs false
set_option maxRecDepth 100000
namespace Go.Proofs.YtnlgndpcddngoaaGreatDoor
open Go.RowKit Go.Maps
def US (ev:Bool)(w0 w:World)(hb:Nat)(blk:Int)(D:Dx)(L:Ld)(B:Nat)(G:Nat→Prop):Prop:=if ev then DwnAt w0 w hb blk D L B G else HsuAt w hb blk D L B G
theorem US.below {ev:Bool}{w0 w w':World}{hb:Nat}{blk:Int}{D:Dx}{L:Ld}{B:Nat}{G:Nat→Prop}(h:US ev w0 w hb blk D L B G)(hb':Below w.heap.size w w'):US ev w0 w' hb blk D L B G:=by
 cases ev
 ·have h':HsuAt w hb blk D L B G:=h
  have hlt:∀ k,G k→k<w.heap.size:=by
   obtain⟨_,_,_,_,_,_,_,_,_,h6⟩:=h'
   exact fun k hk=>(h6 k hk).2
  exact h'.quiet hb'.size (fun k hk=>hb'.block k (hlt k hk))
 ·exact jc6 (h:DwnAt w0 w hb blk D L B G) hb'
theorem jgW {ev:Bool}{w0 w:World}{hb:Nat}{blk:Int}{D:Dx}{L:Ld}{B:Nat}{G:Nat→Prop}(h:US ev w0 w hb blk D L B G)(hL:L.ok)(hB:B≤w0.heap.size)(hB2:B≤w.heap.size) :
  Calls Tryz.prog 20 #[.pointer (some ⟨hb,0,none⟩),.int .i64 (-1),.int .i64 (-1),.int .i64 0,.int .i64 0] w fun e w'=>∃ L' G',e=.returned (.int .i64 0)∧HstAt w' hb blk ⟨L'.time,true⟩ L' B G'∧Rc blk D L L'∧Keep G w w'∧∀ b,G' b→G b∨w.heap.size≤b∨jde w b:=by
 cases ev
 ·refine (jgm hb blk D L B G w h hB2).mono ?_
  rintro e w' ⟨L',G',rfl,h1,h2,h3,h4⟩
  obtain⟨ks,p1,p2⟩:=h2.rc hL h1.lok
  exact⟨⟨L'.time,L'.adm,ks⟩,G',rfl,h1.perm p1,p2,h3,fun b hb'=>(h4 b hb').imp id Or.inl⟩
 ·refine (jix h hB).mono ?_
  rintro e w' ⟨L',G',rfl,h1,h2,h3,h4⟩
  obtain⟨ks,p1,p2⟩:=h2.rc hL h1.lok
  exact⟨⟨L'.time,L'.adm,ks⟩,G',rfl,h1.perm p1,p2,h3,h4⟩
def QOk (w:World)(G Q:Nat→Prop):Prop:=∀ b,Q b→¬G b∧∃ c t fr,w.heap[b]?=some (.cells c t fr)
theorem QOk.lt {w:World}{G Q:Nat→Prop}(h:QOk w G Q){b:Nat}(hb:Q b):b<w.heap.size:=by
 obtain⟨_,c,t,fr,e⟩:=h b hb
 exact ltB e
theorem QOk.kept {w w':World}{G Q:Nat→Prop}(h:QOk w G Q)(hk:Keep G w w'):QOk w' G Q∧∀ b,Q b→w'.heap[b]?=w.heap[b]?:=by
 have u:∀ b,Q b→w'.heap[b]?=w.heap[b]?:=fun b hb=>hk.block b (h.lt hb) (h b hb).1
 refine⟨fun b hb=>?_,u⟩
 obtain⟨h1,c,t,fr,e⟩:=h b hb
 exact⟨h1,c,t,fr,(u b hb).trans e⟩
theorem QOk.below {w w':World}{G Q:Nat→Prop}(h:QOk w G Q)(hk:Below w.heap.size w w'):QOk w' G Q∧∀ b,Q b→w'.heap[b]?=w.heap[b]?:=h.kept (Keep.of_below hk)
theorem QOk.well {w w':World}{G G' Q:Nat→Prop}(h:QOk w G Q)(hk:Keep G w w')(hg:∀ b,G' b→G b∨w.heap.size≤b∨jde w b):QOk w' G' Q∧∀ b,Q b→w'.heap[b]?=w.heap[b]?:=by
 obtain⟨h1,u⟩:=h.kept hk
 refine⟨fun b hb=>⟨fun hG=>?_,(h1 b hb).2⟩,u⟩
 obtain⟨h2,c,t,fr,e⟩:=h b hb
 have hl:=ltB e
 rcases hg b hG with h3 | h3 | h3
 ·exact h2 h3
 ·omega
 ·exact h3 c t fr e
theorem jeN {w:World}{base e sz:Nat}{v:Value}{n:Nat}{xs:List Value}(h:w.ownsRow base e sz v n xs){g:Nat}(hg:v.ownBlock=some g):∃ c fr,w.heap[g]?=some (.cells c e fr):=by
 rcases h.2 with ⟨rfl,rfl⟩ | ⟨g',cap,cur,hv,_,hh,_⟩
 ·simp [Value.ownBlock] at hg
 ·rw [hv] at hg
  simp [Value.ownBlock] at hg
  subst hg
  exact⟨_,_,hh⟩
theorem jl8 {w:World}{G:Nat→Prop}{wb bb base sx:Nat}{lv:Value}{B:Bk}{hb:Nat}{c2 c4 f0 f1 f2 f3 f4 f5 f6 f7 f8 f9 f10 f11 f12 was win lt:Value}{blk least:Int}{c:Array Value}{t:TypeId}{fr:Nat×Nat}(ho:w.heap[wb]?=some (wobj hb bb c2 c4 f0 f1 f2 f3 f4 f5 f6 f7 f8 f9 f10 f11 f12 was win lt blk least))(hK:BookAt w bb base lv B)(hs:w.heap[sx]?=some (.cells c t fr))(hG:∀ b,RP wb bb lv b∨b=sx→¬G b):QOk w G (fun b=>RP wb bb lv b∨b=sx):=fun b hb'=>by
 refine⟨hG b hb',?_⟩
 rcases hb' with (h | h | h) | h
 ·rw [h];exact⟨_,_,_,ho⟩
 ·rw [h];exact⟨_,_,_,hK.hb⟩
 ·obtain⟨a,fr,e⟩:=jeN hK.ho h
  exact⟨_,_,_,e⟩
 ·rw [h];exact⟨_,_,_,hs⟩
theorem op_q {w w':World}{G Q:Nat→Prop}{wb:Nat}{C:Value→Array Value}{i:Nat}{v:Value}{tb:Nat→Nat}(h:OpI w wb C i v tb w')(hQ:QOk w G Q)(hw:Q wb):QOk w' G Q∧∀ b,Q b→b≠wb→w'.heap[b]?=w.heap[b]?:=by
 have u:∀ b,Q b→b≠wb→w'.heap[b]?=w.heap[b]?:=fun b hb hne=>h.keep.block b (hQ.lt hb) hne
 refine⟨fun b hb=>⟨(hQ b hb).1,?_⟩,u⟩
 by_cases e:b=wb
 ·rw [e];exact⟨_,_,_,h.blk⟩
 ·obtain⟨_,c,t,fr,e2⟩:=hQ b hb
  exact⟨c,t,fr,(u b hb e).trans e2⟩
theorem jjr {w w':World}{wb hb:Nat}{blk:Int}{D:Dx}{L:Ld}{B:Nat}{G:Nat→Prop}{C:Value→Array Value}{i:Nat}{v:Value}{tb:Nat→Nat}(h:OpI w wb C i v tb w')(H:HstAt w hb blk D L B G)(hw:¬G wb):HstAt w' hb blk D L B G:=
 H.quiet h.keep.size (fun k hk=>h.keep.block k (H.lt k hk) (fun e=>hw (e▸hk)))
theorem DwnAt.keepG {w0 w:World}{hb:Nat}{blk:Int}{D:Dx}{L:Ld}{B:Nat}{G:Nat→Prop}(h:DwnAt w0 w hb blk D L B G):Keep G w0 w:=by
 obtain⟨db,F,hG0,hlo,c0,mb,nb,h1,h2,h3,h4,h5,h6,h7,h8⟩:=h
 exact h8.mono (fun b h _=>h.elim (fun h=>h▸hG0.1) (fun h=>h▸hG0.2.1))
theorem jgO {L:Ld}{B:Bk}(h:L.ks.length=B.ls.length):(⟨L.time,recL L.time L.ks B.ls B.ls.length⟩:Bk)=recB L B:=by
 unfold recB
 rw [jhQ L.time L.ks B.ls h]
theorem jfE {L:Ld}{B:Bk}(h:L.ks.length=B.ls.length):recB L (recB L B)=recB L B:=by
 unfold recB
 rw [jdC L.time L.ks B.ls h]
def Far (W:World)(G:Nat→Prop)(wb bb:Nat)(lv:Value)(Bh b:Nat):Prop:=b<W.heap.size∧¬G b∧¬RP wb bb lv b∧(b<Bh∨∃ c t fr,W.heap[b]?=some (.cells c t fr))
structure Fr (W a:World)(G Ga:Nat→Prop)(wb bb:Nat)(lv:Value)(Bh:Nat):Prop where
 os:a.os=W.os
 tape:a.tape=W.tape
 output:a.output=W.output
 size:W.heap.size≤a.heap.size
 un:∀ b,Far W G wb bb lv Bh b→a.heap[b]?=W.heap[b]?∧¬Ga b
theorem Fr.start {W:World}{G:Nat→Prop}{wb bb:Nat}{lv:Value}{Bh:Nat}:Fr W W G G wb bb lv Bh:=⟨rfl,rfl,rfl,Nat.le_refl _,fun _ h=>⟨rfl,h.2.1⟩⟩
theorem Fr.step {W a c:World}{G Ga Gc:Nat→Prop}{wb bb:Nat}{lv:Value}{Bh:Nat}(h:Fr W a G Ga wb bb lv Bh)(k:Keep (fun b=>Ga b∨RP wb bb lv b∨W.heap.size≤b) a c)(hg:∀ b,Gc b→Ga b∨a.heap.size≤b∨jde a b)(lo:∀ b,Gc b→Bh≤b):Fr W c G Gc wb bb lv Bh:=by
 have hs:=h.size
 refine⟨k.os.trans h.os,k.tape.trans h.tape,k.output.trans h.output,Nat.le_trans h.size k.size,fun b hb=>?_⟩
 obtain⟨u1,u2⟩:=h.un b hb
 obtain⟨f1,f2,f3,f4⟩:=hb
 refine⟨(k.block b (by omega) (fun h'=>?_)).trans u1,fun h'=>?_⟩
 ·rcases h' with h' | h' | h'
  ·exact u2 h'
  ·exact f3 h'
  ·omega
 ·rcases hg b h' with h2 | h2 | h2
  ·exact u2 h2
  ·omega
  ·rcases f4 with f4 | ⟨c',t,fr,e⟩
   ·have:=lo b h';omega
   ·exact h2 c' t fr (u1.trans e)
end Go.Proofs.YtnlgndpcddngoaaGreatDoor
