import Derived.Test.YtnlgndpcddngoaaGreatDoorZ12
import Derived.Test.YtnlgndpcddngoaaGreatDoorZ46
set_option linter.all false
set_option maxRecDepth 100000
set_option maxHeartbeats 4000000
namespace Go.Proofs.YtnlgndpcddngoaaGreatDoor
open Go.Proofs.Tryz Go.RowKit Go.Maps
variable [dK] [iK]
theorem rS (q:Qt)(blk:Int)(a:q.ok)(c:0<=blk)(f:q.kd≠1->q.lv<=q.x):gL blk q (bA q blk):=by
 have d:=mQ q blk a c;have g:=a.lv;have i:=a.x;have b:q.lv<=al (q.lv+blk)/\al (q.lv+blk)<=q.lv+blk:=by unfold al;split <;> omega
 refine⟨d,?_,?_,?_,?_,?_,?_⟩ <;> unfold bA <;> split <;> first | rfl | skip
 ·exact b.1
 ·rename_i e
  have:=f e;show q.lv<=if al (q.lv+blk)<q.x then al (q.lv+blk) else q.x;split <;> omega
 ·exact b.2
 ·show (if al (q.lv+blk)<q.x then al (q.lv+blk) else q.x)<=q.lv+blk;split <;> omega
theorem ij (z:Qt)(a n:Int)(o:z.ok)(l:0<=n)(b:(aI z a n).2.c=2):(aI z a n).1.kd=z.kd/\(aI z a n).1.x=z.x/\(aI z a n).1.y=z.y/\((aI z a n).1.kd≠1->(aI z a n).1.lv<=(aI z a n).1.x)/\((aI z a n).1.wn=z.wn->z.lv<=(aI z a n).1.lv)/\(z.kd≠1->(aI z a n).1.wn=a / z.y):=by
 have m:=o.x;unfold aI at b ⊢;by_cases d:z.kd=1
 ·rw [if_pos d] at b ⊢;unfold mo at b ⊢;split at b
  ·rename_i e
   rw [if_pos e];exact⟨rfl,rfl,rfl,fun c=>absurd d c,fun _=>Int.le_refl _,fun c=>absurd d c⟩
  ·rename_i e
   rw [if_neg e];split at b
   ·simp at b
   ·rename_i i
    rw [if_neg i];split at b
    ·simp at b
    ·rename_i j
     rw [if_neg j];split at b
     ·simp at b
     ·rename_i k
      rw [if_neg k];refine⟨rfl,rfl,rfl,fun c=>absurd d c,fun _=>?_,fun c=>absurd d c⟩
      show z.lv<=bn z a+n * z.x;have p:z.lv<=bn z a:=by unfold bn;split <;> omega
      have q:0<=n * z.x:=Int.mul_nonneg l m.1;omega
 ·rw [if_neg d] at b ⊢;have f:(aG z a).kd=z.kd/\(aG z a).x=z.x/\(aG z a).y=z.y/\((aG z a).wn=z.wn->(aG z a).lv=z.lv)/\(aG z a).wn=a / z.y:=by
   unfold aG;rw [if_neg d];split
   ·rename_i c
    exact⟨rfl,rfl,rfl,fun _=>rfl,c.symm⟩
   ·rename_i c
    exact⟨rfl,rfl,rfl,fun g=>absurd g c,rfl⟩
  unfold nZ at b ⊢;split at b
  ·rename_i e
   rw [if_pos e];refine⟨f.1,f.2.1,f.2.2.1,fun _=>e,fun g=>?_,fun _=>f.2.2.2.2⟩
   have:=f.2.2.2.1 g;show z.lv<=(aG z a).lv+n;omega
  ·split at b <;> simp at b
theorem rH (db a base:Nat)(V G:Value)(fs:Fs)(b:Bool)(s:ByteArray)(l f:Int)(w:World)(t:w.heap[db]?=some (.cells #[.map (some a),V,G,.int .i64 l,.int .i64 f,.bool false] 88))(p:ak w a fs)(a7:l≠0)(a4:f≠0)
  (D:w.ownsRow base 146 3 G 1 [.int .i64 3,.string (ay b),.string s]) :
  Calls prog 258 #[pO db 0] w fun e w'=>e=.returned .nilIface/\∃ g,w'.heap[db]?=some (.cells #[.map (some a),V,.slice none 0 0,.int .i64 (aK l),.int .i64 (aK f),.bool false] 88)/\w.heap.size<=g/\ak w' a (br b fs)/\ae (fun c=>c=db\/c=a) w w':=by
 obtain⟨h,M,o,rfl,a8,a9,F,U⟩:∃ h M o,G=.slice (some ⟨h,0,none⟩) 1 M/\h≠db/\h<w.heap.size/\w.heap[h]?=some (.cells o 146 (0,0))/\o.toList.take 3=[.int .i64 3,.string (ay b),.string s]:=by
  rcases D.2 with ⟨_,i⟩ | ⟨a0,av,o,i,_,S,_,_,_,a2⟩
  ·omega
  ·subst i;exact⟨a0,av,o,rfl,ax D rfl t (by decide),am S,S,by simpa using a2⟩
 have C:a≠db:=p.map.ne t;have bs:a≠h:=p.map.ne F;have R:∀ y,y<3->o[y]?=([.int .i64 3,.string (ay b),.string s]:List Value)[y]?:=fun y a6=>by
  rw [<-U,List.getElem?_take,if_pos a6,Array.getElem?_toList]
 have L:∀ m∈fs,¬m.2.1=db:=fun m q e=>by have:=p.str m q;rw [e,t] at this;simp at this
 have HD:=aa p;have X:=aa L;have Y:=aa F;have z:=aa R;clear D p L F R U;go_enter func258,ntmps258
 go_wp2_with fail
 refine (gQ db _ _ _ l f w t a7 a4).mono ?_
 rintro e j ⟨rfl,u,x⟩;have E:=(x.block h a9 a8).trans Y.out;have N:ak j a fs:=HD.out.keep x C X.out;have bd:j.cell? ⟨h,0,none⟩=some (.int .i64 3):=(ab E 0).trans (z.out 0 (by omega));have bg:j.cell? ⟨h,1,none⟩=some (.string (ay b)):=(ab E 1).trans (z.out 1 (by omega));have bi:j.cell? ⟨h,2,none⟩=some (.string s):=(ab E 2).trans (z.out 2 (by omega));have Z:=ab u;have A:=aa N;have I:=aa x;clear N x;go_wp2_with fail
 refine wp_loop_rounds 2 ?_
 rw [rounds_succ];obtain⟨d,k⟩:∃ d,d=j.alloc (uz (.string (ay b)) s):=⟨_,rfl⟩;obtain⟨B,r⟩:∃ B,B=j.heap.size:=⟨_,rfl⟩;have a1:d.heap[B]?=some (uz (.string (ay b)) s):=by rw [r,k];exact af _ _
 have a3:d.heap[db]?=_:=k▸aB u _;have P:ak d.drew a fs:=A.out.kept (k▸ah _ _ A.out.map.lt) (fun m q=>k▸ah _ _ (am (A.out.str m q)));have Q:ae (fun _=>False) j d:=k▸(ae.refl _ j).alloc _;have W:=aa P;have K:=aa Q;have bk:=aa r;clear P Q;go_upto_region 7 with fail
 rw [<-k,<-r];clear k r bd bg bi Z;have ad:=ab a3;have ao:=ab a1;go_region_law (refine aO (by rfl) 59 io _ _ (by rfl) #[.map (some a),Un (.string (ay b)) s] (by simp only [List.map_toArray,List.map_cons,List.map_nil];rfl) (jbz a fs b s _ W.out) ?_;rintro e bj ⟨rfl,O,T⟩;refine⟨_,rfl,?_⟩;have H:=aa O;have n:=aa T;clear O T)
 all_goals (
   have a5:Hid (j.heap.size<=d.heap.size+1):=aa (lq K.out.size (Nat.le_succ _));have J:Hid (ae (fun c=>c=a) j bj):=aa ((K.out.mono (fun _ i _=>i.elim)).then (b:=d) ⟨n.out.os,n.out.tape,n.out.output,n.out.size,n.out.block⟩ (fun bb _ i=>i));have v:=(J.out.block db (am u) (fun e=>C e.symm)).trans u;have bl:=ab v;have bo:=ag v;clear ad ao n;go_wp2
   rw [rounds_succ];go_wp2
   go_ret
   have bu:=I.out.size;refine⟨rfl,d.heap.size+1,by simpa using ai v 2 (.slice none 0 0),?_,H.out.kept (ac C _ _) (fun m q=>ac (fun e=>by have:=H.out.str m q;rw [e,v] at this;simp at this) _ _),?_⟩
   · have:=a5.out;show w.heap.size<=d.heap.size+1;omega
   · refine ae.set ?_ (il (il rfl)) _ _
     exact (I.out.mono (fun bv i _=>il i)).then J.out (fun bb _ i=>ir i))
theorem jc1 (db nb:Nat)(a7:Value)(fs:Fs)(b:Bool)(s:ByteArray)(l f:Int)(w:World)(u:w.heap[db]?=some (OX a7 nb l f))(p:ak w nb fs)(b6:l≠0)(b3:f≠0)(a0:(ar b fs).isSome=true) :
  Calls prog 261 #[pO db 0,Un (.string (ay b)) s] w fun e w'=>e=.returned .nilIface/\∃ a8,w'.heap[db]?=some (ut a7 nb a8 (aK l) (aK f))/\ak w' nb (br b fs)/\w'.ownsRow w.heap.size 146 3 a8 1 [.int .i64 3,.string (ay b),.string s]/\ae (fun c=>c=db\/c=nb) w w':=by
 obtain⟨ch,b4,b9,cb,cc⟩:=info_parts Tryz.infoOp;have G:nb≠db:=p.map.ne u;obtain⟨i,j⟩:∃ i,i=w.alloc (uz (.string (ay b)) s):=⟨_,rfl⟩;obtain⟨h,t⟩:∃ h,h=w.heap.size:=⟨_,rfl⟩;have U:i.heap[h]?=some (uz (.string (ay b)) s):=by rw [t,j];exact af _ _
 have b2:i.heap[db]?=_:=j▸aB u _;have Z:ak i nb fs:=p.kept (j▸ah _ _ p.map.lt) (fun n z=>j▸ah _ _ (am (p.str n z)));have ao:ae (fun c=>c=db\/c=nb) w i:=j▸(ae.refl _ w).alloc _;have bK:h≠db:=by have:=am u;omega
 have b0:h≠nb:=by have:=p.map.lt;omega
 have a5:i.heap.size=h+1:=by rw [j,t];simp
 have P:∀ n∈fs,¬n.2.1=db:=fun n z e=>by have:=p.str n z;rw [e,u] at this;simp at this
 have HD:=aa Z;have bi:=aa ao;have bs:=aa a5;have bk:=aa t;have bo:=aa P;clear p Z ao a5 u P;go_enter func261,ntmps261
 go_upto_region 1 with fail
 rw [<-j,<-t];clear j t;go_wp2_with fail
 refine (gQ db _ _ _ l f i b2 b6 b3).mono ?_
 rintro e o ⟨rfl,E,B⟩;have D:=(B.block h (am U) bK).trans U;have V:ak o nb fs:=HD.out.keep B G bo.out;have N:=aa V;have O:=aa B;clear B V;go_upto_region 6 with fail
 obtain⟨K,I⟩:∃ K,K=ni evF (.pointer none) (ar b fs):=⟨_,rfl⟩;have b8:∃ cn,K=.pointer cn:=by
  rw [I];cases ar b fs with
  | none=>exact⟨_,rfl⟩
  | some n=>exact⟨_,rfl⟩
 obtain⟨a9,a3⟩:=b8;obtain⟨A,a2,C⟩:∃ A,A=(ar b fs).isSome/\A=true:=⟨_,rfl,a0⟩;have bl:=aa C;clear C a0;have b7:(Instr.lookup 85 (.map (some nb)) (.string (ay b)) true).run prog o.drew=.ok (.tuple #[.pointer a9,.bool A]) o.drew:=by
  have:=ap.look dq (w:=o.drew) (N.out.map.kept rfl) (k:=b) trivial underlying85 (jc9 _);rw [<-I,<-a2,a3] at this;exact this
 clear I a3 a2;have bv:=ab E;have bw:=ab D;go_cut [6,7] (fun ck cl M=>ck=.pointer a9/\cl=.bool A/\M=o.drew)
 case first=>
  go_region
  all_goals (go_wp2_with fail;go_meet)
  all_goals exact⟨rfl,rfl,rfl⟩
 case rest=>
  obtain⟨rfl,rfl,rfl⟩:=hcut;clear b7;have bg:Hid (ak o.drew.drew nb fs):=aa (N.out.kept rfl (fun _ _=>rfl));have C:=bl.out;subst C
  all_goals (
    go_upto_region 9 with fail
    go_cut [] (fun M=>∃ (d:World) (T:Nat),d=M/\o.heap.size<=T/\ak d nb (br b fs)/\ae (fun c=>c=nb) o d)
    case first=>
      go_region_law (refine aO (by rfl) 59 io _ _ (by rfl) #[.map (some nb),Un (.string (ay b)) s] (by simp only [List.map_toArray,List.map_cons,List.map_nil];rfl) (jbz nb fs b s _ bg.out) ?_;rintro e cx ⟨rfl,W,a1⟩;refine⟨_,rfl,?_⟩;have bb:=aa W;have r:=aa a1;clear W a1)
      all_goals (go_wp2_with fail;go_meet)
      all_goals exact⟨_,_,rfl,Nat.le_succ _,bb.out,⟨r.out.os,r.out.tape,r.out.output,r.out.size,r.out.block⟩⟩
    case rest=>
      obtain⟨d,T,rfl,av,X,y⟩:=hcut;have v:=(y.block db (am E) (fun e=>G e.symm)).trans E;have bF:=(y.block h (am D) b0).trans D;have a4:h+1<=d.heap.size:=by have cy:=bs.out;have cz:=O.out.size;have cF:=y.size;omega
      have bd:=aa X;have bj:=aa y;have HG:=aa av;have bu:=aa a4;have cr:=ce v (uz (.string (ay b)) s);have cp:=ab v;have cq:=ab bF;have ci:(Value.slice none 0 0).ownBlock≠some db:=by simp [Value.ownBlock]
      clear bv bw X y av a4;go_upto_region 10 with fail
      go_region_law (refine aT (by rfl) _ _ 86 146 ch (.agg #[.int .i64 0,.string ⟨#[]⟩,.string ⟨#[]⟩]) 3 40 underlying86 b4 b9 cb cc rfl (by decide) (by rfl) h (.slice none 0 0) 0 [] (by rfl) (World.ownsRow_nil _ _ _ _) ⟨d.heap.size,0,none⟩ 1 1 [.int .i64 3,.string (ay b),.string s] (by rfl) (by rfl) (ip d _ _ _ _) (by simp [Value.oneCell']) (by omega) (by omega) (by have:=bu.out;simp;omega) ?_;intro cw L H F b1;obtain⟨R,S,bz⟩:=aw H;subst bz;have x:=(F.block db (by have:=am v;simp;omega) (fun e=>ci e.symm)).trans ((ah _ _ (am v)).trans v);have cs:=ab x;have ct:=ag x;have Q:=aa H;have q:=aa F;clear H F b1)
      all_goals go_wp2
      all_goals go_ret
      all_goals (
        have cv:∀ m J,d.heap[m]?=some J->L.heap[m]?=some J:=fun m J g=>(q.out.block m (by have:=am g;show m<(d.alloc _).heap.size;simp;omega) (by simp [Value.ownBlock])).trans ((ah _ _ (am g)).trans g);have ad:ae (fun _=>False) d L:=⟨q.out.os,q.out.tape,q.out.output,lq (by show d.heap.size<=(d.alloc _).heap.size;simp) q.out.size,fun m b5 _=>(q.out.block m (by show m<(d.alloc _).heap.size;simp;omega) (by simp [Value.ownBlock])).trans (ah _ _ b5)⟩;refine⟨rfl,.slice R (0+1) S,by simpa using ai x 2 (.slice R (0+1) S),?_,?_,?_⟩
        · have Y:ak L nb (br b fs):=bd.out.keep ad (fun g=>g) (fun _ _ g=>g);exact Y.kept (ac G _ _) (fun n z=>ac (fun e=>by have:=Y.str n z;rw [e,x] at this;simp at this) _ _)
        · rw [<-bk.out];exact ownsRow_setCell_other Q.out (a:=⟨db,2,none⟩) (fun e=>ax Q.out e x (by decide) rfl) _
        · refine ae.set ?_ (il (il rfl)) _ _
          exact ((bi.out.then O.out (fun a6 _ g=>il g)).then bj.out (fun a6 _ g=>ir g)).then ad (fun a6 _ g=>g.elim)))
theorem jaL (db nb:Nat)(d:Value)(fs:Fs)(b:Bool)(l f:Int)(w:World)(h:w.heap[db]?=some (OX d nb l f))(g:ak w nb fs)(k:l≠0)(i:f≠0)(j:(ar b fs).isSome=true) :
  Calls prog 257 #[pO db 0,.string (ay b)] w fun e w'=>e=.returned .nilIface/\∃ m,w'.heap[db]?=some (ut d nb m (aK l) (aK f))/\ak w' nb (br b fs)/\w'.ownsRow w.heap.size 146 3 m 1 [.int .i64 3,.string (ay b),.string ⟨#[]⟩]/\ae (fun c=>c=db\/c=nb) w w':=by
 have n:=aa (jc1 db nb d fs b ⟨#[]⟩ l f w h g k i j);clear h g k i j;go_enter func257,ntmps257
 go_wp2_with fail
 refine n.out.mono ?_
 rintro e o ⟨rfl,a⟩;have a:=aa a;go_wp2
 go_ret
 exact⟨rfl,a.out⟩
def fQ (l f a l' b:Int)(dn:Bool):Prop:=(l=0/\a=5/\l'=0/\b=f/\dn=true)\/(l≠0/\f=0/\a=4/\l'=aK l/\b=-1/\dn=false)
theorem wu (db:Nat)(i j k:Value)(l f c l' d:Int)(dn:Bool)(w:World)(a:w.heap[db]?=some (uh i j k l f))(m:fQ l f c l' d dn) :
  Calls prog 262 #[pO db 0] w fun e w'=>e=.returned (.iface 53 (.int .i64 c))/\w'.heap[db]?=some (uE i j k l' d dn)/\ae (fun b=>b=db) w w':=by
 have n:=ab a;have o:=ag a;rcases m with ⟨rfl,rfl,rfl,rfl,rfl⟩ | ⟨g,rfl,rfl,rfl,rfl,rfl⟩
 ·go_enter func262,ntmps262
  go_wp2
  go_ret
  exact⟨rfl,by simpa using ai a 5 (.bool true),ae.set (S:=fun b=>b=db) (b:=db) (ae.refl _ w) (il rfl) _ _⟩
 ·have p:(l==0)=false:=by simpa using g
  have q:IntKind.i64.wrap (l - 1)=aK l:=rfl;clear g;go_enter func262,ntmps262
  go_wp2
  go_ret
  refine⟨rfl,by simpa using ai (ai a 3 (.int .i64 (aK l))) 4 (.int .i64 (-1)),?_⟩
  exact ae.set (S:=fun b=>b=db) (b:=db) (ae.set (S:=fun b=>b=db) (b:=db) (ae.refl _ w) (il rfl) _ _) (il rfl) _ _
theorem jc0 (db:Nat)(j k m:Value)(l f a l' c:Int)(dn:Bool)(w:World)(p:w.heap[db]?=some (uh j k m l f))(d:fQ l f a l' c dn) :
  Calls prog 258 #[pO db 0] w fun e w'=>e=.returned (.iface 53 (.int .i64 a))/\w'.heap[db]?=some (uE j k m l' c dn)/\ae (fun b=>b=db) w w':=by
 have o:=aa (wu db _ _ _ l f a l' c dn w p d);clear d;go_enter func258,ntmps258
 go_wp2_with fail
 refine o.out.mono ?_
 rintro e q ⟨rfl,g,i⟩;have n:=aa (aN g i);clear g i;go_wp2
 go_ret
 exact⟨rfl,n.out⟩
theorem jan (f:FuncId)(a:Array Value)(p:∀ k w,Sem.run prog (callFunc f k) w=.ok (.enter f k) w)(w:World)(d:Int)(R:World->Prop)
  (i:Calls prog f a (w.alloc (OD)) fun e w'=>e=.returned (.iface 53 (.int .i64 d))/\w'.heap[w.heap.size]?=some (OD)/\R w') :
  Calls prog 116 #[.func (.func f) #[] a] w fun e w'=>e=.returned (.iface 53 (.int .i64 d))/\∃ b,R b/\b.heap[w.heap.size]?=some (OD)/\w'=b.setCell ⟨w.heap.size,0,none⟩ (.iface 53 (.int .i64 d)):=by
 have t:∀ (g:Fn) (first a:Array Value) (w:World),(Instr.makeFunc g first a).run prog w=.ok (.func g first a) w:=fun _ _ _ _=>rfl;have m:=aa i;clear i;have s:=p a;have r:(#[]:Array Value) ++ a=a:=by simp
 go_enter_defers func116,ntmps116
 go_wp2_with fail
 refine m.out.mono ?_
 rintro e b ⟨rfl,c,j⟩;have o:=ab c;have q:=ag c;have n:=aa j;have l:=aa c;clear j c;go_wp2
 refine leaves_cons (f:=144) (args:=#[pO w.heap.size 0]) (by simp) (by simp [go_sem]) ?_
 refine (fH ⟨w.heap.size,0,none⟩ _).mono ?_
 rintro e u v ⟨rfl,rfl,rfl⟩;simp [Leaves,settle,results,results116,go_sem,o];exact⟨b,n.out,l.out,rfl⟩
abbrev opr (a:Int)(b s:ByteArray):List Value:=[.int .i64 a,.string b,.string s]
theorem jfo (w:World):Sem.run prog (binOp .eql 97 (.iface 53 (.int .i64 5)) (.iface 53 (.int .i64 5))) w=.ok (.bool true) w:=by kernel_rfl
theorem jfn (w:World):Sem.run prog (binOp .eql 97 (.iface 53 (.int .i64 4)) (.iface 53 (.int .i64 5))) w=.ok (.bool false) w:=by kernel_rfl
def PdE (w w':World)(a:Value)(dn:Bool)(b:Int)(c s:ByteArray):Prop:=if dn then w'.ownsRow w.heap.size 146 3 a 1 (opr b c s) else a=.slice none 0 0
theorem je2 (db:Nat)(M N:Value)(n:Int)(o s:ByteArray)(l f u l' v:Int)(dn:Bool)(w:World)(x:w.heap[db]?=some (OV M N l f))(d:fQ l f u l' v dn) :
  Calls prog 261 #[pO db 0,.agg #[.int .i64 n,.string o,.string s]] w fun e w'=>e=.returned (.iface 53 (.int .i64 u))/\∃ O,w'.heap[db]?=some (uE M N O l' v dn)/\PdE w w' O dn n o s/\ae (fun c=>c=db) w w':=by
 obtain⟨a2,ad,av,a0,a1⟩:=info_parts Tryz.infoOp;obtain⟨i,k⟩:∃ i,i=w.alloc (uq n o s):=⟨_,rfl⟩;obtain⟨g,q⟩:∃ g,g=w.heap.size:=⟨_,rfl⟩;have F:i.heap[g]?=some (uq n o s):=by rw [q,k];exact af _ _
 have H:i.heap[db]?=_:=k▸aB x _;have G:ae (fun c=>c=db) w i:=k▸(ae.refl _ w).alloc _;have Y:g≠db:=by have:=am x;omega
 have J:i.heap.size=g+1:=by rw [k,q];simp
 have B:=aa G;have R:=aa J;have Q:=aa q;have P:=aa d;have U:=aa (wu db _ _ _ l f u l' v dn i H d);clear G J x d H;go_enter func261,ntmps261
 go_upto_region 1 with fail
 rw [<-k,<-q];clear k q;go_wp2_with fail
 refine U.out.mono ?_
 rintro e j ⟨rfl,m,z⟩;have W:=(z.block g (am F) Y).trans F;have t:=aa z;clear z;rcases P.out with ⟨_,rfl,rfl,rfl,rfl⟩ | ⟨_,_,rfl,rfl,rfl,rfl⟩
 ·have I:g+1<=j.heap.size:=by have bi:=R.out;have bj:=t.out.size;omega
  have a7:=ce m (uq n o s);have a5:=ab m;have a6:=ab W;have a3:(Value.slice none 0 0).ownBlock≠some db:=by simp [Value.ownBlock]
  have T:=aa I;have bd:=jfo;clear I;go_upto_region 4 with fail
  go_region_law (refine aT (by rfl) _ _ 86 146 a2 (.agg #[.int .i64 0,.string ⟨#[]⟩,.string ⟨#[]⟩]) 3 40 underlying86 ad av a0 a1 rfl (by decide) (by rfl) g (.slice none 0 0) 0 [] (by rfl) (World.ownsRow_nil _ _ _ _) ⟨j.heap.size,0,none⟩ 1 1 [.int .i64 n,.string o,.string s] (by rfl) (by rfl) (ip j _ _ _ _) (by simp [Value.oneCell']) (by omega) (by omega) (by have:=T.out;simp;omega) ?_;intro bg a4 A y Z;obtain⟨D,E,V⟩:=aw A;subst V;have r:=(y.block db (by have:=am m;simp;omega) (fun e=>a3 e.symm)).trans ((ah _ _ (am m)).trans m);have a8:=ab r;have a9:=ag r;have C:=aa A;have p:=aa y;clear A y Z)
  all_goals go_wp2
  all_goals go_ret
  all_goals (
    have X:ae (fun _=>False) j a4:=⟨p.out.os,p.out.tape,p.out.output,lq (by show j.heap.size<=(j.alloc _).heap.size;simp) p.out.size,fun L ao _=>(p.out.block L (by show L<(j.alloc _).heap.size;simp;omega) (by simp [Value.ownBlock])).trans (ah _ _ ao)⟩;refine⟨rfl,.slice D (0+1) E,by simpa using ai r 2 (.slice D (0+1) E),?_,?_⟩
    · show World.ownsRow _ _ _ _ _ _ _;rw [<-Q.out];exact ownsRow_setCell_other C.out (a:=⟨db,2,none⟩) (fun e=>ax C.out e r (by decide) rfl) _
    · exact ae.set (S:=fun c=>c=db) (b:=db) ((B.out.then t.out (fun K _ d=>d)).then X (fun K _ d=>d.elim)) (il rfl) _ _)
 ·have bb:=jfn;go_wp2
  go_ret
  exact⟨rfl,_,m,rfl,B.out.then t.out (fun K _ d=>d)⟩
theorem putE (db base a n E:Nat)(z A:Value)(B:ByteArray)(bs:List Int)(l f t l' u:Int)(dn:Bool)(w:World)(v:w.heap[db]?=some (OV z A l f))(b:fQ l f t l' u dn)
  (y:bs.length=n) (a2:n<=4000000) (o:w.ownsRow base 5 1 (.slice (some ⟨a,0,none⟩) n E) n (bs.map (Value.int .u8))) :
  Calls prog 263 #[pO db 0,.int .i64 1,.string B,.slice (some ⟨a,0,none⟩) n E] w fun e w'=>e=.returned (.iface 53 (.int .i64 t))/\∃ q,w'.heap[db]?=some (uE z A q l' u dn)/\PdE w w' q dn 1 B (strOfNums bs)/\ae (fun c=>c=db\/c=a) w w':=by
 have I:=gk o y;obtain⟨C,K⟩:∃ C,C=strOfNums bs:=⟨_,rfl⟩;rw [<-K] at I ⊢;have L:a≠db:=ax o rfl v (by decide);have W:a<w.heap.size:=(aj o (g:=a) rfl).2;obtain⟨F,H,S⟩:∃ p,w.heap[a]?=some (.cells p 5 (0,0))/\n<=p.size:=by
  rcases o.2 with ⟨b,_⟩ | ⟨G,Y,p,b,_,T,Z,_,ad,_⟩
  ·simp at b
  ·simp at b;obtain⟨Q,R⟩:=b;subst Q R;exact⟨p,T,by omega⟩
 have O:=aa (je2 db z A 1 B C l f t l' u dn w v b);have N:=aa H;have X:=aa y;clear o v H y K b;go_enter func263,ntmps263
 go_wp2_with fail
 refine O.out.mono ?_
 rintro e r ⟨rfl,q,m,i,j⟩;have V:r.heap[a]?=some (.cells F 5 (0,0)):=(j.block a W L).trans N.out;have P:=aa (aN m (aN i j));have M:Hid (nU r r a n):=aa ⟨ae.refl _ _,F,V,S⟩;have a3:=j.size;clear m i j I;go_wp2_with fail
 go_loopw [20] (fun D wr=>∃ d:Nat,d<=n/\D=.int .i64 d/\nU r wr a n) (fun D _=>n - (intOf D).toNat)
 case atStart=>exact⟨0,by omega,rfl,M.out⟩
 case round=>
  obtain⟨d,av,rfl,k⟩:=hrel;by_cases U:d<n
  ·have a1:(d:Int)<(n:Int):=by omega
   have a0:(0:Int)<=(d:Int):=by omega
   obtain⟨⟨a7,a4⟩,ao⟩:=k.cell d U;have s:=aa k;clear k;go_wp2
   go_roundw
   case rel=>exact⟨d+1,by omega,by go_num,s.out.step d _⟩
   case measure=>simp [intOf];omega
  ·obtain rfl:d=n:=by omega
   have s:=aa k;clear k;go_wp2
   go_ret
   obtain⟨m,i,j⟩:=P.out;have x:=s.out.keep;refine⟨rfl,q,(x.block db (am m) (fun e=>L e.symm)).trans m,?_,?_⟩
   ·unfold PdE at i ⊢;cases dn
    ·exact i
    ·exact aq i (fun G J=>x.block G (aj i J).2 (fun e=>by have:=(aj i J).1;omega))
   ·exact (j.mono (fun a6 b _=>il b)).then x (fun a5 _ b=>ir b)
theorem jfW (db base a n d:Nat)(j k:Value)(m:ByteArray)(bs:List Int)(l f g l' i:Int)(dn:Bool)(w:World)(p:w.heap[db]?=some (OV j k l f))(o:fQ l f g l' i dn)
  (q:bs.length=n) (u:n<=4000000) (r:w.ownsRow base 5 1 (.slice (some ⟨a,0,none⟩) n d) n (bs.map (Value.int .u8))) :
  Calls prog 259 #[pO db 0,.string m,.slice (some ⟨a,0,none⟩) n d] w fun e w'=>e=.returned (.iface 53 (.int .i64 g))/\∃ s,w'.heap[db]?=some (uE j k s l' i dn)/\PdE w w' s dn 1 m (strOfNums bs)/\ae (fun c=>c=db\/c=a) w w':=by
 have t:=aa (putE db base a n d j k m bs l f g l' i dn w p o q u r);clear p o r q;go_enter func259,ntmps259
 go_wp2_with fail
 refine t.out.mono ?_
 rintro e v ⟨rfl,b⟩;have b:=aa b;go_wp2
 go_ret
 exact⟨rfl,b.out⟩
theorem jeu (db:Nat)(g i:Value)(j:ByteArray)(l f b l' d:Int)(dn:Bool)(w:World)(m:w.heap[db]?=some (OV g i l f))(k:fQ l f b l' d dn) :
  Calls prog 257 #[pO db 0,.string j] w fun e w'=>e=.returned (.iface 53 (.int .i64 b))/\∃ n,w'.heap[db]?=some (uE g i n l' d dn)/\PdE w w' n dn 3 j ⟨#[]⟩/\ae (fun c=>c=db) w w':=by
 have o:=aa (je2 db g i 3 j ⟨#[]⟩ l f b l' d dn w m k);clear m k;go_enter func257,ntmps257
 go_wp2_with fail
 refine o.out.mono ?_
 rintro e p ⟨rfl,a⟩;have a:=aa a;go_wp2
 go_ret
 exact⟨rfl,a.out⟩
abbrev Pd:=Option (Bool×Option ByteArray)
abbrev Pd.no:Pd:=none
abbrev Pd.wr (b:Bool)(s:ByteArray):Pd:=some (b,some s)
abbrev Pd.rm (b:Bool):Pd:=some (b,none)
def fX (w:World)(c:Value):Pd->Prop
 | none=>c=.slice none 0 0
 | some (b,some s)=>∃ a,w.ownsRow a 146 3 c 1 (opr 1 (ay b) s)
 | some (b,none)=>∃ a,w.ownsRow a 146 3 c 1 (opr 3 (ay b) ⟨#[]⟩)
theorem fX.kept {w w':World}{b:Value}{pd:Pd}(a:fX w b pd)(c:∀ g,b.ownBlock=some g->w'.heap[g]?=w.heap[g]?):fX w' b pd:=
 match pd,a with
 | none,a=>a
 | some (_,some _),⟨base,a⟩=>⟨base,aq a c⟩
 | some (_,none),⟨base,a⟩=>⟨base,aq a c⟩
structure iG (w:World)(db:Nat)(fsD fsN:Fs)(pd:Pd)(dn:Bool)(F:NP):Prop where
 mem:∃ mb nb pv l f,w.heap[db]?=some (OF mb nb pv l f dn)/\ak w mb fsD/\ak w nb fsN/\fX w pv pd/\(∀ g,pv.ownBlock=some g->F g)/\F mb/\F nb/\mb≠nb
 sD:∀ p∈fsD,F p.2.1
 sN:∀ p∈fsN,F p.2.1
 own:F db
 lt:∀ b,F b->b<w.heap.size
theorem iG.kept {w w':World}{db:Nat}{fsD fsN:Fs}{pd:Pd}{dn:Bool}{F:NP}(a:iG w db fsD fsN pd dn F)(t:w.heap.size<=w'.heap.size)(c:∀ b,F b->w'.heap[b]?=w.heap[b]?):iG w' db fsD fsN pd dn F:=by
 obtain⟨k,nb,v,u,l,m,n,o,p,g,i,j,q⟩:=a.mem;exact⟨⟨k,nb,v,u,l,(c db a.own).trans m,n.kept (c k i) (fun e d=>c _ (a.sD e d)),o.kept (c nb j) (fun e d=>c _ (a.sN e d)),p.kept (fun f s=>c f (g f s)),g,i,j,q⟩,a.sD,a.sN,a.own,fun b r=>ll (a.lt b r) t⟩
def FlO (Z:Prop)(b:Bool)(s:ByteArray)(fsN a:Fs)(pd:Pd)(dn:Bool):Prop:=(pd=.no/\dn=false/\a=fsN)\/(pd=.wr b s/\(dn=true/\Z\/dn=false/\∃ c,a=aJ b (c,s) fsN))
def eY (Z:Prop)(w w':World)(g db:Nat)(turn k:Int)(e:Es)(fsD fsN:Fs)(F:NP):Prop:=
 ∃ (i:List Ky) (j:Pd) (d:Bool) (f:Fs) (b:NP),i.Perm (e.map Prod.fst)/\aY w' g db (au turn)/\iG w' db fsD f j d b/\FlO Z (au turn % 2==1) (strOfNums (aX (au turn) k e i)) fsN f j d/\(∀ a,b a->F a\/w.heap.size<=a)/\ae (fun c=>c=g\/F c) w w'
theorem nQ (g db b:Nat)(d:Es)(turn j:Int)(fsD fsN:Fs)(F:NP)(w:World)(bg:aH w b d)(a6:(d.map Prod.fst).Nodup)(cq:∀ p∈d,p.1.ok)(cs:∀ p∈d,p.2.2.fit)(c9:d.length<=12)(dm:0<=turn)(ds:turn<=18446744073709551615)(c4:0<=j)(c5:j<=18446744073709551615)
  (B:aY w g db turn) {bv:Bu}(V:bP w db bv fsD fsN F) (u v:Nat) (l f a2 l' bb:Int) (dn:Bool) (cl:w.heap[db]?=some (ox u v l f)) (ci:fQ l f a2 l' bb dn) {Z:Prop}(cU:Hid (dn=true->Z)) (X:¬F g) (dl:¬F b) (ck:b≠g) :
  Calls prog 161 #[pO g 0,.int .u64 j,.func (.func 143) #[.map (some b)] #[]] w fun e w'=>e=.returned (.iface 53 (.int .i64 a2))/\eY Z w w' g db turn j d fsD fsN F:=by
 obtain⟨c,W⟩:∃ c,c=au turn:=⟨_,rfl⟩;have a4:U7 c:=by rw [W];unfold au;omega
 have dN:IntKind.u64.wrap (turn+1)=c:=by rw [W,IntKind.wrap_u64];rfl
 unfold eY;rw [<-W];have d1:=B.lt;have dR:=ap.lt bg;have d0:=V.lt db V.own;have bk:g≠db:=fun e=>X (e▸V.own);obtain⟨k,C⟩:∃ k,k=w.setCell ⟨g,260,none⟩ (.int .u64 c):=⟨_,rfl⟩;have bi:aY k g db c:=by
  rw [C];exact⟨fun t Y=>by rw [World.frozen?_setCell];exact B.fro t Y,(World.cell?_setCell_other _ _ _ _ (by simp)).trans B.dsk,B.tab.set (ir (by omega)) _,World.cell?_setCell_same _ _ _ B.turn,(World.cell?_setCell_other _ _ _ _ (by simp)).trans B.err⟩
 have b8:bP k db bv fsD fsN F:=V.kept (by rw [C];simp) (fun m a5=>by rw [C];exact ac (fun (e:m=g)=>X (e▸a5)) _ _);have b9:aH k b d:=ap.kept bg (by rw [C];exact ac ck _ _);have cb:ae (fun m=>m=g\/F m) w k:=C▸(ae.refl _ w).set (il (il rfl)) _ _;have ct:k.heap.size=w.heap.size:=by rw [C,World.size_setCell]
 have cV:=B.turn;have cX:=B.fro 260 (by omega);have b1:=aa (mg g 1 b d c j k.drew (b9.kept rfl) a6 cq cs c9 a4.1 a4.2 c4 c5 (bi.tab.block rfl) (by show g<k.heap.size;omega) ck);have cx:Hid (k.heap[db]?=some (ox u v l f)):=aa (by rw [C,ac (fun e=>bk e.symm)];exact cl);have b2:=aa ci;have T:=aa bi;have N:=aa b8;have cF:=aa cb;have b0:=aa ct;have dk:=aa W;clear cl ci B V bg a6 cq cs bi b8 b9 cb ct W;go_enter func161,ntmps161
 go_upto_region 2 with fail
 rw [<-C];clear C cV cX;have c0:=T.out.turn;go_cut [7] (fun df bu=>∃ (D:World) (A I:Nat) (i:List Ky),D=bu/\df=.slice (some ⟨A,0,none⟩) (aX c j d i).length I/\i.Perm (d.map Prod.fst)/\k.heap.size<=A/\D.ownsRow k.heap.size 5 1 (.slice (some ⟨A,0,none⟩) (aX c j d i).length I) (aX c j d i).length ((aX c j d i).map (Value.int .u8))/\bJ k D g 1)
 case first=>
  go_region_law (refine aO (by rfl) 180 sr _ _ (by rfl) #[pO g 1,.int .u64 c,.int .u64 j,.func (.func 143) #[.map (some b)] #[]] (by simp only [List.map_toArray,List.map_cons,List.map_nil];rfl) b1.out ?_;rintro e y ⟨A,I,i,rfl,o,U,b4,b5⟩;refine⟨_,rfl,?_⟩;have a8:=aa o;have a9:=aa U;have cv:=aa b4;have H:=aa b5;clear o U b4 b5)
  all_goals (go_wp2_with fail;go_meet)
  all_goals exact⟨y,A,I,i,rfl,rfl,a8.out,a9.out,cv.out,H.out.tab,fun t Y=>H.out.cel t Y,⟨H.out.keep.os,H.out.keep.tape,H.out.keep.output,H.out.keep.size,H.out.keep.block⟩⟩
 case rest=>
  obtain⟨y,A,I,i,rfl,rfl,n,cn,a7,s⟩:=hcut;obtain⟨ao,P⟩:∃ ao,ao=(aX c j d i).length:=⟨_,rfl⟩;obtain⟨a1,J⟩:∃ a1,a1=aX c j d i:=⟨_,rfl⟩;rw [<-J] at P a7;rw [<-J,<-P];rw [<-P] at a7;have c8:ao<=4000000:=by
   have c3:=ew c j d i;have dt:i.length=d.length:=by rw [n.length_eq,List.length_map]
   rw [P,J];unfold aX;rw [List.length_append,c3];simp [bI];omega
  have a3:aY y g db c:=by
   refine⟨fun t Y=>?_,(s.cel 0 (il (by omega))).1.trans T.out.dsk,s.tab,(s.cel 260 (ir (by omega))).1.trans T.out.turn,(s.cel 261 (ir (by omega))).1.trans T.out.err⟩
   by_cases o:t<1\/260<=t
   ·exact (s.cel t (by omega)).2.trans (T.out.fro t Y)
   ·have:=s.tab.fro (t - 1) (by omega);rwa [show 1+(t - 1)=t by omega] at this
  have bd:bP y db bv fsD fsN F:=N.out.kept s.keep.size (fun m a5=>s.keep.block m (N.out.lt m a5) (fun (e:m=g)=>X (e▸a5)));have bj:y.heap[db]?=some (ox u v l f):=(s.keep.block db (by have:=b0.out;omega) (fun e=>bk e.symm)).trans cx.out;obtain⟨d8,nb,d5,dv,r,Q,R,bo,bs,K,L,ad⟩:=bd.mem;rw [bj] at r;simp at r;obtain⟨rfl,rfl,rfl,rfl⟩:=r;have r:=bj;clear bj;have c7:=gz (.pointer (some ⟨db,0,none⟩));have c1:=a3.dsk;have c2:=a3.turn;have b3:=aa (jfW db k.heap.size A ao I (.map (some u)) (.map (some v)) (ay (c % 2==1)) a1 l f a2 l' bb dn y.drew r b2.out P.symm c8 a7);have bw:=aa (cK c y.drew a4.1 a4.2);have bK:=aa a3;have M:=aa bd;have bF:=aa s;have bz:=aa n;have cw:=aa J;have cz:=aa cn;have cG:=aa (aN r (aN Q (aN R (aN bo bs))));have cy:=aa (aN K (aN L ad));clear a3 bd s n J cn r Q R bo bs K L ad a7 P b1 c0;go_upto_region 3 with fail
  go_cut [8] (fun di bu=>∃ (D:World) (x:Value),D=bu/\di=.iface 53 (.int .i64 a2)/\D.heap[db]?=some (OF u v x l' bb dn)/\PdE y D x dn 1 (ay (c % 2==1)) (strOfNums a1)/\ae (fun m=>m=db\/m=A) y D)
  case first=>
   go_region_law (first
     | (refine aO (by rfl) 147 gi _ _ (by rfl) #[.int .u64 c] (by simp only [List.map_toArray,List.map_cons,List.map_nil];rfl) bw.out ?_;rintro e G ⟨rfl,rfl⟩;refine⟨_,rfl,?_⟩)
     | (refine gI (by rfl) 259 "Write" 78 (.pointer (some ⟨db,0,none⟩)) c7 sd _ _ _ (by rfl) (by rfl) #[.string (ay (c % 2==1)),.slice (some ⟨A,0,none⟩) ao I] (by simp only [List.map_toArray,List.map_cons,List.map_nil];rfl) b3.out ?_;rintro e G ⟨rfl,x,o,U,b6⟩;refine⟨_,rfl,?_⟩;have a8:=aa o;have a9:=aa U;have S:=aa b6;clear o U b6))
   all_goals (go_wp2_with fail;go_meet)
   all_goals exact⟨G,x,rfl,rfl,a8.out,a9.out,⟨S.out.os,S.out.tape,S.out.output,S.out.size,S.out.block⟩⟩
  case rest=>
   obtain⟨G,x,rfl,rfl,av,a0,E⟩:=hcut;have cR:=aa (aN av (aN a0 E));clear av a0 E c1 c2 b3 bw;go_wp2
   go_ret
   obtain⟨av,a0,E⟩:=cR.out;obtain⟨r,Q,R,bo,bs⟩:=cG.out;obtain⟨K,L,ad⟩:=cy.out;have J:=cw.out;subst J;have eg:=b0.out;have ef:=cz.out;have d9:=bF.out.keep.size;have eb:=E.size;have O:=N.out.lt;have d6:=O _ K;have d7:=O _ L;have d3:g≠v:=fun e=>X (e▸L);have d2:g≠u:=fun e=>X (e▸K);have ch:aY G g db c:=bK.out.kept (E.block g bK.out.lt (fun a=>by rcases a with a | a;exact bk a;omega));have c6:u≠db:=Q.map.ne r;have a6:v≠db:=R.map.ne r;have b7:ak G u fsD:=Q.keep E (fun a=>by
     rcases a with a | a
     · exact c6 a
     · omega) (fun p n a=>by
     have o:=Q.str p n;rcases a with a | a
     · rw [a,r] at o;simp at o
     · have:=O _ (M.out.sD p n);omega)
   have cc:ak G v fsN:=R.keep E (fun a=>by
     rcases a with a | a
     · exact a6 a
     · omega) (fun p n a=>by
     have o:=R.str p n;rcases a with a | a
     · rw [a,r] at o;simp at o
     · have:=O _ (M.out.sN p n);omega)
   have cp:ae (fun m=>m=g\/F m) w G:=(cF.out.then bF.out.keep (fun dd _ a=>il a)).then E (fun dd d4 a=>by
     rcases a with a | a
     · exact ir (a▸N.out.own)
     · omega)
   rcases b2.out with ⟨_,rfl,rfl,rfl,rfl⟩ | ⟨_,_,rfl,rfl,rfl,rfl⟩
   ·have bl:G.ownsRow y.heap.size 146 3 x 1 (opr 1 (ay (c % 2==1)) (strOfNums (aX c j d i))):=a0;refine⟨rfl,i,.wr (c % 2==1) (strOfNums (aX c j d i)),true,fsN,fun z=>F z\/x.ownBlock=some z,bz.out,ch,⟨⟨u,v,x,_,_,av,b7,cc,⟨_,bl⟩,fun z q=>ir q,il K,il L,ad⟩,fun p n=>il (M.out.sD p n),fun p n=>il (M.out.sN p n),il N.out.own,fun z q=>?_⟩,ir ⟨rfl,il ⟨rfl,cU.out rfl⟩⟩,fun z q=>?_,cp⟩
    ·rcases q with a | a
     ·have:=O z a;omega
     ·exact (aj bl a).2
    ·rcases q with a | a
     ·exact il a
     ·have:=(aj bl a).1;exact ir (by omega)
   ·have cr:x=.slice none 0 0:=a0;exact⟨rfl,i,.no,false,fsN,F,bz.out,ch,⟨⟨u,v,x,_,_,av,b7,cc,cr,fun z q=>by rw [cr] at q;simp [Value.ownBlock] at q,K,L,ad⟩,M.out.sD,M.out.sN,N.out.own,fun z q=>by have:=O z q;omega⟩,il ⟨rfl,rfl,rfl⟩,fun z q=>il q,cp⟩
theorem nS (g db b:Nat)(i:Es)(turn m:Int)(fsD fsN:Fs)(F:NP)(w:World)(bu:aH w b i)(a7:(i.map Prod.fst).Nodup)(cy:∀ p∈i,p.1.ok)(cz:∀ p∈i,p.2.2.fit)(d3:i.length<=12)(d8:0<=turn)(d9:turn<=18446744073709551615)(dR:0<=m)(d0:m<=18446744073709551615)
  (A:aY w g db turn) {b5:Bu}(Y:bP w db b5 fsD fsN F) (r s:Nat) (l f bl l' bo:Int) (dn:Bool) (cv:w.heap[db]?=some (ox r s l f)) (dN:l≠0) (ds:f≠0) (cs:fQ (aK l) (aK f) bl l' bo dn) {Z:Prop}(c7:Hid (dn=true->Z)) (ao:¬F g) (d7:¬F b) (ct:b≠g) :
  Calls prog 161 #[pO g 0,.int .u64 m,.func (.func 143) #[.map (some b)] #[]] w fun e w'=>e=.returned (.iface 53 (.int .i64 bl))/\eY Z w w' g db turn m i fsD fsN F:=by
 obtain⟨c,ad⟩:∃ c,c=au turn:=⟨_,rfl⟩;have a4:U7 c:=by rw [ad];unfold au;omega
 have ei:IntKind.u64.wrap (turn+1)=c:=by rw [ad,IntKind.wrap_u64];rfl
 unfold eY;rw [<-ad];have el:=A.lt;have ej:=ap.lt bu;have ek:=Y.lt db Y.own;have a6:g≠db:=fun e=>ao (e▸Y.own);obtain⟨n,B⟩:∃ n,n=w.setCell ⟨g,260,none⟩ (.int .u64 c):=⟨_,rfl⟩;have bz:aY n g db c:=by
  rw [B];exact⟨fun u av=>by rw [World.frozen?_setCell];exact A.fro u av,(World.cell?_setCell_other _ _ _ _ (by simp)).trans A.dsk,A.tab.set (ir (by omega)) _,World.cell?_setCell_same _ _ _ A.turn,(World.cell?_setCell_other _ _ _ _ (by simp)).trans A.err⟩
 have cn:bP n db b5 fsD fsN F:=Y.kept (by rw [B];simp) (fun d a5=>by rw [B];exact ac (fun (e:d=g)=>ao (e▸a5)) _ _);have cp:aH n b i:=ap.kept bu (by rw [B];exact ac ct _ _);have cq:ae (fun d=>d=g\/F d) w n:=B▸(ae.refl _ w).set (il (il rfl)) _ _;have cF:n.heap.size=w.heap.size:=by rw [B,World.size_setCell]
 have c8:=A.turn;have c9:=A.fro 260 (by omega);have ch:=aa (mg g 1 b i c m n.drew (cp.kept rfl) a7 cy cz d3 a4.1 a4.2 dR d0 (bz.tab.block rfl) (by show g<n.heap.size;omega) ct);have cU:Hid (n.heap[db]?=some (ox r s l f)):=aa (by rw [B,ac (fun e=>a6 e.symm)];exact cv);have c6:=aa cs;have T:=aa bz;have M:=aa cn;have c0:=aa cq;have cc:=aa cF;have d6:=aa ad;clear cv cs A Y bu a7 cy cz bz cn cp cq cF ad;go_enter func161,ntmps161
 go_upto_region 2 with fail
 rw [<-B];clear B c8 c9;have dd:=T.out.turn;go_cut [7] (fun d4 b4=>∃ (y:World) (z H:Nat) (k:List Ky),y=b4/\d4=.slice (some ⟨z,0,none⟩) (aX c m i k).length H/\k.Perm (i.map Prod.fst)/\n.heap.size<=z/\y.ownsRow n.heap.size 5 1 (.slice (some ⟨z,0,none⟩) (aX c m i k).length H) (aX c m i k).length ((aX c m i k).map (Value.int .u8))/\bJ n y g 1)
 case first=>
  go_region_law (refine aO (by rfl) 180 sr _ _ (by rfl) #[pO g 1,.int .u64 c,.int .u64 m,.func (.func 143) #[.map (some b)] #[]] (by simp only [List.map_toArray,List.map_cons,List.map_nil];rfl) ch.out ?_;rintro e v ⟨z,H,k,rfl,j,V,W,X⟩;refine⟨_,rfl,?_⟩;have bd:=aa j;have bg:=aa V;have bi:=aa W;have x:=aa X;clear j V W X)
  all_goals (go_wp2_with fail;go_meet)
  all_goals exact⟨v,z,H,k,rfl,rfl,bd.out,bg.out,bi.out,x.out.tab,fun u av=>x.out.cel u av,⟨x.out.keep.os,x.out.keep.tape,x.out.keep.output,x.out.keep.size,x.out.keep.block⟩⟩
 case rest=>
  obtain⟨v,z,H,k,rfl,rfl,o,cw,a8,t⟩:=hcut;obtain⟨a1,N⟩:∃ a1,a1=(aX c m i k).length:=⟨_,rfl⟩;obtain⟨U,I⟩:∃ U,U=aX c m i k:=⟨_,rfl⟩;rw [<-I] at N a8;rw [<-I,<-N];rw [<-N] at a8;have d2:a1<=4000000:=by
   have dk:=ew c m i k;have ef:k.length=i.length:=by rw [o.length_eq,List.length_map]
   rw [N,I];unfold aX;rw [List.length_append,dk];simp [bI];omega
  have a3:aY v g db c:=by
   refine⟨fun u av=>?_,(t.cel 0 (il (by omega))).1.trans T.out.dsk,t.tab,(t.cel 260 (ir (by omega))).1.trans T.out.turn,(t.cel 261 (ir (by omega))).1.trans T.out.err⟩
   by_cases j:u<1\/260<=u
   ·exact (t.cel u (by omega)).2.trans (T.out.fro u av)
   ·have:=t.tab.fro (u - 1) (by omega);rwa [show 1+(u - 1)=u by omega] at this
  have bs:bP v db b5 fsD fsN F:=M.out.kept t.keep.size (fun d a5=>t.keep.block d (M.out.lt d a5) (fun (e:d=g)=>ao (e▸a5)));have bF:v.heap[db]?=some (ox r s l f):=(t.keep.block db (by have:=cc.out;omega) (fun e=>a6 e.symm)).trans cU.out;obtain⟨eq,nb,eo,eg,q,J,K,b0,b1,O,P,a0⟩:=bs.mem;rw [bF] at q;simp at q;obtain⟨rfl,rfl,rfl,rfl⟩:=q;have q:=bF;clear bF;have d1:=gz (.pointer (some ⟨db,0,none⟩));have df:=a3.dsk;have di:=a3.turn;have ci:=aa (rN db s n.heap.size z a1 H (.map (some r)) fsN (c % 2==1) U l f v.drew q (K.kept rfl (fun _ _=>rfl)) dN ds N.symm d2 a8);have b7:=aa (cK c v.drew a4.1 a4.2);have b9:=aa a3;have bj:=aa bs;have b8:=aa t;have c2:=aa o;have cR:=aa I;have cX:=aa cw;have c1:=aa (aN q (aN J (aN K (aN b0 b1))));have cV:=aa (aN O (aN P a0));clear a3 bs t o I cw q J K b0 b1 O P a0 a8 N ch dd;go_upto_region 3 with fail
  go_cut [8] (fun d5 b4=>∃ (y:World) (C:Value) (d:Nat),y=b4/\d5=.nilIface/\y.heap[db]?=some (OR r s C (aK l) (aK f))/\v.heap.size<=d/\ak y s (aJ (c % 2==1) (d,strOfNums U) fsN)/\y.ownsRow v.heap.size 146 3 C 1 [.int .i64 1,.string (ay (c % 2==1)),.string (strOfNums U)]/\ae (fun d=>d=db\/d=s\/d=z) v y)
  case first=>
   go_region_law (first
     | (refine aO (by rfl) 147 gi _ _ (by rfl) #[.int .u64 c] (by simp only [List.map_toArray,List.map_cons,List.map_nil];rfl) b7.out ?_;rintro e R ⟨rfl,rfl⟩;refine⟨_,rfl,?_⟩)
     | (refine gI (by rfl) 259 "Write" 78 (.pointer (some ⟨db,0,none⟩)) d1 sd _ _ _ (by rfl) (by rfl) #[.string (ay (c % 2==1)),.slice (some ⟨z,0,none⟩) a1 H] (by simp only [List.map_toArray,List.map_cons,List.map_nil];rfl) ci.out ?_;rintro e R ⟨rfl,C,d,j,V,W,X,ck⟩;refine⟨_,rfl,?_⟩;have bd:=aa j;have bg:=aa V;have bi:=aa W;have x:=aa X;have S:=aa ck;clear j V W X ck))
   all_goals (go_wp2_with fail;go_meet)
   all_goals exact⟨R,C,d,rfl,rfl,bd.out,bg.out,bi.out,x.out,⟨S.out.os,S.out.tape,S.out.output,S.out.size,S.out.block⟩⟩
  case rest=>
   obtain⟨R,C,d,rfl,rfl,b2,b3,a2,Q,L⟩:=hcut;obtain⟨q,J,K,b0,b1⟩:=c1.out;obtain⟨O,P,a0⟩:=cV.out;have dt:g≠s:=fun e=>ao (e▸P);have em:g≠r:=fun e=>ao (e▸O);have ey:=cc.out;have ev:=cX.out;have er:=b8.out.keep.size;have es:=L.size;have bv:=M.out.lt;have bw:aY R g db c:=b9.out.kept (L.block g b9.out.lt (fun a=>by rcases a with a | a | a;exact a6 a;exact dt a;omega));have cx:r≠db:=J.map.ne q;have a7:s≠db:=K.map.ne q;have cl:ak R r fsD:=J.keep L (fun a=>by
     rcases a with a | a | a
     · exact cx a
     · exact a0 a
     · have:=bv r O;omega) (fun p o a=>by
     have j:=J.str p o;rcases a with a | a | a
     · rw [a,q] at j;simp at j
     · rw [a] at j;exact K.map.ne j rfl
     · have:=bv _ (bj.out.sD p o);omega)
   have en:=ex (.pointer (some ⟨db,0,none⟩));have eb:=bw.dsk;have c5:=aa (jc0 db (.map (some r)) (.map (some s)) C (aK l) (aK f) bl l' bo dn R b2 c6.out);have c3:=aa (aN b3 (aN a2 (aN Q L)));have bk:=aa b2;have b6:=aa cl;have cb:=aa bw;clear b2 b3 a2 Q L cl bw df di q J K ci b7;go_wp2_with fail
   refine c5.out.mono ?_
   rintro e bb ⟨rfl,a9,D⟩;have c4:=aa (aN a9 D);clear a9 D;go_wp2
   go_ret
   obtain⟨a9,D⟩:=c4.out;obtain⟨b3,a2,Q,L⟩:=c3.out;have et:=D.size;have I:=cR.out;subst I;have dm:aY bb g db c:=cb.out.kept (D.block g cb.out.lt a6);have cr:ak bb s (aJ (c % 2==1) (d,strOfNums (aX c m i k)) fsN):=a2.keep D a7 (fun p o a=>by
     have j:=a2.str p o;rw [a,bk.out] at j;simp at j)
   have dl:ak bb r fsD:=b6.out.keep D cx (fun p o a=>by
     have j:=b6.out.str p o;rw [a,bk.out] at j;simp at j)
   have bK:bb.ownsRow v.heap.size 146 3 C 1 (opr 1 (ay (c % 2==1)) (strOfNums (aX c m i k))):=aq Q (fun E G=>D.block E (aj Q G).2 (ax Q G bk.out (by decide)));refine⟨rfl,k,.wr (c % 2==1) (strOfNums (aX c m i k)),dn,aJ (c % 2==1) (d,strOfNums (aX c m i k)) fsN,fun E=>F E\/E=d\/C.ownBlock=some E,c2.out,dm,⟨⟨r,s,C,l',bo,a9,dl,cr,⟨_,bK⟩,fun E G=>ir (ir G),il O,il P,a0⟩,fun p o=>il (bj.out.sD p o),fun p o=>?_,il M.out.own,fun E G=>?_⟩,ir ⟨rfl,?_⟩,fun E G=>?_,?_⟩
   ·rcases cS o with a | a
    ·exact il (bj.out.sN p a)
    ·subst a;exact ir (il rfl)
   ·rcases G with a | a | a
    ·have:=bv E a;omega
    ·rw [a];exact am (cr.str _ (fe _ _ _))
    ·exact (aj bK a).2
   ·cases dn
    ·exact ir ⟨rfl,d,rfl⟩
    ·exact il ⟨rfl,c7.out rfl⟩
   ·rcases G with a | a | a
    ·exact il a
    ·right;omega
    ·have:=(aj bK a).1;right;omega
   ·refine ((c0.out.then b8.out.keep (fun cG _ a=>il a)).then L (fun cG dv a=>?_)).then D (fun cG dv a=>ir (a▸M.out.own))
    rcases a with a | a | a
    ·exact ir (a▸M.out.own)
    ·exact ir (a▸P)
    ·omega
def cJ (a:Int):Value:=.iface 53 (.int .i64 a)
def IsE (v:Value):Prop:=v=.nilIface\/∃ a,v=cJ a
theorem jao (f:FuncId)(a:Array Value)(o:∀ m w,Sem.run prog (callFunc f m) w=.ok (.enter f m) w)(w:World)(R:Value->World->Prop)
  (k:Calls prog f a (w.alloc (OD)) fun e w'=>∃ v,e=.returned v/\IsE v/\w'.heap[w.heap.size]?=some (OD)/\R v w') :
  Calls prog 116 #[.func (.func f) #[] a] w fun e w'=>∃ v,e=.returned v/\∃ b,R v b/\b.heap[w.heap.size]?=some (OD)/\w'=b.setCell ⟨w.heap.size,0,none⟩ v:=by
 have y:∀ (j:Fn) (first a:Array Value) (w:World),(Instr.makeFunc j first a).run prog w=.ok (.func j first a) w:=fun _ _ _ _=>rfl;have n:=aa k;clear k;have x:=o a;have t:(#[]:Array Value) ++ a=a:=by simp
 go_enter_defers func116,ntmps116
 go_wp2_with fail
 refine n.out.mono ?_
 rintro e b ⟨v,rfl,p,c,l⟩;have i:=ab c;have s:=ag c;have d:=aa l;have g:=aa c;clear l c;rcases p with rfl | ⟨u,rfl⟩
 ·go_wp2
  refine leaves_cons (f:=144) (args:=#[pO w.heap.size 0]) (by simp) (by simp [go_sem]) ?_
  refine (fH ⟨w.heap.size,0,none⟩ _).mono ?_
  rintro e q r ⟨rfl,rfl,rfl⟩;simp [Leaves,settle,results,results116,go_sem,i];exact⟨b,d.out,g.out,rfl⟩
 ·unfold cJ at d ⊢;go_wp2
  refine leaves_cons (f:=144) (args:=#[pO w.heap.size 0]) (by simp) (by simp [go_sem]) ?_
  refine (fH ⟨w.heap.size,0,none⟩ _).mono ?_
  rintro e q r ⟨rfl,rfl,rfl⟩;simp [Leaves,settle,results,results116,go_sem,i];exact⟨b,d.out,g.out,rfl⟩
theorem jbg (g:Nat)(f:FuncId)(d:Array Value)(z:∀ p w,Sem.run prog (callFunc f p) w=.ok (.enter f p) w)(w:World)(R:Value->World->Prop)(r:w.cell? ⟨g,261,none⟩=some .nilIface)(C:g<w.heap.size)
  (j:Calls prog f d (w.alloc (OD)) fun e w'=>∃ v,e=.returned v/\IsE v/\w'.heap[w.heap.size]?=some (OD)/\(w'.cell? ⟨g,261,none⟩=some .nilIface/\w'.frozen? ⟨g,261,none⟩=false)/\R v w') :
  Calls prog 159 #[pO g 0,.func (.func f) #[] d] w fun e w'=>∃ v,e=.returned v/\∃ b,R v b/\w'=(b.setCell ⟨w.heap.size,0,none⟩ v).setCell ⟨g,261,none⟩ v:=by
 have HG:=aa (jao f d z w (fun v w'=>IsE v/\(w'.cell? ⟨g,261,none⟩=some .nilIface/\w'.frozen? ⟨g,261,none⟩=false)/\R v w') (j.mono (fun e w' ⟨v,t,i,u,x⟩=>⟨v,t,i,u,i,x⟩)));clear j;go_enter func159,ntmps159
 go_wp2_with fail
 refine HG.out.mono ?_
 rintro e q ⟨v,rfl,b,⟨A,⟨n,l⟩,k⟩,y,c⟩;have m:∀ o:Nat,(⟨w.heap.size,0,none⟩:Addr)≠⟨g,o,none⟩:=fun o e=>by injection e with e;omega
 have D:q.cell? ⟨g,261,none⟩=some .nilIface:=by rw [c];exact (World.cell?_setCell_other _ _ _ _ (m 261)).trans n
 have B:q.frozen? ⟨g,261,none⟩=false:=by rw [c,World.frozen?_setCell];exact l
 have a:=aa (aN k c);clear k c y n l r m;rcases A with rfl | ⟨s,rfl⟩
 ·go_wp2
  go_ret
  exact⟨.nilIface,rfl,b,a.out.1,by rw [a.out.2]⟩
 ·unfold cJ at a ⊢;go_wp2
  go_ret
  exact⟨cJ s,rfl,b,a.out.1,by rw [a.out.2];rfl⟩
theorem jbh (g:Nat)(a:Int)(b:Value)(w:World)(c:w.cell? ⟨g,261,none⟩=some (.iface 53 (.int .i64 a))) :
  Calls prog 159 #[pO g 0,b] w fun e w'=>e=.returned (.iface 53 (.int .i64 a))/\B7 w w':=by
 go_enter func159,ntmps159
 go_wp2
 go_ret
 exact⟨rfl,Below.refl _ _⟩
theorem bP.two {w:World}{db:Nat}{d:Bu}{fsD fsN:Fs}{F:NP}(a:bP w db d fsD fsN F){q nb:Nat}{l f:Int}(b:w.heap[db]?=some (ox q nb l f))(e:l≠0)(g:aK l≠0)(i:f≠0)(j:aK f≠0):bP w db ((d.dn 2).up 2) fsD fsN F:=by
 obtain⟨r,s,u,t,c,k,m,n,o,p⟩:=a.mem;rw [c] at b;simp at b;obtain⟨_,_,rfl,rfl⟩:=b;exact⟨⟨r,s,_,_,c,k,m,n.two e g,o.two i j,p⟩,a.sD,a.sN,a.own,a.lt⟩
theorem bP.few {w:World}{db:Nat}{b:Bu}{fsD fsN:Fs}{F:NP}(c:bP w db b fsD fsN F){i nb:Nat}{l f:Int}(a:w.heap[db]?=some (ox i nb l f))(d:l=0\/aK l=0):b.l<2:=by
 obtain⟨q,r,k,j,e,m,n,g,o,p⟩:=c.mem;rw [e] at a;simp at a;obtain⟨_,_,rfl,rfl⟩:=a;exact g.few d
theorem bP.bear {w:World}{db:Nat}{c:Bu}{fsD fsN:Fs}{F:NP}(a:bP w db c fsD fsN F){j nb:Nat}{l f:Int}(b:w.heap[db]?=some (ox j nb l f))(g:l=0\/aK l=0\/f=0\/aK f=0):c.l<2\/c.f<2:=by
 obtain⟨q,r,m,k,i,n,o,d,e,p⟩:=a.mem;rw [i] at b;simp at b;obtain⟨_,_,rfl,rfl⟩:=b;rcases g with a | a | a | a
 ·exact il (d.few (il a))
 ·exact il (d.few (ir a))
 ·exact ir (e.few (il a))
 ·exact ir (e.few (ir a))
theorem eY.set {Z:Prop}{w V w':World}{g db:Nat}{turn j:Int}{e:Es}{fsD fsN:Fs}{F:NP}(a:eY Z V w' g db turn j e fsD fsN F){x:Nat}(B:x<V.heap.size)(r:¬F x)(t:x≠g)(i:ae (fun _=>False) w V)(u:w.heap.size<=x)(y:Nat)(v:Value):eY Z w (w'.setCell ⟨x,y,none⟩ v) g db turn j e fsD fsN F:=by
 obtain⟨z,A,l,m,k,n,o,p,s,f,q⟩:=a;refine⟨z,A,l,m,k,n,o.kept (ac (fun c=>t c.symm) _ _),p.kept (by rw [World.size_setCell];exact lz) (fun b d=>ac (fun c=>?_) _ _),s,fun b d=>(f b d).imp id (fun a=>lq i.size a),((i.mono (fun _ a _=>a.elim)).trans q).set (ir u) _ _⟩
 subst c;rcases f b d with a | a
 ·exact r a
 ·omega
def ku (Z:Prop)(w w':World)(g db:Nat)(turn l:Int)(e:Es)(fsD fsN:Fs)(F:NP)(k:Int):Prop:=
 ∃ (i:List Ky) (j:Pd) (d:Bool) (f:Fs) (b:NP),i.Perm (e.map Prod.fst)/\w'.cell? ⟨g,261,none⟩=some (cJ k)/\iG w' db fsD f j d b/\FlO Z (au turn % 2==1) (strOfNums (aX (au turn) l e i)) fsN f j d/\(∀ a,b a->F a\/w.heap.size<=a)/\ae (fun c=>c=g\/F c) w w'
theorem eY.ill {Z:Prop}{w w':World}{g db:Nat}{turn e:Int}{c:Es}{fsD fsN:Fs}{F:NP}(a:eY Z w w' g db turn e c fsD fsN F)(q:¬F g)(v:g<w.heap.size)(b:Int):ku Z w (w'.setCell ⟨g,261,none⟩ (cJ b)) g db turn e c fsD fsN F b:=by
 obtain⟨t,u,j,l,f,m,n,o,s,d,p⟩:=a;refine⟨t,u,j,l,f,m,World.cell?_setCell_same _ _ _ n.err,o.kept (by rw [World.size_setCell];exact lz) (fun i r=>ac (fun k=>?_) _ _),s,d,p.set (il (il rfl)) _ _⟩
 subst k;rcases d i r with a | a
 ·exact q a
 ·omega
theorem ku.from {Z:Prop}{w V w':World}{g db:Nat}{turn e:Int}{c:Es}{fsD fsN:Fs}{F:NP}{b:Int}(a:ku Z V w' g db turn e c fsD fsN F b)(d:ae (fun _=>False) w V):ku Z w w' g db turn e c fsD fsN F b:=by
 obtain⟨s,t,j,k,f,l,m,n,r,o,p⟩:=a;exact⟨s,t,j,k,f,l,m,n,r,fun i q=>(o i q).imp id (fun a=>lq d.size a),(d.mono (fun _ a _=>a.elim)).trans p⟩
def jk (l f:Int):Prop:=l≠0/\f≠0/\aK l≠0/\aK f≠0
structure ie (κ:Bu)(l f:Int)(w:World)(g db b:Nat)(turn time:Int)(es:Es)(fsD fsN:Fs)(F:NP):Prop where
 e:aH w b es
 nd:(es.map Prod.fst).Nodup
 ok:∀ p∈es,p.1.ok
 fit:∀ p∈es,p.2.2.fit
 sz:es.length<=12
 t0:0<=turn
 t1:turn<=18446744073709551615
 m0:0<=time
 m1:time<=18446744073709551615
 s:aY w g db turn
 d:bP w db κ fsD fsN F
 lf:∃ mb nb,w.heap[db]?=some (ox mb nb l f)
 gF:¬F g
 bF:¬F b
 bg:b≠g
theorem ie.to {j:Bu}{l f:Int}{w V:World}{g db b:Nat}{turn i:Int}{e:Es}{fsD fsN:Fs}{F:NP}(a:ie j l f w g db b turn i e fsD fsN F)(c:ae (fun _=>False) w V):ie j l f V g db b turn i e fsD fsN F:=
 ⟨ap.kept a.e (c.block b (ap.lt a.e) (fun a=>a)),a.nd,a.ok,a.fit,a.sz,a.t0,a.t1,a.m0,a.m1,a.s.kept (c.block g a.s.lt (fun a=>a)),a.d.kept c.size (fun d k=>c.block d (a.d.lt d k) (fun a=>a)),by
   obtain⟨n,nb,m⟩:=a.lf;exact⟨n,nb,(c.block db (a.d.lt db a.d.own) (fun a=>a)).trans m⟩,a.gF,a.bF,a.bg⟩
theorem ie.few {a:Bu}{l f:Int}{w:World}{g db b:Nat}{turn o:Int}{k:Es}{fsD fsN:Fs}{F:NP}(c:ie a l f w g db b turn o k fsD fsN F)(m:¬jk l f):a.l<2\/a.f<2:=by
 obtain⟨p,nb,n⟩:=c.lf;refine c.d.bear n ?_
 by_cases d:l=0
 ·exact il d
 by_cases e:aK l=0
 ·exact ir (il e)
 by_cases i:f=0
 ·exact ir (ir (il i))
 by_cases j:aK f=0
 ·exact ir (ir (ir j))
 exact absurd ⟨d,i,e,j⟩ m
def jbe (c:Bu)(l f:Int)(w w':World)(g db:Nat)(turn b:Int)(a:Es)(fsD fsN:Fs)(F:NP)(v:Value):Prop:=(v=.nilIface/\jk l f/\cO w w' g db (c.dn 2) turn b a fsD fsN F)\/∃ d,v=cJ d/\¬jk l f/\eY (c.l<2) w w' g db turn b a fsD fsN F
theorem rG (o:Bu)(l f:Int)(g db b:Nat)(turn i:Int)(j:Es)(fsD fsN:Fs)(F:NP)(w:World)(a:ie o l f w g db b turn i j fsD fsN F) :
  Calls prog 161 #[pO g 0,.int .u64 i,.func (.func 143) #[.map (some b)] #[]] w fun e w'=>∃ v,e=.returned v/\jbe o l f w w' g db turn i j fsD fsN F v:=by
 obtain⟨q,nb,n⟩:=a.lf;have r:l=0\/aK l=0->o.l<2:=a.d.few n;by_cases d:l=0
 ·refine (nQ g db b j turn i fsD fsN F w a.e a.nd a.ok a.fit a.sz a.t0 a.t1 a.m0 a.m1 a.s a.d q nb l f 5 0 f true n (il ⟨d,rfl,rfl,rfl,rfl⟩) (aa fun _=>r (il d)) a.gF a.bF a.bg).mono ?_
  rintro e w' ⟨rfl,c⟩;exact⟨_,rfl,ir ⟨5,rfl,(fun a=>a.1 d),c⟩⟩
 by_cases k:f=0
 ·refine (nQ g db b j turn i fsD fsN F w a.e a.nd a.ok a.fit a.sz a.t0 a.t1 a.m0 a.m1 a.s a.d q nb l f 4 (aK l) (-1) false n (ir ⟨d,k,rfl,rfl,rfl,rfl⟩) (Z:=o.l<2) (aa (fun a=>by cases a)) a.gF a.bF a.bg).mono ?_
  rintro e w' ⟨rfl,c⟩;exact⟨_,rfl,ir ⟨4,rfl,(fun a=>a.2.1 k),c⟩⟩
 by_cases m:aK l=0
 ·refine (nS g db b j turn i fsD fsN F w a.e a.nd a.ok a.fit a.sz a.t0 a.t1 a.m0 a.m1 a.s a.d q nb l f 5 0 (aK f) true n d k (il ⟨m,rfl,rfl,rfl,rfl⟩) (aa fun _=>r (ir m)) a.gF a.bF a.bg).mono ?_
  rintro e w' ⟨rfl,c⟩;exact⟨_,rfl,ir ⟨5,rfl,(fun a=>a.2.2.1 m),c⟩⟩
 by_cases p:aK f=0
 ·refine (nS g db b j turn i fsD fsN F w a.e a.nd a.ok a.fit a.sz a.t0 a.t1 a.m0 a.m1 a.s a.d q nb l f 4 (aK (aK l)) (-1) false n d k (ir ⟨m,p,rfl,rfl,rfl,rfl⟩) (Z:=o.l<2) (aa (fun a=>by cases a)) a.gF a.bF a.bg).mono ?_
  rintro e w' ⟨rfl,c⟩;exact⟨_,rfl,ir ⟨4,rfl,(fun a=>a.2.2.2 p),c⟩⟩
 refine (lW g db b (o.dn 2) j turn i fsD fsN F w a.e a.nd a.ok a.fit a.sz a.t0 a.t1 a.m0 a.m1 a.s (a.d.two n d m k p) a.gF a.bF a.bg).mono ?_
 rintro e w' ⟨rfl,c⟩;exact⟨_,rfl,il ⟨rfl,⟨d,k,m,p⟩,c⟩⟩
theorem jb3 (n:Bu)(l f:Int)(o B C g db b:Nat)(turn c:Int)(k:Es)(fsD fsN:Fs)(F:NP)(w:World)(a:ie n l f w g db b turn c k fsD fsN F)
  (r:w.heap[o]?=some (oW g)) (s:w.heap[B]?=some (uf c)) (t:w.heap[C]?=some (.cells #[.func (.func 143) #[.map (some b)] #[]] 278)) :
  Calls prog 172 #[pO o 0,.pointer (some ⟨B,0,none⟩),.pointer (some ⟨C,0,none⟩)] w fun e w'=>∃ v,e=.returned v/\IsE v/\jbe n l f w w' g db turn c k fsD fsN F v:=by
 have q:=aa (rG n l f g db b turn c k fsD fsN F w a);have u:=ab r;have x:=ab s;have y:=ab t;clear a;go_enter func172,ntmps172
 go_wp2_with fail
 refine q.out.mono ?_
 rintro e z ⟨v,rfl,m⟩;have p:IsE v:=m.imp (fun a=>a.1) (fun ⟨j,a,_⟩=>⟨j,a⟩);have d:=aa p;have i:=aa m;clear m;rcases p with rfl | ⟨j,rfl⟩
 ·go_wp2
  go_ret
  exact⟨.nilIface,rfl,d.out,i.out⟩
 ·unfold cJ at i d ⊢;go_wp2
  go_ret
  exact⟨cJ j,rfl,d.out,i.out⟩
def jbd (d:Bu)(l f:Int)(w w':World)(g db:Nat)(turn c:Int)(b:Es)(fsD fsN:Fs)(F:NP)(v:Value):Prop:=(v=.nilIface/\jk l f/\cO w w' g db (d.dn 2) turn c b fsD fsN F)\/∃ a,v=cJ a/\¬jk l f/\ku (d.l<2) w w' g db turn c b fsD fsN F a
theorem askX (n:Bu)(l f:Int)(k B C g db b:Nat)(turn i:Int)(m:Es)(fsD fsN:Fs)(F:NP)(w:World)(c:ie n l f w g db b turn i m fsD fsN F)
  (y:w.heap[k]?=some (oW g)) (d:w.heap[B]?=some (uf i)) (z:w.heap[C]?=some (.cells #[.func (.func 143) #[.map (some b)] #[]] 278)) :
  Calls prog 159 #[pO g 0,.func (.func 172) #[] #[pO k 0,.pointer (some ⟨B,0,none⟩),.pointer (some ⟨C,0,none⟩)]] w fun e w'=>∃ v,e=.returned v/\jbd n l f w w' g db turn i m fsD fsN F v:=by
 have s:=c.s.lt;have r:ae (fun _=>False) w (w.alloc (OD)):=(ae.refl _ w).alloc _;have q:¬F w.heap.size:=fun A=>by have:=c.d.lt _ A;omega
 refine (jbg g 172 #[pO k 0,.pointer (some ⟨B,0,none⟩),.pointer (some ⟨C,0,none⟩)] vo w (fun v j=>jbe n l f (w.alloc (OD)) j g db turn i m fsD fsN F v) c.s.err s (by
   refine (jb3 n l f k B C g db b turn i m fsD fsN F _ (c.to r) (aB y _) (aB d _) (aB z _)).mono ?_
   rintro e j ⟨v,rfl,E,a⟩;have t:ae (fun u=>u=g\/F u) (w.alloc (OD)) j/\aY j g db (au turn):=by
     rcases a with ⟨_,_,a⟩ | ⟨_,_,_,a⟩
     · obtain⟨_,_,_,_,_,o,_,_,p⟩:=a;exact⟨p,o⟩
     · obtain⟨_,_,_,_,_,_,o,_,_,_,p⟩:=a;exact⟨p,o⟩
   refine⟨v,rfl,E,?_,⟨t.2.err,t.2.fro 261 (by omega)⟩,a⟩
   exact (t.1.block w.heap.size (by simp) (fun D=>D.elim (fun e=>by omega) q)).trans (af _ _))).mono ?_
 rintro e w' ⟨v,rfl,j,a,rfl⟩;refine⟨v,rfl,?_⟩
 rcases a with ⟨rfl,d,a⟩ | ⟨x,rfl,d,a⟩
 ·exact il ⟨rfl,d,(a.set (by simp) q (by omega) r lz _ _).err c.gF s⟩
 ·exact ir ⟨x,rfl,d,(a.set (by simp) q (by omega) r lz _ _).ill c.gF s x⟩
theorem jb0 (m:Bu)(l f:Int)(g db b:Nat)(turn d:Int)(k:Es)(fsD fsN:Fs)(F:NP)(w:World)(a:ie m l f w g db b turn d k fsD fsN F) :
  Calls prog 154 #[pO g 0,.int .u64 d,.func (.func 143) #[.map (some b)] #[]] w fun e w'=>∃ v,e=.returned v/\jbd m l f w w' g db turn d k fsD fsN F v:=by
 have G:∀ (s:Fn) (first r:Array Value) (w:World),(Instr.makeFunc s first r).run prog w=.ok (.func s first r) w:=fun _ _ _ _=>rfl;obtain⟨c,i⟩:∃ c,c=((w.alloc (oW g)).alloc (uf d)).alloc (.cells #[.func (.func 143) #[.map (some b)] #[]] 278):=⟨_,rfl⟩;have t:c.heap[w.heap.size]?=some (oW g):=i▸aB (aB (af _ _) _) _;have A:c.heap[w.heap.size+1]?=some (uf d):=i▸aB (aC (by simp)) _;have B:c.heap[w.heap.size+2]?=some (.cells #[.func (.func 143) #[.map (some b)] #[]] 278):=i▸aC (by simp);have o:ae (fun _=>False) w c:=i▸(((ae.refl _ w).alloc _).alloc _).alloc _;have u:=aa (askX m l f w.heap.size (w.heap.size+1) (w.heap.size+2) g db b turn d k fsD fsN F c (a.to o) t A B);have q:=aa o;have E:=ab t;clear a o;go_enter func154,ntmps154
 go_upto_region 1 with fail
 rw [<-i];clear i;go_wp2_with fail
 refine u.out.mono ?_
 rintro e D ⟨v,rfl,p⟩;have C:IsE v:=p.imp (fun a=>a.1) (fun ⟨j,a,_⟩=>⟨j,a⟩);have n:Hid (jbd m l f w D g db turn d k fsD fsN F v):=aa (p.imp (fun a=>⟨a.1,a.2.1,a.2.2.from q.out⟩) (fun ⟨j,x,y,z⟩=>⟨j,x,y,z.from q.out⟩));clear p;rcases C with rfl | ⟨j,rfl⟩
 ·go_wp2
  go_ret
  exact⟨.nilIface,rfl,n.out⟩
 ·unfold cJ at n ⊢;go_wp2
  go_ret
  exact⟨cJ j,rfl,n.out⟩
theorem jbZ (i:Bu)(l f:Int)(k:¬jk l f)(g db b:Nat)(turn c:Int)(d:Es)(fsD fsN:Fs)(F:NP)(w:World)(j:ie i l f w g db b turn c d fsD fsN F) :
  Calls prog 154 #[pO g 0,.int .u64 c,.func (.func 143) #[.map (some b)] #[]] w fun e w'=>∃ a,e=.returned (cJ a)/\ku (i.l<2) w w' g db turn c d fsD fsN F a:=by
 refine (jb0 i l f g db b turn c d fsD fsN F w j).mono ?_
 rintro e w' ⟨o,rfl,⟨_,n,_⟩ | ⟨a,rfl,_,m⟩⟩
 ·exact absurd n k
 ·exact⟨a,rfl,m⟩
theorem jdQ (g b:Nat)(c n:Int)(w:World)(f:w.cell? ⟨g,261,none⟩=some (cJ c)) :
  Calls prog 154 #[pO g 0,.int .u64 n,.func (.func 143) #[.map (some b)] #[]] w fun e w'=>e=.returned (cJ c)/\B7 w w':=by
 have u:∀ (l:Fn) (first k:Array Value) (w:World),(Instr.makeFunc l first k).run prog w=.ok (.func l first k) w:=fun _ _ _ _=>rfl;obtain⟨a,d⟩:∃ a,a=((w.alloc (oW g)).alloc (uf n)).alloc (.cells #[.func (.func 143) #[.map (some b)] #[]] 278):=⟨_,rfl⟩;have r:a.heap[w.heap.size]?=some (oW g):=d▸aB (aB (af _ _) _) _;have s:=bT f;have i:B7 w a:=d▸((ba w).alloc (by simp) _).alloc (by simp;omega) _;have j:a.cell? ⟨g,261,none⟩=some (cJ c):=(World.cell?_of_block (w:=w) (i.block g s)).trans f;have o:=aa (fun q=>jbh g c q a j);have t:=ab r;clear f j;go_enter func154,ntmps154
 go_upto_region 1 with fail
 rw [<-d];clear d;go_wp2_with fail
 refine (o.out _).mono ?_
 rintro e v ⟨rfl,m⟩;have p:=aa m;clear m;go_wp2
 go_ret
 exact⟨rfl,i.trans (p.out.mono i.size)⟩
theorem qu (a:Option Addr)(c:Nat)(b:Value)(w:World):Calls prog 146 #[.slice a 0 c,b] w fun e w'=>e=.returned (.bool false)/\w'=w:=
 AnyE.slices_Contains_empty (P:=prog) (ρ:=Con.ren) Con.lays a c b w
theorem pA (a:Option Addr)(c:Nat)(w:World):Calls prog 145 #[.slice a 0 c] w fun e w'=>e=.returned (.bool false)/\w'=w:=by
 have b:=aa (cK 0 w (by omega) (by omega));have d:=aa (cK 1 w (by omega) (by omega));go_enter func145,ntmps145
 go_wp2
 refine wp_loop_rounds 3 ?_
 rw [rounds_succ];go_wp2_with fail
 refine b.out.mono ?_
 rintro e w' ⟨rfl,rfl⟩;go_wp2_with fail
 refine (qu _ _ _ _).mono ?_
 rintro e w' ⟨rfl,rfl⟩;go_wp2_with fail
 rw [rounds_succ];go_wp2_with fail
 refine d.out.mono ?_
 rintro e w' ⟨rfl,rfl⟩;go_wp2_with fail
 refine (qu _ _ _ _).mono ?_
 rintro e w' ⟨rfl,rfl⟩;go_wp2_with fail
 rw [rounds_succ];go_wp2
 go_ret
 exact⟨rfl,rfl⟩
theorem jdT (g db nb:Nat)(k l m n:Value)(w:World)(f:w.cell? ⟨g,0,none⟩=some (.iface 78 (.pointer (some ⟨db,0,none⟩))))(s:w.heap[db]?=some (uC k nb l m n))(c:ak w nb []) :
  Calls prog 118 #[pO g 0] w fun e w'=>e=.returned (.tuple #[Og,.nilIface])/\B7 w w':=by
 obtain⟨a,b⟩:∃ a,a=w.alloc (oG):=⟨_,rfl⟩;have H:=bT f;have E:a.heap[w.heap.size]?=some (oG):=b▸af _ _;have G:a.cell? ⟨g,0,none⟩=some (.iface 78 (.pointer (some ⟨db,0,none⟩))):=by rw [b,World.cell?_alloc_lt _ _ ⟨g,0,none⟩ H];exact f
 have t:a.heap[db]?=_:=b▸aB s _;have q:ak a nb []:=c.kept (b▸ah _ _ c.map.lt) (fun N J=>by cases J);have p:B7 w a:=b▸ba w;have M:=eT (.pointer (some ⟨db,0,none⟩));have z:=aa (iX db nb k l m n [] a t q);have u:a.heap.size=w.heap.size+1:=by rw [b];simp
 have i:=aa u;have x:=aa p;clear c q s t p u f;go_enter func118,ntmps118
 go_upto_region 1 with fail
 rw [<-b];clear b;go_wp2_with fail
 refine z.out.mono ?_
 rintro e Q ⟨P,j,rfl,r,_,I,d⟩;have F:j=[]:=by
  cases j with
  | nil=>rfl
  | cons K O=>exact absurd ((r K).1 (by simp)) (by simp [ar])
 subst F;obtain⟨A,C,rfl,_⟩:=I;have o:=(d.block w.heap.size (by have:=i.out;omega)).trans E;have D:=ab o;have L:=ag o;have y:=aa d;clear d r G;go_wp2_with fail
 refine (pA A C _).mono ?_
 rintro e w' ⟨rfl,rfl⟩;go_wp2
 refine bodyPost_ret (v:=.tuple #[Og,.nilIface]) (by simp [results,results118,go_sem,D]) rfl ⟨rfl,?_⟩
 have B:B7 w w':=x.out.trans (y.out.mono (by have:=i.out;omega));exact ((B.setCell lz _).setCell lz _).setCell lz _
theorem tq (f B g db nb:Nat)(i j k l:Value)(w:World)(t:w.heap[f]?=some (oW g))(m:w.heap[B]?=some (oG))(p:w.cell? ⟨g,0,none⟩=some (.iface 78 (.pointer (some ⟨db,0,none⟩))))(o:w.heap[db]?=some (uC i nb j k l))(n:ak w nb []) :
  Calls prog 117 #[pO f 0,.pointer (some ⟨B,0,none⟩)] w fun e w'=>e=.returned .nilIface/\w'.heap[B]?=some (oG)/\ae (fun c=>c=B) w w':=by
 have r:=aa (jdT g db nb i j k l w p o n);have s:=ab t;have u:=am m;clear p o n;go_enter func117,ntmps117
 go_wp2_with fail
 refine r.out.mono ?_
 rintro e y ⟨rfl,d⟩;have a:=(d.block B u).trans m;have v:=ab a;have x:=ag a;have q:=aa d;clear d s;go_wp2
 go_ret
 refine⟨rfl,by simpa using ai (ai (ai a 0 (.int .u64 0)) 1 (.int .u64 0)) 2 (.slice none 0 0),?_⟩
 exact ae.set (S:=fun c=>c=B) (b:=B) (ae.set (S:=fun c=>c=B) (b:=B) (ae.set (S:=fun c=>c=B) (b:=B) (ae.of_below q.out) (il rfl) _ _) (il rfl) _ _) (il rfl) _ _
theorem gj (a:Array Value)(w:World):Sem.run prog (callFunc 117 a) w=.ok (.enter 117 a) w:=by simp [go_sem]
theorem jC (db:Nat):∃ a:Array Value,a=Tryz.zeroCells230.setIfInBounds 0 (.iface 78 (.pointer (some ⟨db,0,none⟩)))/\a[0]?=some (.iface 78 (.pointer (some ⟨db,0,none⟩)))/\a[1]?=some (.int .u32 0)/\a[2]?=some (.int .i32 0)/\(∀ c,c<256->a[1+3+c]?=some (.int .u64 0))/\a[260]?=some (.int .u64 0)/\a[261]?=some .nilIface:=by
 have b:Tryz.zeroCells230.setIfInBounds 0 (.iface 78 (.pointer (some ⟨db,0,none⟩)))=(#[(.iface 78 (.pointer (some ⟨db,0,none⟩))),.int .u32 0,.int .i32 0,.int .u32 0] ++ Array.replicate 256 (.int .u64 0) ++ #[.int .u64 0,.nilIface]:Array Value):=by kernel_rfl
 refine⟨_,rfl,?_,?_,?_,fun c d=>?_,?_,?_⟩
 ·rw [b];kernel_rfl
 ·rw [b];kernel_rfl
 ·rw [b];kernel_rfl
 ·rw [b,Array.getElem?_append_left (by simp;omega),Array.getElem?_append_right (by simp),Array.getElem?_replicate,if_pos (by simp;omega)]
 ·rw [b];kernel_rfl
 ·rw [b];kernel_rfl
theorem rE (db nb:Nat)(P u x Q:Value)(w:World)(K:w.heap[db]?=some (uC P nb u x Q))(I:ak w nb []) :
  Calls prog 76 #[.iface 78 (.pointer (some ⟨db,0,none⟩))] w fun e w'=>∃ g,e=.returned (.tuple #[pO g 0,Og,.nilIface])/\w.heap.size<=g/\aY w' g db 0/\B7 w w':=by
 have bs:∀ (T:Fn) (first R:Array Value) (w:World),(Instr.makeFunc T first R).run prog w=.ok (.func T first R) w:=fun _ _ _ _=>rfl;obtain⟨M,a1,k,o,p,q,l,r⟩:=jC db;obtain⟨a,f⟩:∃ a,a=(((w.alloc (oG)).alloc (.cells M 230)).alloc (.cells #[.pointer (some ⟨w.heap.size+1,0,none⟩)] 122)).alloc (oG):=⟨_,rfl⟩;have V:a.heap[w.heap.size]?=some (oG):=f▸aB (aB (aB (af _ _) _) _) _;have G:a.heap[w.heap.size+1]?=some (.cells M 230):=f▸aB (aB (aC (by simp)) _) _;have H:a.heap[w.heap.size+2]?=some (.cells #[.pointer (some ⟨w.heap.size+1,0,none⟩)] 122):=f▸aB (aC (by simp)) _;have W:a.heap[w.heap.size+3]?=some (oG):=f▸aC (by simp);have a0:a.heap.size=w.heap.size+4:=by rw [f];simp
 have y:B7 w a:=f▸(((ba w).alloc (by simp) _).alloc (by simp;omega) _).alloc (by simp;omega) _;have ad:=(y.block db (am K)).trans K;have J:ak a nb []:=I.kept (y.block nb I.map.lt) (fun bg L=>by cases L);have HG:=aa (kS 117 #[.pointer (some ⟨w.heap.size+2,0,none⟩),.pointer (some ⟨w.heap.size+3,0,none⟩)] gj a (fun C=>C.heap[w.heap.size+3]?=some (oG)/\ae (fun t=>t=w.heap.size+3) (a.alloc (OD)) C) (by
   refine (tq (w.heap.size+2) (w.heap.size+3) (w.heap.size+1) db nb P u x Q _ (aB H _) (aB W _) ((ab (aB G _) 0).trans k) (aB ad _) (J.kept (ah _ _ J.map.lt) (fun bg L=>by cases L))).mono ?_
   rintro e C ⟨rfl,A,j⟩;refine⟨rfl,?_,A,j⟩
   exact (j.block a.heap.size (by simp) (fun e=>by omega)).trans (af _ _)))
 have N:=aa y;have a4:=aa a0;have a5:=aa (aN k (aN o (aN p (aN q (aN l r)))));clear I J K ad y a0 k o p q l r;go_enter func76,ntmps76
 go_upto_region 3 with fail
 rw [<-a1,<-f];clear f a1;go_wp2_with fail
 refine HG.out.mono ?_
 rintro e B ⟨rfl,C,⟨A,j⟩,bd,z⟩;have bi:=a4.out;have s:∀ i,i<a.heap.size->i≠w.heap.size+3->B.heap[i]?=a.heap[i]?:=fun i av F=>by
  rw [z,ac (by omega)];exact (j.block i (by simp;omega) F).trans (ah _ _ av)
 have U:=(s w.heap.size (by omega) (by omega)).trans V;have m:=(s (w.heap.size+1) (by omega) (by omega)).trans G;have D:=(s (w.heap.size+2) (by omega) (by omega)).trans H;have E:B.heap[w.heap.size+3]?=some (oG):=by rw [z,ac (by omega)];exact A
 have X:B7 w B:=by
  rw [z];refine Below.setCell ?_ (by show w.heap.size<=a.heap.size;omega) _
  exact (N.out.alloc N.out.size _).trans (j.below (by simp;omega) (fun i av=>by omega))
 obtain⟨k,o,p,q,l,r⟩:=a5.out;obtain⟨c,d⟩:∃ c,c=B.setCell ⟨w.heap.size+1,260,none⟩ (.int .u64 0):=⟨_,rfl⟩;have Z:aY c (w.heap.size+1) db 0:=by
  have t:=ab m;have bb:=ag m;have n:∀ b,b≠260->c.cell? ⟨w.heap.size+1,b,none⟩=M[b]?:=fun b ao=>by rw [d];exact (World.cell?_setCell_other _ _ _ _ (by simp <;> omega)).trans (t b)
  have S:∀ b,c.frozen? ⟨w.heap.size+1,b,none⟩=false:=fun b=>by rw [d,World.frozen?_setCell];exact bb b
  refine⟨fun b _=>S b,(n 0 (by omega)).trans k,⟨⟨false,(n 1 (by omega)).trans o,fun b ao=>⟨0,(n _ (by omega)).trans (q b ao),fun F=>by cases F⟩⟩,(n 2 (by omega)).trans p,fun b _=>S _⟩,?_,(n 261 (by omega)).trans r⟩
  rw [d];exact World.cell?_setCell_same _ _ _ ((t 260).trans l)
 have a2:c.heap[w.heap.size]?=_:=d▸(ac (by omega) _ _).trans U;have bj:c.heap[w.heap.size+2]?=_:=d▸(ac (by omega) _ _).trans D;have bk:c.heap[w.heap.size+3]?=_:=d▸(ac (by omega) _ _).trans E;have Y:B7 w c:=d▸X.setCell (by show w.heap.size<=w.heap.size+1;omega) _;have a6:=(ab m 260).trans l;have a7:=ag m 260;have u:=ab D;have x:=ab E;have O:=aa Z;have a3:=aa Y;clear bd z A j s X k o p q l r Z Y V G H W bi;go_upto_region 7 with fail
 rw [<-d];clear d a6 a7 u x U m D E;have a8:=ab a2;have a9:=ag a2;have bl:=ab bj;have bo:=ab bk;go_region
 all_goals go_wp2
 all_goals refine bodyPost_ret (v:=.tuple #[.pointer (some ⟨w.heap.size+1,0,none⟩),Og,.nilIface]) (by simp [results,results76,go_sem,a8,a9]) rfl ?_
 all_goals refine⟨w.heap.size+1,rfl,by omega,?_,?_⟩
 all_goals first
  | exact O.out.kept (by simp [ac])
  | (exact O.out.kept ((ac (by omega) _ _).trans ((ac (by omega) _ _).trans (ac (by omega) _ _))))
  | skip
 all_goals first
  | (exact ((a3.out.drew.setCell lz _).setCell lz _).setCell lz _)
  | skip
theorem lE (db nb:Nat)(p q r s:Value)(blk:Int)(w:World)(n:w.heap[db]?=some (uC p nb q r s))(m:ak w nb []) :
  Calls prog 50 #[.iface 78 (.pointer (some ⟨db,0,none⟩)),.int .u64 blk] w fun e w'=>∃ g l,e=.returned (.tuple #[.agg #[.int .u64 0,.int .u64 blk,.map (some l),.pointer (some ⟨g,0,none⟩)],.nilIface])/\w.heap.size<=g/\w.heap.size<=l/\g≠l/\w'.heap[l]?=some (.map #[] 0)/\aY w' g db 0/\B7 w w':=by
 have Q:=@run_makeMap prog;obtain⟨c,f⟩:∃ c,c=w.alloc (OG):=⟨_,rfl⟩;have u:c.heap[w.heap.size]?=some (OG):=f▸af _ _;have j:B7 w c:=f▸ba w;have C:c.heap.size=w.heap.size+1:=by rw [f];simp
 have I:=aa (rE db nb p q r s c ((j.block db (am n)).trans n) (m.kept (j.block nb m.map.lt) (fun U M=>by cases M)));have F:=aa j;have o:=aa C;clear n m j C;go_enter func50,ntmps50
 go_upto_region 1 with fail
 rw [<-f];clear f;go_wp2_with fail
 refine I.out.mono ?_
 rintro e i ⟨g,rfl,z,d,k⟩;have D:=o.out;obtain⟨a,b⟩:∃ a,a=(i.alloc (oG)).alloc (.map #[] 0):=⟨_,rfl⟩;have B:=k.size;have t:=(k.block w.heap.size (by omega)).trans u;have E:a.heap[w.heap.size]?=_:=b▸aB (aB t _) _;have N:a.heap[i.heap.size]?=some (oG):=b▸aB (af _ _) _;have O:a.heap[i.heap.size+1]?=some (.map #[] 0):=b▸aC (by simp);have y:aY a g db 0:=d.kept (by rw [b,ah _ _ (by have:=d.lt;simp;omega),ah _ _ d.lt]);have x:B7 w a:=b▸((F.out.trans (k.mono (by omega))).alloc (by omega) _).alloc (by simp;omega) _;have A:=d.lt;have J:=aa y;have G:=aa x;have H:=aa (aN z (aN B A));clear d k y x u t z B A D;go_upto_region 5 with fail
 rw [<-b];clear b;have P:=ab N;have K:=ab E;have L:=ag E;go_wp2
 refine wp_loop_rounds 1 ?_
 rw [rounds_succ];go_wp2
 obtain⟨R,S,T⟩:=H.out;have D:=o.out;refine bodyPost_ret (v:=.tuple #[.agg #[.int .u64 0,.int .u64 blk,.map (some (i.heap.size+1)),.pointer (some ⟨g,0,none⟩)],.nilIface]) (by simp [results,results50,go_sem,K,L]) rfl ⟨g,i.heap.size+1,rfl,by omega,by omega,by omega,?_,?_,?_⟩
 ·rw [ac (by omega),ac (by omega),ac (by omega),ac (by omega)];exact O
 ·exact J.out.kept ((ac (by omega) _ _).trans ((ac (by omega) _ _).trans ((ac (by omega) _ _).trans (ac (by omega) _ _))))
 ·exact (((G.out.setCell lz _).setCell lz _).setCell lz _).setCell lz _
def dZ:Rq:=⟨6,0,0,0,0,0,0,0,0,0,0,0,0⟩
theorem jaH:pY dZ:=by
 intro c;have a:Rq.enc dZ=[1,6]:=rfl;have b:aF (Rq.enc dZ ++ c)=0:=by
  rw [a];simp [aF,aM];omega
 have d:=lL (Rq.enc dZ ++ c) b (by rw [a];exact ir rfl);refine⟨b,?_,?_⟩
 ·unfold dT;rw [if_pos b,a];simp
 ·rw [d,a];rfl
end Go.Proofs.YtnlgndpcddngoaaGreatDoor
