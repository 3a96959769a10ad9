import Derived.Test.YtnlgndpcddngoaaGreatDoorZ12
import Derived.Test.YtnlgndpcddngoaaGreatDoorZ21
import Derived.Carry
import Derived.Test.YtnlgndpcddngoaaGreatDoorZ24
import Derived.Laws.StructEq
set_option linter.all false
set_option maxRecDepth 100000
set_option maxHeartbeats 4000000
namespace Go.Proofs.YtnlgndpcddngoaaGreatDoor
open Go.Proofs.Tryz Go.RowKit Go.Maps
variable [dK] [iK]
theorem jx {w w':World}{b n:Nat}{D:DataW Value}{kt:TypeId}(d:w.ownsMap prog kt bM b n D)(g:w'.heap[b]?=w.heap[b]?):w'.ownsMap prog kt bM b n D:=by
 obtain⟨c,a,e,f⟩:=d;exact⟨c,a,g.trans e,f⟩
theorem up33 (db k:Nat)(cv bj a0 M N:Value)(fs:Fs)(w:World)(x:w.heap[db]?=some (Ua k cv bj M N a0))(A:ak w k fs) :
  Calls prog 33 #[pO db 0] w fun e w'=>e=.returned (.tuple #[])/\w'.heap[db]?=some (.cells #[.map (some k),.map (some w.heap.size),.slice none 0 0,M,N,.bool false] 88)/\ak w' w.heap.size fs/\ae (fun c=>c=db) w w':=by
 have cR:=@run_makeMap prog;obtain⟨V,f,a6,a1⟩:=A.map;have b7:Maps.size f<=2:=by rw [a1.size];exact A.len
 have p:=am x;have m:=a6.lt;have cs:k≠db:=A.map.ne x;obtain⟨g,u⟩:∃ g,g=(w.alloc (.map #[] 0)).setCell ⟨db,1,none⟩ (.map (some w.heap.size)):=⟨_,rfl⟩;have a2:g.heap[db]?=some (Ua k (.map (some w.heap.size)) bj M N a0):=by rw [u];simpa using ai (aB x (.map #[] 0)) 1 (.map (some w.heap.size))
 have a7:g.ownsMap prog 9 bM k V f:=jx a6 (by rw [u,ac cs];exact ah _ _ m);have b1:g.ownsMap prog 9 bM w.heap.size 0 (.map []):=jx (World.ownsMap_made w _ _ _) (by rw [u,ac (by omega)]);have t:ae (fun c=>c=db) w g:=u▸ae.set (S:=fun c=>c=db) (b:=db) ((ae.refl _ w).alloc _) (il rfl) _ _;have b6:g.heap.size=w.heap.size+1:=by rw [u];simp
 have cp:=ce x (.map #[] 0);have cq:=jG x (.map #[] 0);have cl:=ab a2;have bo:=aa a1;have bl:=aa A;have bs:=aa b7;have L:=aa b6;have z:=aa (aN p m);clear a6 a1 A b7 b6 p m;go_enter func33,ntmps33
 go_upto_region 1 with fail
 rw [<-u];clear u cp cq;go_wp2_with (first
   | (at_range;refine wpList_range_own _ rfl _ 85 rfl 9 95 dq.keyed undN _ k V _ rfl a7 ?_;intro cx b5 n ct)
   | go_in)
 go_frame
 have bK:ae (fun c=>c=db) w cx:=⟨n.os.trans t.os,n.tape.trans t.tape,n.output.trans t.output,lq t.size n.size,fun b8 bF i=>(n.block b8 (ll bF t.size) (by simp)).trans (t.block b8 bF i)⟩;have b0:=b1.kept n (by simp);have bw:=(n.block db (am a2) (by simp)).trans a2;have cc:=aa bK;have ch:=aa b0;have ck:=aa b5;have cb:=aa bw;have ci:=aa a7;clear bK b0 b5 n ct bw cl t b1 a7;go_loopw [] (fun wr=>∃ (U:Lit->Bool) (s:Nat) (W:DataW Value),wr.ranges prog 9 bM k g.heap.size V f U s/\s<=Maps.size f/\wr.ownsMap prog 9 bM w.heap.size (Maps.size f - s) W/\Agree W f U/\wr.heap[db]?=some (Ua k (.map (some w.heap.size)) bj M N a0)/\ae (fun c=>c=db) w wr)
  (fun wr=>wr.rangeLeft k g.heap.size)
 case atStart=>exact⟨_,_,.map [],ck.out,lz,ch.out.mono (Nat.zero_le _),agree_start f,cb.out,cc.out⟩
 case round=>
  obtain⟨U,s,W,o,cG,b4,bu,bz,b3⟩:=hrel;have v:=aa b4;have X:=aa bu;have q:=aa bz;have h:=aa b3;clear b4 bu bz b3;go_wp2_with (first
    | (at_next;refine fh (P:=prog) (kt:=9) _ dq rfl _ rfl k g.heap.size V f fs bo.out U s rfl o ?_ ?_)
    | go_in)
  ·intro O Q;have cz:=ab q.out;have cF:=ag q.out;have b9:=aa (aN O Q);clear O Q o;go_wp2
   go_end0
   obtain⟨O,Q⟩:=b9.out;subst O;have e:=agree_end X.out Q (v.out.canon dq.keyed) (ci.out.canon dq.keyed);have i:wr.ownsMap prog 9 bM w.heap.size (Maps.size f) f:=by have:=v.out;rw [e] at this;simpa using this
   have b2:w.heap.size≠db:=by have:=z.out;omega
   have bv:ae (fun c=>c=db) w ((wr.setCell ⟨db,2,none⟩ (.slice none 0 0)).setCell ⟨db,5,none⟩ (.bool false)):=ae.set (S:=fun c=>c=db) (b:=db) (ae.set (S:=fun c=>c=db) (b:=db) h.out (il rfl) _ _) (il rfl) _ _;refine⟨rfl,by simpa using ai (ai q.out 2 (.slice none 0 0)) 5 (.bool false),⟨⟨_,_,jx i ((ac b2 _ _).trans (ac b2 _ _)),bo.out⟩,bl.out.nd,fun cw G=>?_⟩,bv⟩
   have R:=bl.out.str cw G;exact (bv.block _ (am R) (fun e=>by rw [e,x] at R;simp at R)).trans R
  ·refine⟨?_,?_⟩
   ·intro bg bi bk av G a5 B H F a bd a3;simp only [vQ,evF] at a3 ⊢;have bb:g.heap.size<wr.heap.size:=o.lt;obtain⟨p,m⟩:=z.out;have J:=h.out.size;have K:=L.out;have a8:=v.out.kept a (by intro e;injection e with e;omega);have C:=(a.block db (by have:=am q.out;omega) (by intro e;injection e with e;omega)).trans q.out;have D:ae (fun c=>c=db) w bk:=⟨a.os.trans h.out.os,a.tape.trans h.out.tape,a.output.trans h.out.output,lq J a.size,fun j l i=>(a.block j (by omega) (by intro e;injection e with e;omega)).trans (h.out.block j l i)⟩;have a4:Maps.size f - s<maxLen:=by have:=bs.out;unfold maxLen;omega
    have E:=dq.key false trivial;unfold vQ at E;have cn:=ab C;have ad:=aa H;have Z:=aa D;have r:=aa F;have ao:=aa o;have Y:=aa B;have y:=aa C;clear D H a bd F J bb a5 G B o K p m;go_wp2_with (first
      | (at_mapUpdate;refine wpList_mapUpdate_own _ rfl _ _ _ 85 rfl 9 95 dq.keyed undN _ w.heap.size _ _ rfl a8 a4 _ _ _ rfl rfl E (.held (evF (bg,bi))) [] rfl ?_;intro cy a9 d;go_frame)
      | go_in)
    have K:=L.out;obtain⟨p,m⟩:=z.out;have I:=ad.out.kept d (fun e=>by have:=Option.some.inj e;omega) (fun e=>by have:=Option.some.inj e;omega);go_roundw
    case rel=>
     refine⟨_,av,_,I,by have:=r.out;omega,a9.mono (by have:=r.out;omega),agree_step X.out v.out.isMap (dq.keyed.key (dq.key false trivial)) Y.out,?_,?_⟩
     ·exact (d.block db (am y.out) (fun e=>by have:=Option.some.inj e;omega)).trans y.out
     ·exact Z.out.then (T:=fun c=>c=w.heap.size) ⟨d.os,d.tape,d.output,d.size,fun j l i=>d.block j l (fun e=>i (Option.some.inj e))⟩ (fun j l cr=>by omega)
    case measure=>rw [I.left_eq,ao.out.left_eq];exact r.out
   ·intro bg bi bk av G a5 B H F a bd a3;simp only [vQ,evF] at a3 ⊢;have bb:g.heap.size<wr.heap.size:=o.lt;obtain⟨p,m⟩:=z.out;have J:=h.out.size;have K:=L.out;have a8:=v.out.kept a (by intro e;injection e with e;omega);have C:=(a.block db (by have:=am q.out;omega) (by intro e;injection e with e;omega)).trans q.out;have D:ae (fun c=>c=db) w bk:=⟨a.os.trans h.out.os,a.tape.trans h.out.tape,a.output.trans h.out.output,lq J a.size,fun j l i=>(a.block j (by omega) (by intro e;injection e with e;omega)).trans (h.out.block j l i)⟩;have a4:Maps.size f - s<maxLen:=by have:=bs.out;unfold maxLen;omega
    have E:=dq.key true trivial;unfold vQ at E;have cn:=ab C;have ad:=aa H;have Z:=aa D;have r:=aa F;have ao:=aa o;have Y:=aa B;have y:=aa C;clear D H a bd F J bb a5 G B o K p m;go_wp2_with (first
      | (at_mapUpdate;refine wpList_mapUpdate_own _ rfl _ _ _ 85 rfl 9 95 dq.keyed undN _ w.heap.size _ _ rfl a8 a4 _ _ _ rfl rfl E (.held (evF (bg,bi))) [] rfl ?_;intro cy a9 d;go_frame)
      | go_in)
    have K:=L.out;obtain⟨p,m⟩:=z.out;have I:=ad.out.kept d (fun e=>by have:=Option.some.inj e;omega) (fun e=>by have:=Option.some.inj e;omega);go_roundw
    case rel=>
     refine⟨_,av,_,I,by have:=r.out;omega,a9.mono (by have:=r.out;omega),agree_step X.out v.out.isMap (dq.keyed.key (dq.key true trivial)) Y.out,?_,?_⟩
     ·exact (d.block db (am y.out) (fun e=>by have:=Option.some.inj e;omega)).trans y.out
     ·exact Z.out.then (T:=fun c=>c=w.heap.size) ⟨d.os,d.tape,d.output,d.size,fun j l i=>d.block j l (fun e=>i (Option.some.inj e))⟩ (fun j l cr=>by omega)
    case measure=>rw [I.left_eq,ao.out.left_eq];exact r.out
theorem jad (a:Array Value)(w:World):Sem.run prog (callFunc 30 a) w=.ok (.enter 30 a) w:=by simp [go_sem]
theorem j9 (db d:Nat)(o m z A:Value)(fs:Fs)(E i:Int)(w:World)(G:-9223372036854775808<=i)(H:i<=9223372036854775807)(f:w.heap[db]?=some (.cells #[.map (some d),o,.slice none 0 0,z,A,m] 88))(g:ak w d fs) :
  Calls prog 39 #[pO db 0,.int .i64 E,.int .i64 i] w fun e w'=>e=.returned (.tuple #[])/\∃ nb,w'.heap[db]?=some (oB d nb)/\w.heap.size<=nb/\ak w' nb fs/\ae (fun c=>c=db) w w':=by
 have I:=@run_makeMap prog;have C:d≠db:=g.map.ne f;have s:=aa (jy i 1 w (by omega) (by omega) G H);obtain⟨a,h⟩:∃ a,a=((w.alloc (.map #[] 0)).setCell ⟨db,3,none⟩ (.int .i64 (-1))).setCell ⟨db,4,none⟩ (.int .i64 (-1)):=⟨_,rfl⟩;have r:a.heap[db]?=some (.cells #[.map (some d),o,.slice none 0 0,.int .i64 (-1),.int .i64 (-1),m] 88):=by rw [h];simpa using ai (ai (aB f (.map #[] 0)) 3 (.int .i64 (-1))) 4 (.int .i64 (-1))
 have n:ae (fun c=>c=db) w a:=h▸ae.set (S:=fun c=>c=db) (b:=db) (ae.set (S:=fun c=>c=db) (b:=db) ((ae.refl _ w).alloc _) (il rfl) _ _) (il rfl) _ _;have q:ak a d fs:=g.keep n C (fun F D e=>by have:=g.str F D;rw [e,f] at this;simp at this);have u:=aa (up33 db d o (.slice none 0 0) m (.int .i64 (-1)) (.int .i64 (-1)) fs a r q);have v:=ab f;have x:=ce f (.map #[] 0);have y:=jG f (.map #[] 0);have p:=aa n;clear g q n r;go_enter func39,ntmps39
 go_wp2_with fail
 refine s.out.mono ?_
 rintro e w' ⟨rfl,rfl⟩;go_wp2
 refine wp_loop_rounds 1 ?_
 rw [rounds_succ];go_upto_region 15 with fail
 rw [<-h];clear h v x y;go_wp2_with fail
 refine u.out.mono ?_
 rintro e K ⟨rfl,j,k,l⟩;have t:=aa (aN j (aN k l));clear j k l;go_wp2
 go_end0
 obtain⟨j,k,l⟩:=t.out;exact⟨rfl,a.heap.size,j,p.out.size,k,p.out.then l (fun J _ B=>B)⟩
structure dJ (w:World)(F g:Nat)(bs:List Int):Prop where
 mem:∃ o c,w.cell? ⟨F,0,none⟩=some (.slice (some ⟨g,o,none⟩) bs.length c)/\bs.length<=c/\∀ j,j<bs.length->w.cell? ⟨g,o+j,none⟩=some (.int .u8 (bs.getD j 0))
 fro:w.frozen? ⟨F,0,none⟩=false
 byt:Bytes bs
 ne:g≠F
 gl:g<w.heap.size
 Fl:F<w.heap.size
theorem dJ.kept {w w':World}{F g:Nat}{bs:List Int}(b:dJ w F g bs)(d:w.heap.size<=w'.heap.size)(c:w'.heap[F]?=w.heap[F]?)(m:w'.heap[g]?=w.heap[g]?):dJ w' F g bs:=by
 obtain⟨o,e,j,k,l⟩:=b.mem;have f:∀ a,w'.cell? ⟨F,a,none⟩=w.cell? ⟨F,a,none⟩:=fun a=>World.cell?_of_block (w:=w) c;have i:∀ a,w'.cell? ⟨g,a,none⟩=w.cell? ⟨g,a,none⟩:=fun a=>World.cell?_of_block (w:=w) m;exact⟨⟨o,e,(f 0).trans j,k,fun a n=>(i _).trans (l a n)⟩,(World.frozen?_of_block (w:=w) c).trans b.fro,b.byt,b.ne,ll b.gl d,ll b.Fl d⟩
theorem kR (a b:List Int)(c:Nat):(a ++ b).getD (a.length+c) 0=b.getD c 0:=by
 simp only [List.getD];rw [List.getElem?_append_right (by omega),Nat.add_sub_cancel_left]
theorem fG (a b:List Int)(c:Nat)(d:c<a.length):(a ++ b).getD c 0=a.getD c 0:=by
 simp [List.getD,List.getElem?_append_left d]
theorem dJ.on {w:World}{F g o c:Nat}{a bs:List Int}(b:dJ w F g (a ++ bs))(f:w.cell? ⟨F,0,none⟩=some (.slice (some ⟨g,o,none⟩) (a ++ bs).length c))(l:(a ++ bs).length<=c)(i:∀ d,d<(a ++ bs).length->w.cell? ⟨g,o+d,none⟩=some (.int .u8 ((a ++ bs).getD d 0))):dJ (w.setCell ⟨F,0,none⟩ (.slice (some ⟨g,o+a.length,none⟩) ((a ++ bs).length - a.length) (c - a.length))) F g bs:=by
 have k:(a ++ bs).length=a.length+bs.length:=List.length_append;refine⟨⟨o+a.length,c - a.length,?_,by omega,fun d m=>?_⟩,by rw [World.frozen?_setCell];exact b.fro,fun e j=>b.byt e (List.mem_append_right _ j),b.ne,by rw [World.size_setCell];exact b.gl,by rw [World.size_setCell];exact b.Fl⟩
 ·rw [World.cell?_setCell_same _ _ _ f,k,Nat.add_sub_cancel_left]
 ·rw [cf _ _ _ _ _ _ b.ne,Nat.add_assoc,i _ (by omega),kR]
theorem jcz (F g:Nat)(b:Int)(bs:List Int)(w:World)(d:dJ w F g (b :: bs))(m:0<bs.length) :
  Calls prog 105 #[pO F 0] w fun e w'=>e=.returned (.int .u8 b)/\dJ w' F g bs/\ae (fun c=>c=F) w w':=by
 obtain⟨k,c,f,i,j⟩:=d.mem;have l:(b :: bs).length=bs.length+1:=rfl;refine (jeB F g k _ c b w f d.fro (by omega) i (j 0 (by omega))).mono ?_
 rintro e w' ⟨rfl,rfl⟩;exact⟨rfl,dJ.on (a:=[b]) d f i j,ae.set (S:=fun c=>c=F) (b:=F) (ae.refl _ w) (il rfl) _ _⟩
theorem nH (F g:Nat)(v:Int)(bs:List Int)(w:World)(f:dJ w F g (bI v ++ bs))(s:0<bs.length)(l:0<=v)(m:v<=18446744073709551615) :
  Calls prog 108 #[pO F 0] w fun e w'=>e=.returned (.int .u64 v)/\dJ w' F g bs/\ae (fun c=>c=F) w w':=by
 obtain⟨p,c,i,j,k⟩:=f.mem;have n:(bI v).length=8:=rfl;have r:(bI v ++ bs).length=8+bs.length:=by rw [List.length_append,n]
 have o:∀ d,0<=(bI v).getD d 0/\(bI v).getD d 0<=255:=fun d=>(bX v).getD d;refine (jce F g p _ c (fun d=>(bI v).getD d 0) w i f.fro (by omega) j (fun d q=>by rw [k d (by omega),fG _ _ _ (by omega)]) o).mono ?_
 rintro e w' ⟨rfl,rfl⟩;rw [tE v l m];exact⟨rfl,dJ.on (a:=bI v) f i j k,ae.set (S:=fun c=>c=F) (b:=F) (ae.refl _ w) (il rfl) _ _⟩
theorem jgl (F g:Nat)(k:Ky)(bs:List Int)(w:World)(f:dJ w F g (mD k ++ bs))(r:0<bs.length) :
  Calls prog 106 #[pO F 0] w fun e w'=>e=.returned (om k)/\dJ w' F g bs/\ae (fun c=>c=F) w w':=by
 obtain⟨m,c,n,o,p⟩:=f.mem;have u:(mD k).length=8:=rfl;have x:(mD k ++ bs).length=8+bs.length:=by rw [List.length_append,u]
 have d:∀ l,l<8->w.cell? ⟨g,m+l,none⟩=some (.int .u8 ((mD k).getD l 0)):=fun l v=>by rw [p l (by omega),fG _ _ _ (by omega)]
 refine (jge F g m _ c k.k0 k.k1 k.k2 k.k3 k.k4 k.k5 k.k6 k.k7 w f.Fl f.gl (by omega) o n f.fro (d 0 (by omega)) (d 1 (by omega)) (d 2 (by omega)) (d 3 (by omega)) (d 4 (by omega)) (d 5 (by omega)) (d 6 (by omega)) (d 7 (by omega))).mono ?_
 rintro e w' ⟨rfl,i⟩;have j:=ae.set (S:=fun c=>c=F) (b:=F) (ae.refl _ w) (il rfl) 0 (.slice (some ⟨g,m+8,none⟩) ((mD k ++ bs).length - 8) (c - 8));have t:dJ (w.setCell ⟨F,0,none⟩ (.slice (some ⟨g,m+8,none⟩) ((mD k ++ bs).length - 8) (c - 8))) F g bs:=dJ.on (a:=mD k) f n o p;have q:=i.size;refine⟨rfl,t.kept q (i.block F f.Fl) (i.block g f.gl),j.os▸i.os,j.tape▸i.tape,j.output▸i.output,lq j.size q,fun s d r=>(i.block s d).trans (j.block s d r)⟩
theorem jgm (F g:Nat)(i x y:Int)(bs:List Int)(w:World)(a:dJ w F g (i :: (bI x ++ (bI y ++ bs))))(R:0<bs.length)(C:U7 x)(D:U7 y) :
  Calls prog 107 #[pO F 0] w fun e w'=>e=.returned (ot i x y)/\dJ w' F g bs/\ae (fun c=>c=F) w w':=by
 obtain⟨d,f⟩:∃ d,d=w.alloc (uR):=⟨_,rfl⟩;have k:ae (fun c=>c=F) w d:=f▸(ae.refl _ w).alloc _;have t:d.heap[w.heap.size]?=some (uR):=f▸af _ _;have B:dJ d F g (i :: (bI x ++ (bI y ++ bs))):=a.kept k.size (f▸ah _ _ a.Fl) (f▸ah _ _ a.gl);have j:w.heap.size≠F:=by have:=a.Fl;omega
 have M:=aa (jcz F g i _ d B (by rw [List.length_append];have:(bI x).length=8:=rfl;omega));have I:=aa k;have H:=aa a.gl;clear a B k;go_enter func107,ntmps107
 go_wp2_with fail
 rw [<-f];clear f;refine M.out.mono ?_
 rintro e T ⟨rfl,u,l⟩;have q:=(l.block w.heap.size (am t) j).trans t;have N:=aa (nH F g x _ T u (by rw [List.length_append];have:(bI y).length=8:=rfl;omega) C.1 C.2);have J:=aa (I.out.then l (fun E _ a=>a));clear u l;go_wp2_with fail
 refine N.out.mono ?_
 rintro e U ⟨rfl,z,m⟩;have r:=(m.block w.heap.size (am q) j).trans q;have O:=aa (nH F g y _ U z R D.1 D.2);have K:=aa (J.out.then m (fun E _ a=>a));clear z m;go_wp2_with fail
 refine O.out.mono ?_
 rintro e W ⟨rfl,A,n⟩;have s:=(n.block w.heap.size (am r) j).trans r;have G:=aa A;have L:=aa (K.out.then n (fun E _ a=>a));have P:=ab s;have V:=ag s;clear A n;go_wp2
 refine bodyPost_ret (v:=(ot i x y)) (by simp [results,results107,go_sem,P]) rfl ⟨rfl,?_,?_⟩
 ·have Q:=G.out;have o:F≠w.heap.size:=fun e=>j e.symm;have p:g≠w.heap.size:=fun e=>by have:=H.out;omega
  exact Q.kept (by simp) ((ac o _ _).trans ((ac o _ _).trans (ac o _ _))) ((ac p _ _).trans ((ac p _ _).trans (ac p _ _)))
 ·exact ae.set (S:=fun c=>c=F) (b:=w.heap.size) (ae.set (S:=fun c=>c=F) (b:=w.heap.size) (ae.set (S:=fun c=>c=F) (b:=w.heap.size) L.out (ir lz) _ _) (ir lz) _ _) (ir lz) _ _
theorem jcv (F g:Nat)(q:Qt)(bs:List Int)(w:World)(a:dJ w F g (tC q ++ bs))(bd:0<bs.length)(s:q.ok) :
  Calls prog 170 #[pO F 0] w fun e w'=>e=.returned (.tuple #[oD q,.bool true])/\dJ w' F g bs/\ae (fun c=>c=F) w w':=by
 have bb:tC q ++ bs=q.kd :: (bI q.x ++ (bI q.y ++ (bI q.lv ++ (bI q.wn ++ bs)))):=by simp [tC]
 rw [bb] at a;have G:∀ bo,(bI bo).length=8:=fun _=>rfl;obtain⟨n,k⟩:∃ n,n=w.alloc (oq):=⟨_,rfl⟩;have z:ae (fun c=>c=F) w n:=k▸(ae.refl _ w).alloc _;have K:n.heap[w.heap.size]?=some (oq):=k▸af _ _;have O:=a.kept z.size (k▸ah _ _ a.Fl) (k▸ah _ _ a.gl);have r:w.heap.size≠F:=by have:=a.Fl;omega
 have bg:w.heap.size≠g:=by have:=a.gl;omega
 have a4:=aa (jgm F g q.kd q.x q.y _ n O (by rw [List.length_append,G];omega) s.x s.y);have av:=aa z;have bw:=aa (aN a.gl a.Fl);have m:=aa s;clear a O z s;go_enter func170,ntmps170
 go_wp2_with fail
 rw [<-k];clear k;refine a4.out.mono ?_
 rintro e bu ⟨rfl,L,B⟩;have y:=(B.block w.heap.size (am K) r).trans K;have D:=aa (av.out.then B (fun bK _ a=>a));have f:=aa L;clear L B;go_wp2_with fail
 refine (km q.kd q.x q.y bu m.out.kd).mono ?_
 rintro e Z ⟨rfl,l⟩;obtain⟨j,i⟩:∃ j,j=Z.alloc (Oo q.kd q.x q.y):=⟨_,rfl⟩;obtain⟨b,p⟩:∃ b,b=Z.heap.size:=⟨_,rfl⟩;have H:j.heap[w.heap.size]?=some (oq):=i▸aB ((l.block _ (am y)).trans y) _;have V:j.heap[b]?=some (Oo q.kd q.x q.y):=by rw [p,i];exact af _ _
 have x:=l.size;have Y:=D.out.size;have U:=am y;have P:dJ j F g (bI q.lv ++ (bI q.wn ++ bs)):=f.out.kept (by rw [i];simp;omega) (by rw [i,ah _ _ (ll f.out.Fl x)];exact l.block F f.out.Fl) (by rw [i,ah _ _ (ll f.out.gl x)];exact l.block g f.out.gl);have Q:ae (fun c=>c=F) w j:=by rw [i];exact (D.out.then (T:=fun _=>False) (ae.of_below l) (fun _ _ a=>a.elim)).alloc _
 have C:b≠F:=by have:=f.out.Fl;omega
 have bj:b≠g:=by have:=f.out.gl;omega
 have bk:b≠w.heap.size:=by omega
 have a5:=aa (nH F g q.lv _ j P (by rw [List.length_append,G];omega) m.out.lv.1 m.out.lv.2);have a3:=aa p;have a2:=aa Q;have a7:=aa (aN x (aN Y U));clear l P Q x Y U f;go_upto_region 2 with fail
 rw [<-i,<-p];clear i p;go_wp2_with fail
 refine a5.out.mono ?_
 rintro e bv ⟨rfl,M,t⟩;have a6:=aa (nH F g q.wn _ bv M bd m.out.wn.1 m.out.wn.2);have I:=(t.block w.heap.size (am H) r).trans H;have W:=(t.block b (am V) C).trans V;have a0:=aa (a2.out.then t (fun _ _ a=>a));clear M t;go_wp2_with fail
 refine a6.out.mono ?_
 rintro e ad ⟨rfl,N,u⟩;have J:=(u.block w.heap.size (am I) r).trans I;have X:=(u.block b (am W) C).trans W;have a1:=aa (a0.out.then u (fun _ _ a=>a));have ao:=aa N;have a8:=ab J;have bz:=ag J;have a9:=ab X;have bF:=ag X;clear N u;have bl:¬w.heap.size=b:=fun e=>bk e.symm;go_wp2
 refine bodyPost_ret (v:=.tuple #[oD q,.bool true]) (by simp [results,results170,go_sem,a8,a9,bl]) rfl ⟨rfl,?_,?_⟩
 ·have bi:∀ d,d=F\/d=g->d≠b/\d≠w.heap.size:=fun d A=>by
   rcases A with a | a
   ·exact⟨fun e=>C (e.symm.trans a),fun e=>r (e.symm.trans a)⟩
   ·exact⟨fun e=>bj (e.symm.trans a),fun e=>bg (e.symm.trans a)⟩
  have S:∀ d,d=F\/d=g->(((((((ad.setCell ⟨b,3,none⟩ (.int .u64 q.lv)).setCell ⟨b,4,none⟩ (.int .u64 q.wn)).setCell ⟨w.heap.size,0,none⟩ (.int .u8 q.kd)).setCell ⟨w.heap.size,1,none⟩ (.int .u64 q.x)).setCell ⟨w.heap.size,2,none⟩ (.int .u64 q.y)).setCell ⟨w.heap.size,3,none⟩ (.int .u64 q.lv)).setCell ⟨w.heap.size,4,none⟩ (.int .u64 q.wn)).heap[d]?=ad.heap[d]?:=fun d A=>by
   obtain⟨E,o⟩:=bi d A;rw [ac o,ac o,ac o,ac o,ac o,ac E,ac E]
  exact ao.out.kept (by simp) (S F (il rfl)) (S g (ir rfl))
 ·have R:w.heap.size<=b:=by have:=a3.out;have:=a7.out;omega
  refine ae.set ?_ (ir lz) _ _
  refine ae.set ?_ (ir lz) _ _
  refine ae.set ?_ (ir lz) _ _
  refine ae.set ?_ (ir lz) _ _
  refine ae.set ?_ (ir lz) _ _
  refine ae.set ?_ (ir R) _ _
  refine ae.set ?_ (ir R) _ _
  exact a1.out
theorem jds (g o f c:Nat)(v:Int)(w:World)(k:g<w.heap.size)(l:f=8)(d:∀ b,b<8->w.cell? ⟨g,o+b,none⟩=some (.int .u8 (nb v b))) :
  (Builtin.copy_ #[76,76] 3 #[.slice (some ⟨w.heap.size,0,none⟩) 8 8,.slice (some ⟨g,o,none⟩) f c]).run prog ((w.alloc (oK)).drew)
   = .ok (.int .i64 8) ((w.alloc (OJ (nb v 0) (nb v 1) (nb v 2) (nb v 3) (nb v 4) (nb v 5) (nb v 6) (nb v 7))).drew):=by
 subst l;have j:((w.alloc (oK)).drew).heap[w.heap.size]?=some (.cells #[.int .u8 0,.int .u8 0,.int .u8 0,.int .u8 0,.int .u8 0,.int .u8 0,.int .u8 0,.int .u8 0] 322 (0,0)):=af _ _;have m:∀ b e,([.int .u8 (nb v 0),.int .u8 (nb v 1),.int .u8 (nb v 2),.int .u8 (nb v 3),.int .u8 (nb v 4),.int .u8 (nb v 5),.int .u8 (nb v 6),.int .u8 (nb v 7)]:List Value)[b]?=some e->((w.alloc (oK)).drew).cell? ((⟨g,o,none⟩:Addr).add b)=some e:=by
  intro b e a;rw [Addr.add_lit];show (w.alloc (oK)).cell? ⟨g,o+b,none⟩=some e;rw [World.cell?_alloc_lt _ _ ⟨g,o+b,none⟩ k];match b,a with
  | 0,a=>simp at a;subst a;exact d 0 (by omega)
  | 1,a=>simp at a;subst a;exact d 1 (by omega)
  | 2,a=>simp at a;subst a;exact d 2 (by omega)
  | 3,a=>simp at a;subst a;exact d 3 (by omega)
  | 4,a=>simp at a;subst a;exact d 4 (by omega)
  | 5,a=>simp at a;subst a;exact d 5 (by omega)
  | 6,a=>simp at a;subst a;exact d 6 (by omega)
  | 7,a=>simp at a;subst a;exact d 7 (by omega)
 rw [run_copy_row (P:=prog) _ 76 76 3 5 w.heap.size 0 8 8 ⟨g,o,none⟩ 8 c _ 322 [.int .u8 (nb v 0),.int .u8 (nb v 1),.int .u8 (nb v 2),.int .u8 (nb v 3),.int .u8 (nb v 4),.int .u8 (nb v 5),.int .u8 (nb v 6),.int .u8 (nb v 7)] underlying76 (by kernel_rfl) j (by rfl) m (by simp) (by simp [Value.oneCell'])];have i:((w.alloc (oK)).drew).setRow w.heap.size #[.int .u8 (nb v 0),.int .u8 (nb v 1),.int .u8 (nb v 2),.int .u8 (nb v 3),.int .u8 (nb v 4),.int .u8 (nb v 5),.int .u8 (nb v 6),.int .u8 (nb v 7)]=(w.alloc (OJ (nb v 0) (nb v 1) (nb v 2) (nb v 3) (nb v 4) (nb v 5) (nb v 6) (nb v 7))).drew:=by
  show ((w.alloc (oK)).setRow w.heap.size #[.int .u8 (nb v 0),.int .u8 (nb v 1),.int .u8 (nb v 2),.int .u8 (nb v 3),.int .u8 (nb v 4),.int .u8 (nb v 5),.int .u8 (nb v 6),.int .u8 (nb v 7)]).drew=_;rw [World.setRow_alloc_new w #[.int .u8 0,.int .u8 0,.int .u8 0,.int .u8 0,.int .u8 0,.int .u8 0,.int .u8 0,.int .u8 0] #[.int .u8 (nb v 0),.int .u8 (nb v 1),.int .u8 (nb v 2),.int .u8 (nb v 3),.int .u8 (nb v 4),.int .u8 (nb v 5),.int .u8 (nb v 6),.int .u8 (nb v 7)] 322]
 simp only [List.take_zero,List.nil_append,List.length_cons,List.length_nil];exact congrArg _ i
theorem wg (k:Int)(w:World)(a:0<=k/\k<=12):Calls prog 186 #[.int .u8 k] w fun e w'=>e=.returned (.int .i64 (17+k * 41+8))/\w'=w:=by
 have b:IntKind.i64.wrap k=k:=by rw [IntKind.wrap_i64];omega
 have c:IntKind.i64.wrap (k * 41)=k * 41:=by rw [IntKind.wrap_i64];omega
 have d:IntKind.i64.wrap (17+k * 41)=17+k * 41:=by rw [IntKind.wrap_i64];omega
 have f:IntKind.i64.wrap (17+k * 41+8)=17+k * 41+8:=by rw [IntKind.wrap_i64];omega
 clear a;go_enter func186,ntmps186
 go_wp2
 go_ret
 exact⟨rfl,rfl⟩
theorem jcZ (v:Int)(w:World):(Op.equalIn 10000 322 (oE (nb v 0) (nb v 1) (nb v 2) (nb v 3) (nb v 4) (nb v 5) (nb v 6) (nb v 7)) (oE (nb v 0) (nb v 1) (nb v 2) (nb v 3) (nb v 4) (nb v 5) (nb v 6) (nb v 7))).run prog w=.ok true w:=by
 have b:=underlying5;have a:=isAgg5;have c:=sizeOf5;rw [show (10000:Nat)=9999+1 from rfl,Op.equalIn];simp only [Sem.run_bind,run_underlying underlying322,Result.andThen_ok];simp only [Std.Legacy.Range.forIn_eq_forIn_range',Std.Legacy.Range.size,Nat.sub_zero,Nat.add_sub_cancel,Nat.div_one,List.range'_succ,List.range'_zero,List.forIn_cons,List.forIn_nil];go_simp
theorem jff (a:Array Value)(w:World):Sem.run prog (callFunc 187 a) w=.ok (.enter 187 a) w:=by simp [go_sem]
theorem jc6 (b o g j n i:Nat)(k:Int)(f:List Int)(v:Int)(w:World)(s:cC w b o)(I:v=sumM f)(B:f.length+8=n)(a0:n<=i)(G:0<=k/\k<=12)(z:(n:Int)=17+k * 41+8)(F:g<w.heap.size)(x:b<w.heap.size)(R:g≠b)(av:w.cell? ⟨g,j,none⟩=some (.int .u8 k))(E:∀ a,a<f.length->w.cell? ⟨g,j+a,none⟩=some (.int .u8 (f.getD a 0)))(D:Bytes f)(H:∀ a,a<8->w.cell? ⟨g,j+(n - 8)+a,none⟩=some (.int .u8 (nb v a))) :
  Calls prog 169 #[.pointer (some ⟨b,o,none⟩),.slice (some ⟨g,j,none⟩) n i] w fun e w'=>e=.returned (.bool true)/\bJ w w' b o:=by
 obtain⟨A,u⟩:∃ A,A=w.alloc (oK):=⟨_,rfl⟩;obtain⟨d,l⟩:∃ d,d=(w.alloc (OJ (nb v 0) (nb v 1) (nb v 2) (nb v 3) (nb v 4) (nb v 5) (nb v 6) (nb v 7))).drew:=⟨_,rfl⟩;have Q:=jds g (j+(n - 8)) 8 (i - (n - 8)) v w F rfl H;rw [<-l,<-u] at Q;have q:B7 w d:=l▸(ba w).drew;have C:cC d b o:=s.block (q.block b x);have t:d.heap[w.heap.size]?=some (OJ (nb v 0) (nb v 1) (nb v 2) (nb v 3) (nb v 4) (nb v 5) (nb v 6) (nb v 7)):=l▸af _ _;have U:d.heap.size=w.heap.size+1:=by rw [l];simp
 have M:=aa (je1 b o g j (n - 8) i f d.drew (C.block rfl) (by omega) (by omega) (by omega) (by show b<d.heap.size;omega) (by show g<d.heap.size;omega) R (fun a y=>(World.cell?_of_block (w:=w) (q.block g F)).trans (E a (by omega))) (fun a=>D.getD a) v I);have m:=wg k w G;rw [<-z] at m;have m:=aa m;have a2:((n:Int)==0)=false:=by simp;omega
 have a3:¬(12:Int)<k:=by omega
 have a8:¬i=n - 8:=by omega
 have a9:((n - 8:Nat):Int)<=(n:Int):=by omega
 have a4:IntKind.i64.wrap ((n:Int) - 8)=((n - 8:Nat):Int):=by rw [IntKind.wrap_i64];omega
 have a5:n - 8<=n:=by omega
 have a6:n - (n - 8)=8:=by omega
 have a7:n - 8<=i:=by omega
 have J:n - 8=f.length:=by omega
 have bb:(0:Int)<(n:Int):=by omega
 have K:=aa q;have L:=aa u;have W:=aa s;have Z:=aa U;have X:=aa J;have Y:=aa z;have V:=aa B;clear s C E D H B I q J z G u l;go_enter func169,ntmps169
 go_wp2_with (first | (go_at_call 186;refine m.out.mono ?_;rintro e w' ⟨rfl,rfl⟩))
 rw [<-L.out];go_region
 go_wp2_with fail
 have ad:=ab t;have a1:=jcZ v;go_region_law (refine aO (by rfl) 187 jff _ _ (by rfl) #[.pointer (some ⟨b,o,none⟩),.slice (some ⟨g,j,none⟩) (n - 8) i] (by simp only [List.map_toArray,List.map_cons,List.map_nil];rfl) M.out ?_;rintro e bd ⟨rfl,c⟩;refine⟨_,rfl,?_⟩;have N:=aa c;have S:=(c.keep.block _ (am t) (fun e=>by omega)).trans t;have ao:=ab S;clear c)
 all_goals go_wp2
 all_goals go_ret
 all_goals (
   have r:=K.out;have c:=N.out;refine⟨rfl,c.tab,fun a y=>⟨(c.cel a y).1.trans (r.cell (p:=⟨b,a,none⟩) x),(c.cel a y).2.trans (r.frozen (p:=⟨b,a,none⟩) x)⟩,(ae.of_below r).then (T:=fun O=>O=b) ⟨c.keep.os,c.keep.tape,c.keep.output,c.keep.size,c.keep.block⟩ (fun _ _ P=>P)⟩)
def ft (k:Ky):List Value:=[.int .u8 k.k0,.int .u8 k.k1,.int .u8 k.k2,.int .u8 k.k3,.int .u8 k.k4,.int .u8 k.k5,.int .u8 k.k6,.int .u8 k.k7]
def fw (q:Qt):List Value:=[.int .u8 q.kd,.int .u64 q.x,.int .u64 q.y,.int .u64 q.lv,.int .u64 q.wn]
def fx (b:Es)(ks:List Ky):List Value:=ks.flatMap fun a=>ft a ++ fw (aL b a)
theorem jaR (a:Es)(ks:List Ky)(k:Ky):fx a (ks ++ [k])=fx a ks ++ (ft k ++ fw (aL a k)):=by
 unfold fx;rw [List.flatMap_append];simp
theorem jaJ (a:Es)(k:Ky)(ks:List Ky):dp a (k :: ks)=mD k ++ (tC (aL a k) ++ dp a ks):=by
 unfold dp;rw [List.flatMap_cons,List.append_assoc]
theorem Tryz.infoRec:(prog.info? 175).map (fun i=>(i.zero,i.size,i.bytes))=some (some (OO),13,48):=by kernel_rfl
theorem qo (w:World)(k:Ky)(q:Qt)(t:TypeId):∀ b u,(ft k ++ fw q)[b]?=some u->(w.alloc (.cells #[.int .u8 k.k0,.int .u8 k.k1,.int .u8 k.k2,.int .u8 k.k3,.int .u8 k.k4,.int .u8 k.k5,.int .u8 k.k6,.int .u8 k.k7,.int .u8 q.kd,.int .u64 q.x,.int .u64 q.y,.int .u64 q.lv,.int .u64 q.wn] t)).cell? ((⟨w.heap.size,0,none⟩:Addr).add b)=some u:=by
 intro b u a;rw [Addr.add_lit,Nat.zero_add,World.cell?_alloc_at _ _ _ _ rfl];match b,a with
 | 0,a=>exact a
 | 1,a=>exact a
 | 2,a=>exact a
 | 3,a=>exact a
 | 4,a=>exact a
 | 5,a=>exact a
 | 6,a=>exact a
 | 7,a=>exact a
 | 8,a=>exact a
 | 9,a=>exact a
 | 10,a=>exact a
 | 11,a=>exact a
 | 12,a=>exact a
 | b+13,a=>simp [ft,fw] at a
theorem jem (k:Ky)(q:Qt):∀ u∈ft k ++ fw q,u.oneCell'=true:=by
 intro c b;simp [ft,fw] at b;rcases b with a | a | a | a | a | a | a | a | a | a | a | a | a <;> subst a <;> rfl
structure RdR (w1 wr:World)(F g I:Nat)(turn time:Int)(es:Es)(ks:List Ky)(tl:List Int)(j:Nat)(v:Value):Prop where
 box:wr.heap[I]?=some (uv turn time v)
 own:wr.ownsRow (I+1) 175 13 v j (fx es (ks.take j))
 fd:dJ wr F g (dp es (ks.drop j) ++ tl)
 bel:B7 w1 wr
theorem jei (l o g n a2:Nat)(turn m:Int)(r:Es)(ks:List Ky)(w:World)(b3:cC w l o)(eL:ks.length<=12)(G:∀ k∈ks,k.ok/\(aL r k).ok)(c7:U7 turn)(c1:U7 m)(ao:(aX turn m r ks).length=n)(eQ:n<=a2)(eA:g<w.heap.size)(b4:l<w.heap.size)(c2:g≠l)
  (bd:∀ c,c<n->w.cell? ⟨g,0+c,none⟩=some (.int .u8 ((aX turn m r ks).getD c 0))) :
  Calls prog 148 #[.pointer (some ⟨l,o,none⟩),.slice (some ⟨g,0,none⟩) n a2] w fun e w'=>∃ v,e=.returned (.tuple #[OS turn m v,.bool true])/\w'.ownsRow w.heap.size 175 13 v ks.length (fx r ks)/\bJ w w' l o:=by
 obtain⟨e6,eE,e3,e4,e5⟩:=info_parts Tryz.infoRec;have a1:∀ v,(bI v).length=8:=fun _=>rfl;have cV:∀ k∈ks,k.ok/\(aL r k).fit:=fun k f=>⟨(G k f).1,⟨by rcases (G k f).2.kd with f | f <;> omega,(G k f).2.x,(G k f).2.y,(G k f).2.lv,(G k f).2.wn⟩⟩
 obtain⟨s,W⟩:∃ s,s=fZ turn m r ks:=⟨_,rfl⟩;have ev:s.length=17+41 * ks.length:=by rw [W];exact ew _ _ _ _
 have bF:Bytes s:=W▸iw turn m r ks eL cV;obtain⟨t,b8⟩:∃ t,t=sumM s:=⟨_,rfl⟩;have E:aX turn m r ks=s ++ bI t:=by rw [b8,W];rfl
 rw [E] at ao bd;have bj:n=s.length+8:=by rw [<-ao,List.length_append,a1]
 obtain⟨J,a6⟩:∃ J,J=w.alloc (oG):=⟨_,rfl⟩;have K:B7 w J:=a6▸ba w;have ct:J.heap[w.heap.size]?=some (oG):=a6▸af _ _;have c5:J.heap.size=w.heap.size+1:=by rw [a6];simp
 have a7:∀ c,c<n->J.cell? ⟨g,0+c,none⟩=some (.int .u8 ((s ++ bI t).getD c 0)):=fun c C=>(K.cell (p:=⟨g,0+c,none⟩) eA).trans (bd c C);have cy:s.getD 0 0=(ks.length:Int):=by rw [W];rfl
 have em:=aa (jc6 l o g 0 n a2 (ks.length:Int) s t J (b3.block (K.block l b4)) b8 bj.symm eQ (by omega) (by omega) (by omega) (by omega) c2
   (by have:=a7 0 (by omega);rw [fG _ _ _ (by omega),cy] at this;simpa using this) (fun c C=>by rw [a7 c (by omega),fG _ _ _ C]) bF
   (fun c C=>by
     have:=a7 (s.length+c) (by omega);rw [kR] at this;rw [show 0+(n - 8)+c=0+(s.length+c) by omega,this];match c,C with
     | 0,_=>rfl
     | 1,_=>rfl
     | 2,_=>rfl
     | 3,_=>rfl
     | 4,_=>rfl
     | 5,_=>rfl
     | 6,_=>rfl
     | 7,_=>rfl))
 have cG:Bytes (s ++ bI t):=fun cn ez=>(List.mem_append.1 ez).elim (bF cn) (bX t cn);have c6:s ++ bI t=(ks.length:Int) :: (bI turn ++ (bI m ++ (dp r ks ++ bI t))):=by rw [W];unfold fZ;simp
 have dN:=aa a7;have ds:=aa K;have el:=aa c5;have d0:=aa G;have d5:=aa (aN bj ao);have dt:=aa cG;have ek:=aa c6;have a9:=aa (aN c7 c1);have fm:=aa b3;have fU:(ks.length:Int)<=12:=by omega
 clear bd a7 b3 W ev bF b8 E ao bj cV K c5 G cG c6 c7 c1 cy;go_enter func148,ntmps148
 go_wp2_with fail
 rw [<-a6];clear a6;refine em.out.mono ?_
 rintro e q ⟨rfl,B⟩;have fV:=B.keep.size;have f2:=el.out;have O:=(B.keep.block w.heap.size (am ct) (fun e=>by omega)).trans ct;have cR:∀ c,c<n->q.cell? ⟨g,0+c,none⟩=some (.int .u8 ((s ++ bI t).getD c 0)):=fun c C=>(World.cell?_of_block (w:=J) (B.keep.block g (by omega) c2)).trans (dN.out c C);have eB:g<q.heap.size:=by omega
 have d6:=aa B;have dv:=aa cR;have ch:=aa O;clear B cR O;go_wp2_with fail
 refine (iy (some ⟨g,0,none⟩) n a2 q).mono ?_
 rintro e bl ⟨rfl,M⟩;obtain⟨j,P⟩:∃ j,j=q.heap.size:=⟨_,rfl⟩;have Y:dJ bl j g ((ks.length:Int) :: (bI turn ++ (bI m ++ (dp r ks ++ bI t)))):=by
  rw [<-ek.out];obtain⟨bj,ao⟩:=d5.out;refine⟨⟨0,a2,?_,by omega,fun c C=>?_⟩,?_,dt.out,by omega,by rw [M];simp;omega,by rw [M,P];simp⟩
  ·rw [M,P,ao];exact ab (af _ _) 0
  ·rw [M,World.cell?_alloc_lt _ _ ⟨g,0+c,none⟩ eB];exact dv.out c (by omega)
  ·rw [M,P];exact ag (af _ _) 0
 have cF:B7 q bl:=M▸ba q;have c4:bl.heap.size=j+1:=by rw [M,P];simp
 rw [<-P];clear M;have d8:=aa (jcz j g _ _ bl Y (by rw [List.length_append,a1];omega));have dn:=aa cF;have ck:=aa c4;have U:=aa P;clear Y cF c4 P;go_wp2_with fail
 refine d8.out.mono ?_
 rintro e fd ⟨rfl,a3,c8⟩;have d9:=aa (nH j g turn _ fd a3 (by rw [List.length_append,a1];omega) a9.out.1.1 a9.out.1.2);have d1:=aa c8;clear a3 c8;go_wp2_with fail
 refine d9.out.mono ?_
 rintro e ff ⟨rfl,cv,c9⟩;have eb:=aa (nH j g m _ ff cv (by rw [List.length_append,a1];omega) a9.out.2.1 a9.out.2.2);have d2:=aa (d1.out.then c9 (fun _ _ f=>f));clear cv c9;go_wp2_with fail
 refine eb.out.mono ?_
 rintro e di ⟨rfl,cw,db⟩;have bu:=aa (d2.out.then db (fun _ _ f=>f));have bo:=aa cw;clear cw db;obtain⟨bw,R⟩:∃ bw,bw=di.alloc (.cells #[.int .u64 turn,.int .u64 m,.slice none 0 0] 169):=⟨_,rfl⟩;obtain⟨i,bK⟩:∃ i,i=di.heap.size:=⟨_,rfl⟩;have cz:RdR q bw j g i turn m r ks (bI t) 0 (.slice none 0 0):=by
  have f1:=bu.out.size;have f0:=ck.out;have cs:=U.out;refine⟨by rw [bK,R];exact af _ _,World.ownsRow_nil _ _ _ _,?_,?_⟩
  ·rw [List.drop_zero];exact bo.out.kept (by rw [R];simp) (R▸ah _ _ bo.out.Fl) (R▸ah _ _ bo.out.gl)
  ·rw [R];exact (dn.out.trans (bu.out.below (by omega) (fun k G=>by omega))).alloc (by omega) _
 have ei:=aa cz;have D:Hid (q.heap.size<i):=aa (by have:=bu.out.size;have:=ck.out;have:=U.out;omega);clear cz;go_upto_region 7 with fail
 rw [<-R,<-bK];clear R bK;go_wp2_with fail
 go_loopw [31] (fun cc wr=>∃ (c:Nat) (v:Value),c<=ks.length/\cc=.int .u8 c/\RdR q wr j g i turn m r ks (bI t) c v) (fun cc _=>ks.length - (intOf cc).toNat)
 case atStart=>exact⟨0,_,Nat.zero_le _,rfl,ei.out⟩
 case round=>
  obtain⟨c,v,C,rfl,F⟩:=hrel;obtain⟨x,y,er⟩:=aw F.own;subst er;by_cases ad:c<ks.length
  ·obtain⟨k,Z⟩:∃ k,k=ks[c]:=⟨_,rfl⟩;obtain⟨H,a0⟩:∃ H,H=aL r k:=⟨_,rfl⟩;have bg:ks.drop c=k :: ks.drop (c+1):=by rw [Z];exact List.drop_eq_getElem_cons ad
   have c3:H.ok:=by rw [a0,Z];exact (d0.out _ (List.getElem_mem ad)).2
   have Y:=F.fd;rw [bg,jaJ,<-a0,List.append_assoc,List.append_assoc] at Y;have ey:=D.out;have cs:=U.out;have e7:=am F.box;have df:j≠i:=by omega
   have e9:g≠i:=by omega
   have ef:=aa (jgl j g k _ wr Y (by rw [List.length_append,iA];omega));have I:=aa F;have c0:ks[c]?=some k:=by rw [Z];exact List.getElem?_eq_getElem ad
   have dR:=aa (aN bg (aN c0 a0));have d7:=aa c3;have fN:(c:Int)<(ks.length:Int):=by omega
   have ci:=aa ad;clear Y F bg Z c0 a0 c3 ey cs ad C;go_wp2_with fail
   refine ef.out.mono ?_
   rintro e dk ⟨rfl,a4,b9⟩;obtain⟨V,Q⟩:∃ V,V=dk.alloc (ol k):=⟨_,rfl⟩;obtain⟨N,b1⟩:∃ N,N=dk.heap.size:=⟨_,rfl⟩;have fa:=b9.size;have b5:V.heap[N]?=some (ol k):=by rw [b1,Q];exact af _ _
   have cx:dJ V j g (tC H ++ (dp r (ks.drop (c+1)) ++ bI t)):=a4.kept (by rw [Q];simp) (Q▸ah _ _ a4.Fl) (Q▸ah _ _ a4.gl);have cX:ae (fun A=>A=j) wr V:=Q▸b9.alloc _;have e8:N≠j:=by have:=a4.Fl;omega
   have eg:=aa (jcv j g H _ V cx (by rw [List.length_append,a1];omega) d7.out);have d4:=aa cX;have fl:Hid (wr.heap.size<=N):=aa (by omega);clear a4 cx b9 cX fa;go_upto_region 10 with fail
   rw [<-Q,<-b1];clear Q b1;go_wp2_with fail
   refine eg.out.mono ?_
   rintro e dl ⟨rfl,bb,bk⟩;obtain⟨u,L⟩:∃ u,u=dl.alloc (oH H):=⟨_,rfl⟩;obtain⟨bv,b2⟩:∃ bv,bv=dl.heap.size:=⟨_,rfl⟩;have fb:=bk.size;have dd:=am b5;have eF:u.heap[N]?=some (ol k):=L▸aB ((bk.block N dd e8).trans b5) _;have e0:u.heap[bv]?=some (oH H):=by rw [b2,L];exact af _ _
   have a8:ae (fun A=>A=j) wr u:=L▸(d4.out.then bk (fun _ _ f=>f)).alloc _;have a5:u.heap[i]?=some (uv turn m (.slice x c y)):=(a8.block i e7 (fun e=>df e.symm)).trans I.out.box;have cU:dJ u j g (dp r (ks.drop (c+1)) ++ bI t):=bb.kept (by rw [L];simp) (L▸ah _ _ bb.Fl) (L▸ah _ _ bb.gl);have av:∀ d,(Value.slice x c y).ownBlock=some d->i+1<=d/\d<wr.heap.size:=fun d z=>aj I.out.own z;have eX:u.ownsRow (i+1) 175 13 (.slice x c y) c (fx r (ks.take c)):=aq I.out.own (fun d z=>a8.block d (av d z).2 (fun e=>by have:=(av d z).1;have:=D.out;have:=U.out;omega));have d3:=aa a8;have bs:=aa cU;have ej:Hid (i+1<=u.heap.size):=aa (by have:=a8.size;omega);clear bb bk a8 cU fb dd b5;go_upto_region 11 with fail
   rw [<-L,<-b2];clear L b2;have en:=ab eF;have cp:=ab e0;have fo:=ab a5;have fr:=ag a5;go_wp2_with (first
     | (at_builtin;refine wpList_append_own_at (w:=_) rfl _ _ 167 rfl (i+1) 175 e6 (OO) 13 48 underlying167 eE e3 e4 e5 rfl (by decide) (.slice x c y) c _ rfl (eX.alloc _) ⟨u.heap.size,0,none⟩ 1 1 (ft k ++ fw H) rfl rfl (qo _ _ _ _) (jem k H) (by unfold maxLen;omega) (by omega) (by have:=ej.out;simp;omega) ?_;intro f3 dm b7 bi _ fD;obtain⟨cl,cq,cr⟩:=aw b7;subst cr
        have b0:=(bi.block i (by have:=am a5;simp;omega) (fun e=>by have:=(av i e.symm).1;omega)).trans ((ah _ _ (am a5)).trans a5);have fs:=ab b0;have fv:=ag b0)
     | go_in)
   go_roundw
   case rel=>
    obtain⟨bg,Z,a0⟩:=dR.out;have ad:=ci.out;have E:B7 q u:=by
     refine I.out.bel.trans ((d3.out.mono (fun _ f _=>f)).below I.out.bel.size (fun A bd=>?_))
     have:=U.out;omega
    have X:∀ d,d<u.heap.size->(Value.slice x c y).ownBlock≠some d->dm.heap[d]?=u.heap[d]?:=fun d z eS=>(bi.block d (by simp;omega) (fun e=>eS e.symm)).trans (ah _ _ z);have eN:(Value.slice x c y).ownBlock≠some j:=fun e=>by have:=(av j e).1;have:=D.out;have:=U.out;omega
    have eV:(Value.slice x c y).ownBlock≠some g:=fun e=>by have:=(av g e).1;have:=D.out;omega
    have e2:u.heap.size<=dm.heap.size:=lq (by simp) bi.size;refine⟨c+1,.slice cl (c+1) cq,by omega,by go_num,by simpa using ai b0 2 (.slice cl (c+1) cq),?_,?_,?_⟩
    ·have e:ks.take (c+1)=ks.take c ++ [k]:=by rw [List.take_add_one,Z];rfl
     rw [e,jaR,<-a0];exact ownsRow_setCell_other b7 (a:=⟨i,2,none⟩) (fun e=>absurd (aj b7 e).1 (by show ¬i+1<=i;omega)) _
    ·exact bs.out.kept (by rw [World.size_setCell];exact e2) ((ac df _ _).trans (X j bs.out.Fl eN)) ((ac e9 _ _).trans (X g bs.out.gl eV))
    ·refine Below.setCell ?_ (by show q.heap.size<=i;have:=D.out;omega) _
     exact (E.alloc E.size _).grown bi (by have:=E.size;simp;omega) (fun d e=>by have:=(av d e).1;have:=D.out;omega)
   case measure=>have:=ci.out;simp [intOf];omega
  ·obtain rfl:c=ks.length:=by omega
   have en:=ab F.box;have O:=(F.bel.block w.heap.size (am ch.out)).trans ch.out;have cp:=ab O;have fn:=ag O;have I:=aa F;have fi:=aa O;have fz:i≠w.heap.size:=by have:=D.out;omega
   clear F O;go_wp2
   refine bodyPost_ret (v:=.tuple #[OS turn m (.slice x ks.length y),.bool true]) (by simp [results,results148,go_sem,cp]) rfl ⟨_,rfl,?_,?_⟩
   ·have b6:=I.out.own;rw [List.take_length] at b6;have e1:∀ d,(Value.slice x ks.length y).ownBlock=some d->i+1<=d:=fun d z=>(aj b6 z).1;have cb:(Value.slice x ks.length y).ownBlock≠some w.heap.size:=fun e=>by have:=e1 _ e;have:=D.out;omega
    have a3:=ownsRow_setCell_other (ownsRow_setCell_other (ownsRow_setCell_other b6 (a:=⟨w.heap.size,0,none⟩) cb (.int .u64 turn)) (a:=⟨w.heap.size,1,none⟩) cb (.int .u64 m)) (a:=⟨w.heap.size,2,none⟩) cb (.slice x ks.length y);refine⟨a3.1,?_⟩
    rcases a3.2 with f | ⟨d,eo,eq,es,cr,et⟩
    ·exact il f
    ·exact ir ⟨d,eo,eq,es,by have:=D.out;omega,et⟩
   ·have E:=I.out.bel;have B:=d6.out;have K:=ds.out;have bz:l≠w.heap.size:=by omega
    have eD:l<q.heap.size:=by omega
    have X:(((wr.setCell ⟨w.heap.size,0,none⟩ (.int .u64 turn)).setCell ⟨w.heap.size,1,none⟩ (.int .u64 m)).setCell ⟨w.heap.size,2,none⟩ (.slice x ks.length y)).heap[l]?=q.heap[l]?:=((ac bz _ _).trans ((ac bz _ _).trans (ac bz _ _))).trans (E.block l eD);refine⟨B.tab.block X,fun d z=>⟨(World.cell?_of_block (w:=q) X).trans ((B.cel d z).1.trans (K.cell (p:=⟨l,d,none⟩) b4)),(World.frozen?_of_block (w:=q) X).trans ((B.cel d z).2.trans (K.frozen (p:=⟨l,d,none⟩) b4))⟩,?_⟩
    refine ae.set (S:=fun A=>A=l) (b:=w.heap.size) (ae.set (S:=fun A=>A=l) (b:=w.heap.size) (ae.set (S:=fun A=>A=l) (b:=w.heap.size) ?_ (ir lz) _ _) (ir lz) _ _) (ir lz) _ _
    exact ((ae.of_below K).then B.keep (fun _ _ f=>f)).then (T:=fun _=>False) (ae.of_below E) (fun _ _ f=>f.elim)
theorem u9 (db:Nat)(g i j:Value)(l f:Int)(w:World)(a:w.heap[db]?=some (uh g i j l f))(d:l≠0)(c:f≠0) :
  Calls prog 262 #[pO db 0] w fun e w'=>e=.returned .nilIface/\w'.heap[db]?=some (uh g i j (aK l) (aK f))/\ae (fun b=>b=db) w w':=by
 have k:=ab a;have m:=ag a;have n:(l==0)=false:=by simpa using d
 have o:(f==0)=false:=by simpa using c
 have p:IntKind.i64.wrap (l - 1)=aK l:=rfl;have q:IntKind.i64.wrap (f - 1)=aK f:=rfl;clear d c;go_enter func262,ntmps262
 go_wp2
 go_ret
 refine⟨rfl,by simpa using ai (ai a 3 (.int .i64 (aK l))) 4 (.int .i64 (aK f)),?_⟩
 exact ae.set (S:=fun b=>b=db) (b:=db) (ae.set (S:=fun b=>b=db) (b:=db) (ae.refl _ w) (il rfl) _ _) (il rfl) _ _
theorem rI (db:Nat)(j k:Value)(l f:Int)(w:World)(o:w.heap[db]?=some (OV j k l f))(i:l≠0)(d:f≠0) :
  Calls prog 258 #[pO db 0] w fun e w'=>e=.returned .nilIface/\w'.heap[db]?=some (OV j k (aK l) (aK f))/\ae (fun c=>c=db) w w':=by
 have n:=aa (u9 db _ _ _ l f w o i d);clear i d;go_enter func258,ntmps258
 go_wp2_with fail
 refine n.out.mono ?_
 rintro e r ⟨rfl,a,g⟩;have p:=ab a;have q:=ag a;have m:=aa g;clear g;go_wp2_with fail
 refine wp_loop_rounds 1 ?_
 rw [rounds_succ];go_wp2
 go_ret
 exact⟨rfl,by simpa using ai a 2 (.slice none 0 0),ae.set (S:=fun c=>c=db) (b:=db) m.out (il rfl) _ _⟩
theorem vZ (db nb:Nat)(q r s t:Value)(fs:Fs)(b:Bool)(p:Nat×ByteArray)(w:World)(u:w.heap[db]?=some (uC q nb r s t))(c:ak w nb fs)(g:ar b fs=some p) :
  Calls prog 256 #[pO db 0,.string (ay b)] w fun e w'=>∃ f,e=.returned (.tuple #[.slice (some ⟨w.heap.size,0,none⟩) p.2.size f,.nilIface])/\Sl w' (.slice (some ⟨w.heap.size,0,none⟩) p.2.size f) (aD p.2)/\p.2.size<=f/\w.heap.size<w'.heap.size/\B7 w w':=by
 have y:=fun (w:World) (a:ByteArray)=>run_bytes_of_string (P:=prog) w 9 76 5 a underlying9 underlying76 underlying5;have v:(Instr.lookup 85 (.map (some nb)) (.string (ay b)) true).run prog w=.ok (.tuple #[pO p.1 0,.bool true]) w:=by
  have:=ap.look dq (w:=w) c.map (k:=b) trivial underlying85 (jc9 _);rw [g] at this;exact this
 have l:=c.str _ (aR g);have i:=ab l;have x:=ab u;obtain⟨a,m⟩:∃ a,a=p.2:=⟨_,rfl⟩;obtain⟨o,n⟩:∃ o,o=p.1:=⟨_,rfl⟩;rw [<-n] at v i;rw [<-m] at i ⊢;clear c g l m n;go_enter func256,ntmps256
 go_wp2
 obtain⟨d,c⟩:∃ d,d=grownCap w a.size 0 5:=⟨_,rfl⟩;have j:a.size<=d:=by rw [c];simpa using grownCap_ge w a.size 0 5
 rw [<-c];go_ret2
 exact⟨d,rfl,Sl.of_bytes w a d j,j,by simp,(ba w).drew⟩
theorem wL (o:Int)(w:World)(c:U7 o):Calls prog 171 #[.int .u64 (au o),.int .u64 o] w fun e w'=>e=.returned (.bool true)/\w'=w:=by
 have d:IntKind.u64.wrap (au o - o)=1:=by unfold au;rw [IntKind.wrap_u64];omega
 obtain⟨b,a⟩:∃ b,b=au o:=⟨_,rfl⟩;rw [<-a] at d ⊢;clear a c;go_enter func171,ntmps171
 go_wp2
 go_ret
 exact⟨rfl,rfl⟩
theorem wK (o:Int)(w:World)(c:U7 o):Calls prog 171 #[.int .u64 o,.int .u64 (au o)] w fun e w'=>e=.returned (.bool false)/\w'=w:=by
 have d:IntKind.u64.wrap (o - au o)=18446744073709551615:=by unfold au;rw [IntKind.wrap_u64];omega
 obtain⟨b,a⟩:∃ b,b=au o:=⟨_,rfl⟩;rw [<-a] at d ⊢;clear a c;go_enter func171,ntmps171
 go_wp2
 go_ret
 exact⟨by kernel_rfl,rfl⟩
theorem tc (g c:Nat)(t a:Int)(b:Option Addr)(f d:Nat)(w:World)(l:g<w.heap.size)(i:w.cell? ⟨g,0,none⟩=some (.int .u64 t))(j:w.cell? ⟨g,1,none⟩=some (.int .u64 a))(k:w.cell? ⟨g,2,none⟩=some (.slice b f d)) :
  Calls prog 149 #[.slice (some ⟨g,0,none⟩) 1 c] w fun e w'=>e=.returned (OS t a (.slice b f d))/\B7 w w':=by
 go_enter func149,ntmps149
 go_wp2
 refine wp_loop_rounds 2 ?_
 rw [rounds_succ];go_wp2
 rw [rounds_succ];go_wp2
 refine bodyPost_ret (v:=(OS t a (.slice b f d))) (by simp [results,results149,go_sem]) rfl ⟨rfl,?_⟩
 exact ((ba w).alloc (by simp) _).alloc (by simp;omega) _
theorem li (g c:Nat)(t d a f:Int)(l i:Option Addr)(n m k j:Nat)(b:Bool)(w:World)(z:g<w.heap.size)(q:w.cell? ⟨g,0,none⟩=some (.int .u64 t))(r:w.cell? ⟨g,1,none⟩=some (.int .u64 d))(s:w.cell? ⟨g,2,none⟩=some (.slice l n m))(u:w.cell? ⟨g,3,none⟩=some (.int .u64 a))(x:w.cell? ⟨g,4,none⟩=some (.int .u64 f))(y:w.cell? ⟨g,5,none⟩=some (.slice i k j))
  (p:∀ w,Calls prog 171 #[.int .u64 a,.int .u64 t] w fun e w'=>e=.returned (.bool b)/\w'=w) :
  Calls prog 149 #[.slice (some ⟨g,0,none⟩) 2 c] w fun e w'=>e=.returned (if b then (OS a f (.slice i k j)) else (OS t d (.slice l n m)))/\B7 w w':=by
 have o:=aa p;clear p;have A:g<w.heap.size+1:=by omega
 have B:g<w.heap.size+1+1:=by omega
 have C:g<w.heap.size+1+1+1:=by omega
 cases b
 ·go_enter func149,ntmps149
  go_wp2
  refine wp_loop_rounds 3 ?_
  rw [rounds_succ];go_wp2
  rw [rounds_succ];go_wp2_with (go_at_call 171;refine (o.out _).mono ?_;rintro e w' ⟨rfl,rfl⟩)
  rw [rounds_succ];go_wp2
  refine bodyPost_ret (v:=(OS t d (.slice l n m))) (by simp [results,results149,go_sem]) rfl ⟨rfl,?_⟩
  exact (((ba w).alloc (by simp) _).alloc (by simp;omega) _).alloc (by simp;omega) _
 ·go_enter func149,ntmps149
  go_wp2
  refine wp_loop_rounds 3 ?_
  rw [rounds_succ];go_wp2
  rw [rounds_succ];go_wp2_with (go_at_call 171;refine (o.out _).mono ?_;rintro e w' ⟨rfl,rfl⟩)
  rw [rounds_succ];go_wp2
  refine bodyPost_ret (v:=(OS a f (.slice i k j))) (by simp [results,results149,go_sem]) rfl ⟨rfl,?_⟩
  exact (((ba w).alloc (by simp) _).alloc (by simp;omega) _).alloc (by simp;omega) _
theorem ja7 (b o:Nat)(x:Option Addr)(a:Nat)(w:World) :
  Calls prog 169 #[.pointer (some ⟨b,o,none⟩),.slice x 0 a] w fun e w'=>e=.returned (.bool false)/\B7 w w':=by
 go_enter func169,ntmps169
 go_wp2
 go_ret
 exact⟨rfl,Below.refl _ _⟩
theorem u6 (f o g n b:Nat)(k:Int)(w:World)(m:n<=b)(j:0<=k/\k<=12)(p:0<n)(a:(n:Int)≠17+k * 41+8)(l:w.cell? ⟨g,0,none⟩=some (.int .u8 k)) :
  Calls prog 169 #[.pointer (some ⟨f,o,none⟩),.slice (some ⟨g,0,none⟩) n b] w fun e w'=>e=.returned (.bool false)/\B7 w w':=by
 have d:=aa (wg k w j);have q:((n:Int)==0)=false:=by simp;omega
 have r:¬(12:Int)<k:=by omega
 have s:((n:Int)==17+k * 41+8)=false:=by simpa using a
 have t:¬(n:Int)=17+k * 41+8:=a;have u:(0:Int)<(n:Int):=by omega
 clear a;go_enter func169,ntmps169
 go_wp2_with (go_at_call 186;refine d.out.mono ?_;rintro e w' ⟨rfl,c⟩;have i:=c.symm;clear c;subst i)
 go_ret
 exact⟨rfl,Below.refl _ _⟩
theorem jek (i o:Nat)(v:Value)(x:Option Addr)(n g:Nat)(w:World)(r:v=.slice x n g)(l:∀ c,B7 w c->Calls prog 169 #[.pointer (some ⟨i,o,none⟩),.slice x n g] c fun e w'=>e=.returned (.bool false)/\B7 c w') :
  Calls prog 148 #[.pointer (some ⟨i,o,none⟩),v] w fun e w'=>e=.returned (.tuple #[Og,.bool false])/\B7 w w':=by
 subst r;obtain⟨a,b⟩:∃ a,a=w.alloc (oG):=⟨_,rfl⟩;have d:B7 w a:=b▸ba w;have j:a.heap[w.heap.size]?=some (oG):=b▸af _ _;have p:=aa (l a d);clear l;go_enter func148,ntmps148
 go_upto_region 1 with fail
 rw [<-b];clear b;go_wp2_with fail
 refine p.out.mono ?_
 rintro e t ⟨rfl,f⟩;have k:=(f.block w.heap.size (am j)).trans j;have q:=ab k;have s:=ag k;have m:=aa (d.trans (f.mono d.size));clear f;go_wp2
 refine bodyPost_ret (v:=.tuple #[Og,.bool false]) (by simp [results,results148,go_sem,q]) rfl ⟨rfl,?_⟩
 exact ((m.out.setCell lz _).setCell lz _).setCell lz _
theorem jaG (b o g n a:Nat)(i:Ig)(w:World)(u:i.ok)(C:n<i.bytes.length)(v:n<=a)(t:g<w.heap.size)(x:Sl w (.slice (some ⟨g,0,none⟩) n a) (i.bytes.take n)) :
  Calls prog 148 #[.pointer (some ⟨b,o,none⟩),.slice (some ⟨g,0,none⟩) n a] w fun e w'=>e=.returned (.tuple #[Og,.bool false])/\B7 w w':=by
 refine jek b o _ (some ⟨g,0,none⟩) n a w rfl (fun j q=>?_)
 have d:(i.bytes.take n).length=n:=by rw [List.length_take];omega
 cases n with
 | zero=>exact ja7 b o _ a j
 | succ f=>
  have A:=i.blen;have r:(i.bytes.take (f+1)).getD 0 0=(i.ks.length:Int):=by
   have e:i.bytes=(i.ks.length:Int) :: i.bytes.tail:=rfl;rw [e];rfl
  rcases x with ⟨m,_⟩ | ⟨_,z,D,y,e,_,_,s⟩
  ·rw [m] at d;simp at d
  ·injection e with e _ _;injection e with e;injection e with k l;subst k l;have c:=s 0 (by omega);rw [r] at c;have B:=u.len;exact u6 b o g (f+1) a (i.ks.length:Int) j v ⟨by omega,by omega⟩ (by omega) (by omega) ((q.cell (p:=⟨g,0,none⟩) t).trans c)
end Go.Proofs.YtnlgndpcddngoaaGreatDoor
